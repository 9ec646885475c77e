/- The reference of chapter 4: Sum. -/
import Derived.Test.YtjnjedannpnjiaaDoorRs
namespace Go.Proofs.YtjnjedannpnjiaaDoor
open Go.RowKit

theorem app_block {B b y : Nat} {w : World} {k : List Nat} (h : Blk w b (vals .u8 128 (kb k y)) 5) (hg : B ≤ b) (hBw : B ≤ w.heap.size) (A2 : Option Addr) (l : List Nat) (cap2 : Nat) (hs : Rds w A2 l) (hl : l.length < 2 ^ 30) :
    ∃ A' cap' w', (∀ ty, (Builtin.append_ #[23, 23] ty #[.slice (some ⟨b, 0, none⟩) 128 128, .slice A2 l.length cap2]).run Tryd.prog w = .ok (.slice A' (kl k y ++ l).length cap') w') ∧ (kl k y ++ l).length ≤ cap' ∧ Rds w' A' (kl k y ++ l) ∧ w.heap.size ≤ w'.heap.size ∧ ∀ a, Below B a w → Below B a w' := by
  have e : ((List.range 128).map (kb k y)).length = 128 := by simp
  obtain ⟨A', cap', w', hr, ho, hz, hlo⟩ := app_bytes (own_vals h hg) hBw A2 l cap2 hs (Or.inr rfl) (by rw [e]; omega)
  rw [e] at hr
  obtain ⟨A'', cap'', e2, h2, h3, _⟩ := own_rds ho
  injection e2 with e3 e4 e5
  subst e3 e5
  refine ⟨A', cap', w', fun ty => ?_, h2, h3, hz, hlo⟩
  rw [hr ty, List.length_append, kl_len]
theorem app_lt (k l : List Nat) (y : Nat) (hk : ∀ x ∈ k, x < 256) (hy : y < 256) (hl : ∀ x ∈ l, x < 256) : ∀ x ∈ kl k y ++ l, x < 256 := fun x hx => by
  rcases List.mem_append.1 hx with h | h
  · exact kl_lt k y hk hy x h
  · exact hl x h
def rtOp0 : Oper := { dst := some 11, op := Op.move (Operand.tmp 0), type := 23, pos := "ref.go:25", after := #[], guard := none }
def rtOp1 : Oper := { dst := some 12, op := Op.call { callee := Callee.value (Operand.func 21), args := #[Operand.tmp 11, Operand.const (Value.int IntKind.u8 92)], argTypes := #[23, 5] }, type := 23, pos := "ref.go:25", after := #[{ on := 0, ground := Ground.data }], guard := none }
def rtOp2 : Oper := { dst := some 13, op := Op.slice 27 (Operand.tmp 5) none none none, type := 23, pos := "ref.go:25", after := #[], guard := none }
def rtOp3 : Oper := { dst := some 14, op := Op.call { callee := Callee.builtin Builtin.append, args := #[Operand.tmp 12, Operand.tmp 13], argTypes := #[23, 23] }, type := 23, pos := "ref.go:25", after := #[{ on := 1, ground := Ground.data }, { on := 2, ground := Ground.data }, { on := 1, ground := Ground.chain }], guard := none }
def rtOp4 : Oper := { dst := some 15, op := Op.call { callee := Callee.value (Operand.func 20), args := #[Operand.tmp 14], argTypes := #[23] }, type := 27, pos := "ref.go:25", after := #[{ on := 3, ground := Ground.data }, { on := 3, ground := Ground.chain }], guard := none }
def rtOp5 : Oper := { dst := none, op := Op.store 27 (Operand.tmp 4) (Operand.tmp 15), type := 0, pos := "ref.go:25", after := #[{ on := 4, ground := Ground.data }, { on := 4, ground := Ground.chain }, { on := 0, ground := Ground.phase }, { on := 1, ground := Ground.phase }, { on := 2, ground := Ground.phase }, { on := 3, ground := Ground.phase }, { on := 4, ground := Ground.phase }], guard := none }
def rtOps : Array Oper := #[rtOp0, rtOp1, rtOp2, rtOp3, rtOp4, rtOp5]
theorem wp_app {P : Program} {o : Oper} {a : Act} {w : World} {K : Act → World → Prop} {Q : Exit → Act → World → Prop} (d s : Operand) (t : TypeId) (ho : o.op = .call { callee := .builtin .append, args := #[d, s], argTypes := #[t, t] })
    {v x v' : Value} {w' : World} (hd : a.eval d = v) (hs : a.eval s = x) (hrun : ∀ ty, (Builtin.append_ #[t, t] ty #[v, x]).run P w = .ok v' w') (hK : K (a.put o.dst v') w') : o.wp P a w K Q := by
  unfold Oper.wp
  simp [execOp, ho, resolve, invoke, builtin, hd, hs, hrun, Result.andThen]
  exact hK
set_option maxRecDepth 100000 in
set_option maxHeartbeats 1000000 in
theorem rt_region (Q : Exit → Act → World → Prop) (hQ : ∀ c a w n v, Q (.panic c) (a.put (some n) v) w → Q (.panic c) a w) (w u : World) (z1 z2 z3 z6 z7 z8 z9 z10 z11 z12 z13 z14 z15 : Value) (A : Option Addr) (k l : List Nat) (cap bi bz : Nat)
    (HA : Rds u A k) (Hcap : k.length ≤ cap) (Hk : ∀ x ∈ k, x < 256) (Hn : k.length < 2 ^ 30) (HD : Blk u bi (vals .u8 64 (dg (kl k 54 ++ l))) 27) (HZ : Blk u bz (vals .u8 64 (fun _ => 0)) 27) (HL : Below w.heap.size w u) (hz : w.heap.size ≤ bz)
    (H : ∀ (b c6 : Nat) (A6 : Option Addr) (x : World), Below w.heap.size w x → Blk x bz (vals .u8 64 (dg (kl k 92 ++ dl (kl k 54 ++ l)))) 27 → Q .normal { tmps := List.toArray ((.slice A k.length cap) :: z1 :: z2 :: z3 :: (.pointer (some ⟨bz, 0, none⟩)) :: (.pointer (some ⟨bi, 0, none⟩)) :: z6 :: z7 :: z8 :: z9 :: z10 :: (.slice A k.length cap) :: (.slice (some ⟨b, 0, none⟩) 128 128) :: (.slice (some ⟨bi, 0, none⟩) 64 64) :: (.slice A6 ((kl k 92 ++ dl (kl k 54 ++ l)).length) c6) :: (.agg (vals .u8 64 (dg (kl k 92 ++ dl (kl k 54 ++ l))))) :: []), defers := [] } x) :
    (Code.region 2 rtOps true).wp Tryd.prog Q { tmps := List.toArray ((.slice A k.length cap) :: z1 :: z2 :: z3 :: (.pointer (some ⟨bz, 0, none⟩)) :: (.pointer (some ⟨bi, 0, none⟩)) :: z6 :: z7 :: z8 :: z9 :: z10 :: z11 :: z12 :: z13 :: z14 :: z15 :: []), defers := [] } u := by
  refine wp_region_held_drew (S := fun _ => True) (by kernel_rfl) trivial (fun hS => ?_)
  refine wpAnyH_take (i := 0) (oi := rtOp0) (v := .slice A k.length cap) rfl (by kernel_rfl) (by kernel_rfl) (by kernel_rfl) (fun _ _ _ => hQ _ _ _ _ _) (Or.inl ⟨by rfl, fun w hSw => by unfold rtOp0; go_simp⟩) hS ?_
  try simp only [rtOp0, Act.put, List.setIfInBounds_toArray, List.set_cons_zero, List.set_cons_succ]
  refine wpAnyH_take (i := 2) (oi := rtOp2) (v := .slice (some ⟨bi, 0, none⟩) 64 64) rfl (by kernel_rfl) (by kernel_rfl) (by kernel_rfl) (fun _ _ _ => hQ _ _ _ _ _) (Or.inl ⟨by rfl, fun w hSw => by unfold rtOp2; go_simp⟩) hS ?_
  try simp only [rtOp2, Act.put, List.setIfInBounds_toArray, List.set_cons_zero, List.set_cons_succ]
  refine wpAnyH_ready (rs := [1]) (by kernel_rfl) (by simp) ?_
  refine AllReadyH.cons (o := rtOp1) rfl (fun K hK => ?_) AllReadyH.nil
  unfold rtOp1
  go_simp
  refine (rblock_at A k cap 92 _ _ rfl (HA.low (Below.refl _ u).drew) Hcap Hk Hn (by omega)).mono ?_
  rintro e x ⟨b, rfl, hb, hg, hB⟩
  dsimp only
  refine hK.out _ _ trivial (fun _ => ?_)
  clear hK K
  try simp only [Act.put, List.setIfInBounds_toArray, List.set_cons_zero, List.set_cons_succ]
  obtain ⟨A6, c6, x6, hr, hc, hs, hsz, hlo⟩ := app_block hB hg hb.size (some ⟨bi, 0, none⟩) (dl (kl k 54 ++ l)) 64 (rds_vals (Blk.call (Blk.drew HD) hb)) (by rw [dl_len]; omega)
  rw [dl_len] at hr
  have HZ6 := Blk.call (Blk.drew HZ) (hlo _ hb)
  have L6 := keepLow2 HL.drew (hlo _ hb)
  refine wpAnyH_ready (rs := [3]) (by kernel_rfl) (by simp) ?_
  refine AllReadyH.cons (o := rtOp3) rfl (fun K hK => ?_) AllReadyH.nil
  unfold rtOp3
  rw [if_pos (by rfl)]
  refine wp_app _ _ 23 rfl rfl rfl hr ?_
  refine hK.out _ _ trivial (fun _ => ?_)
  clear hK K
  simp only [Act.put, List.setIfInBounds_toArray, List.set_cons_zero, List.set_cons_succ]
  refine wpAnyH_ready (rs := [4]) (by kernel_rfl) (by simp) ?_
  refine AllReadyH.cons (o := rtOp4) rfl (fun K hK => ?_) AllReadyH.nil
  unfold rtOp4
  go_simp
  refine (rSum_at A6 (kl k 92 ++ dl (kl k 54 ++ l)) c6 _ _ (by rw [List.length_append, dl_len]) hs hc (app_lt k _ 92 Hk (by omega) (dl_lt _)) (by rw [List.length_append, kl_len, dl_len]; omega)).mono ?_
  rintro e x7 ⟨rfl, hb7⟩
  dsimp only
  refine hK.out _ _ trivial (fun _ => ?_)
  clear hK K
  try simp only [Act.put, List.setIfInBounds_toArray, List.set_cons_zero, List.set_cons_succ]
  refine wpAnyH_ready (rs := [5]) (by kernel_rfl) (by simp) ?_
  refine AllReadyH.cons (o := rtOp5) rfl (fun K hK => ?_) AllReadyH.nil
  unfold rtOp5
  rw [if_pos (by rfl)]
  refine wp_store_row 27 _ _ rfl bz (vals .u8 64 (dg (kl k 92 ++ dl (kl k 54 ++ l)))) rfl rfl 27 _ (HZ6.call hb7) (by rw [vals_size]; exact cells24) (by rw [vals_size, vals_size]) (vals_one _ _ _) ?_
  refine hK.out _ _ trivial (fun _ => ?_)
  clear hK K
  simp only [Act.put]
  first
    | exact wpAnyH_done (by kernel_rfl) (H b c6 A6 _ (Below.row (keepLow2 L6 hb7) hz _) ((HZ6.call hb7).row _)) _
    | (simp only [List.length_append, dl_len] at H; exact wpAnyH_done (by kernel_rfl) (H b c6 A6 _ (Below.row (keepLow2 L6 hb7) hz _) ((HZ6.call hb7).row _)) _)
set_option maxRecDepth 100000 in
set_option maxHeartbeats 1000000 in
theorem rmac_any (A A2 : Option Addr) (k l : List Nat) (cap cap2 : Nat) (w : World) (hA : Rds w A k) (hcap : k.length ≤ cap) (hk : ∀ x ∈ k, x < 256) (hn : k.length < 2 ^ 29) (hA2 : Rds w A2 l) (hcap2 : l.length ≤ cap2) (hl : ∀ x ∈ l, x < 256) (hn2 : l.length < 2 ^ 29) :
    Calls Tryd.prog 16 #[.slice A k.length cap, .slice A2 l.length cap2] w fun e w' => e = .returned (.agg (vals .u8 64 (mc k l))) ∧ Below w.heap.size w w' := by
  have HA := hide hA
  have Hcap := hide hcap
  have Hk := hide hk
  have Hn := hide hn
  have HA2 := hide hA2
  have Hcap2 := hide hcap2
  have Hl := hide hl
  have Hn2 := hide hn2
  clear hA hcap hk hn hA2 hcap2 hl hn2
  have hz := zero24
  have B0 := hide (Blk.new w (vals .u8 64 (fun _ => 0)) 27)
  have L0 := hide ((Below.refl w.heap.size w).alloc (Nat.le_refl _) (.cells (vals .u8 64 (fun _ => 0)) 27))
  go_enter Tryd.func16, Tryd.ntmps16
  go_upto_region 2 with (first
    | (go_at_call 21; refine (rblock_at A k cap 54 _ _ rfl (HA.out.low L0.out) Hcap.out Hk.out (by have := Hn.out; omega) (by omega)).mono ?_; rintro e k1 ⟨b1, rfl, hb, hg, hB⟩; obtain ⟨A3, c3, k2, hr3, hc3, hs3, hz3, hl3⟩ := app_block hB hg hb.size A2 l cap2 (HA2.out.low (keepLow2 L0.out hb)) (by have := Hn2.out; omega); have R3 := hide hr3; have C3 := hide hc3; have S3 := hide hs3; have Bz := hide (B0.out.call (hl3 _ hb)); have L2 := hide (keepLow2 L0.out (hl3 _ hb)); clear hb hg hB hr3 hc3 hs3 hz3 hl3; dsimp only)
    | (at_builtin; refine wpList_app rfl _ _ 23 rfl rfl rfl R3.out ?_)
    | (go_at_call 20; refine (rSum_at A3 (kl k 54 ++ l) c3 _ _ (by rw [List.length_append]) S3.out C3.out (app_lt k l 54 Hk.out (by omega) Hl.out) (by rw [List.length_append, kl_len]; have := Hn2.out; omega)).mono ?_; rintro e k3 ⟨rfl, hb⟩; have Bi := hide (Blk.new k3 (vals .u8 64 (fun _ => 0)) 27); have Bz2 := hide ((Bz.out.call hb).alloc (.cells (vals .u8 64 (fun _ => 0)) 27)); have Ne := hide (Nat.ne_of_gt (Bz.out.call hb).lt); have L3 := hide ((keepLow2 L2.out hb).alloc (keepLow2 L2.out hb).size (.cells (vals .u8 64 (fun _ => 0)) 27)); have G3 := hide (keepLow2 L2.out hb).size; clear hb Bz L2 R3 S3 C3; dsimp only)
    | (refine wpList_store_row rfl 27 _ _ rfl k3.heap.size (vals .u8 64 (dg (kl k 54 ++ l))) rfl rfl 27 _ Bi.out (by rw [vals_size]; exact cells24) (by rw [vals_size, vals_size]) (vals_one _ _ _) ?_))
  have D := hide (Bi.out.row (vals .u8 64 (dg (kl k 54 ++ l))))
  have Z := hide (Bz2.out.rowOther (b' := k3.heap.size) (vals .u8 64 (dg (kl k 54 ++ l))) Ne.out)
  have L5 := hide (Below.row L3.out G3.out (vals .u8 64 (dg (kl k 54 ++ l))))
  clear Bi Bz2 L3 B0 L0 hz
  generalize (k3.alloc (.cells (vals .u8 64 (fun _ => 0)) 27)).setRow k3.heap.size (vals .u8 64 (dg (kl k 54 ++ l))) = w5 at *
  generalize k3.heap.size = bi at *
  refine rt_region _ (fun _ _ _ _ _ h => h) w w5 _ _ _ _ _ _ _ _ _ _ _ _ _ A k l cap bi w.heap.size (HA.out.low L5.out) Hcap.out Hk.out (by have := Hn.out; omega) D.out Z.out L5.out (Nat.le_refl _) ?_
  intro b c6 A6 w7 L7 Z7
  go_wp2
  refine bodyPost_ret (v := .agg (vals .u8 64 (mc k l))) (results_cell_row Tryd.results16 _ _ w.heap.size 27 _ (0, 0) _ rfl Z7 Tryd.underlying27 rfl (by rw [vals_size]; exact cells24)) rfl ⟨rfl, L7⟩
theorem rmac_at (A A2 : Option Addr) (k l : List Nat) (cap cap2 : Nat) (args : Array Value) (w : World) (h : args = #[.slice A k.length cap, .slice A2 l.length cap2]) (hA : Rds w A k) (hcap : k.length ≤ cap) (hk : ∀ x ∈ k, x < 256) (hn : k.length < 2 ^ 29) (hA2 : Rds w A2 l) (hcap2 : l.length ≤ cap2) (hl : ∀ x ∈ l, x < 256) (hn2 : l.length < 2 ^ 29) :
    Calls Tryd.prog 16 args w fun e w' => e = .returned (.agg (vals .u8 64 (mc k l))) ∧ Below w.heap.size w w' := by
  subst h; exact rmac_any A A2 k l cap cap2 w hA hcap hk hn hA2 hcap2 hl hn2
end Go.Proofs.YtjnjedannpnjiaaDoor
