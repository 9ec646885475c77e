/- Walks of chapter 5: Expand. -/
import Derived.Test.YtjnjedannpnjiaaDoorXc
namespace Go.Proofs.YtjnjedannpnjiaaDoor
open Go.RowKit

theorem tg_xp (k u : List Nat) (i n j : Nat) (h : n ≤ 64 * i) (hj : j < n) : tg k u i j = (xp k u n).getD j 0 := by
  rw [← tg_end k u i n h, List.getD_eq_getElem?_getD, List.getElem?_map, List.getElem?_range hj]; rfl
theorem wrap_small (n : Int) (h0 : 0 ≤ n) (h1 : n < 2 ^ 40) : IntKind.i64.wrap n = n := by unfold IntKind.wrap; simp [IntKind.bits, IntKind.signed]; omega
set_option maxRecDepth 100000 in
set_option maxHeartbeats 1000000 in
theorem expand_neg (A C : Option Addr) (k u ca cc : Nat) (n : Int) (hn : n < 0) (args : Array Value) (w : World) (h : args = #[.slice A k ca, .slice C u cc, .int .i64 n]) :
    Calls Tryd.prog 10 args w fun e w' => e = .returned (.tuple #[.slice none 0 0, .int .i64 1]) ∧ Below w.heap.size w w' := by
  subst h
  go_enter Tryd.func10, Tryd.ntmps10
  go_wp2
  refine wp_scope_jumps 0 (fun _ _ => False) (fun _ _ => 0) rfl ?_ (fun _ _ h => h.elim)
  go_wp2
  all_goals simp only [Exit.jump]
  go_ret2
  exact ⟨rfl, ((Below.refl w.heap.size w).alloc (Nat.le_refl _) _).alloc (by simp) _⟩
set_option maxRecDepth 100000 in
set_option maxHeartbeats 1000000 in
theorem expand_long (A C : Option Addr) (k u ca cc : Nat) (n : Int) (hn : 16320 < n) (args : Array Value) (w : World) (h : args = #[.slice A k ca, .slice C u cc, .int .i64 n]) :
    Calls Tryd.prog 10 args w fun e w' => e = .returned (.tuple #[.slice none 0 0, .int .i64 50]) ∧ Below w.heap.size w w' := by
  subst h
  have h0 : ¬ n < 0 := by omega
  go_enter Tryd.func10, Tryd.ntmps10
  go_wp2
  refine wp_scope_jumps 0 (fun _ _ => False) (fun _ _ => 0) rfl ?_ (fun _ _ h => h.elim)
  go_wp2
  all_goals simp only [Exit.jump]
  go_ret2
  exact ⟨rfl, ((Below.refl w.heap.size w).alloc (Nat.le_refl _) _).alloc (by simp) _⟩
/-- What holds at each jump. -/
def ExpJ (A C : Option Addr) (k u : List Nat) (ca cc n : Nat) (w : World) (a' : Act) (w' : World) : Prop :=
  ∃ (i d : Nat) (B : Option Addr) (cb : Nat) (z5 z6 z7 z12 z13 z14 z15 z16 z17 z18 z19 z20 z21 z22 z23 z24 z25 z26 z27 z28 z29 z30 z31 z32 z33 z34 z35 z36 z37 z38 : Value), d = min (64 * i) n ∧ a' = { tmps := #[.slice A k.length ca, .slice C u.length cc, .int .i64 (n : Int), .pointer (some ⟨w.heap.size, 0, none⟩), .pointer (some ⟨w.heap.size + 1, 0, none⟩), z5, z6, z7, .func (.func 15) #[] #[.pointer (some ⟨w.heap.size, 0, none⟩), .pointer (some ⟨w.heap.size + 1, 0, none⟩)], .slice (some ⟨w.heap.size + 2, 0, none⟩) n n, .slice B (tb k u i).length cb, .int .i64 (d : Int), z12, z13, z14, z15, z16, z17, z18, z19, z20, z21, z22, z23, z24, z25, z26, z27, z28, z29, z30, z31, z32, z33, z34, z35, z36, z37, z38], defers := [] } ∧
    Blk w' w.heap.size #[.slice A k.length ca] 23 ∧ Blk w' (w.heap.size + 1) #[.slice C u.length cc] 23 ∧ Blk w' (w.heap.size + 2) (vals .u8 n (tg k u i)) 5 ∧ Rds w' B (tb k u i) ∧ (tb k u i).length ≤ cb ∧ Below w.heap.size w w'
def expMu (n : Nat) (a' : Act) (_ : World) : Nat := n - (intOf (a'.tmps.getD 11 undef)).toNat
set_option maxRecDepth 100000 in
set_option maxHeartbeats 2000000 in
theorem expand_any (h0 : SumOk) (A C : Option Addr) (k u : List Nat) (ca cc n : Nat) (w : World) (hn : n ≤ 16320) (hG : Glob w) (hA : Rds w A k) (hca : k.length ≤ ca) (hk : ∀ x ∈ k, x < 256) (hC : Rds w C u) (hcc : u.length ≤ cc) (hu : ∀ x ∈ u, x < 256) (hs : k.length < 2 ^ 27) (hs2 : u.length < 2 ^ 27) :
    Calls Tryd.prog 10 #[.slice A k.length ca, .slice C u.length cc, .int .i64 (n : Int)] w fun e w' => ∃ g, e = .returned (.tuple #[.slice (some ⟨g, 0, none⟩) n n, .int .i64 0]) ∧ w.heap.size ≤ g ∧ Blk w' g (vals .u8 n (fun j => (xp k u n).getD j 0)) 5 ∧ Below w.heap.size w w' := by
  have H0 := hide h0
  have Hn := hide hn
  have HG := hide hG
  have HA := hide hA
  have Hca := hide hca
  have Hk := hide hk
  have HC := hide hC
  have Hcc := hide hcc
  have Hu := hide hu
  have Hs := hide hs
  have Hs2 := hide hs2
  clear h0 hn hG hA hca hk hC hcc hu hs hs2
  go_enter Tryd.func10, Tryd.ntmps10
  go_wp2
  refine scope_jumps 0 (ExpJ A C k u ca cc n w) (expMu n) rfl ?_ ?_
  · rintro a' w' ⟨i, d, B, cb, z5, z6, z7, z12, z13, z14, z15, z16, z17, z18, z19, z20, z21, z22, z23, z24, z25, z26, z27, z28, z29, z30, z31, z32, z33, z34, z35, z36, z37, z38, hd, rfl, K0, U0, G0, R0, hcb, L⟩
    by_cases hdn : d < n
    · have hd2 : d = 64 * i := by omega
      have hi : i < 255 := by have := Hn.out; omega
      have hlt : (d : Int) < (n : Int) := by omega
      obtain ⟨c, hc⟩ : ∃ c, c = i + 1 := ⟨_, rfl⟩
      have hq : (d : Int).tdiv 64 = (i : Int) := by rw [Int.tdiv_eq_ediv_of_nonneg (by omega)]; omega
      have hqw : IntKind.i64.wrap ((d : Int).tdiv 64) = (i : Int) := by rw [hq, wrap_small _ (by omega) (by omega)]
      have hiw : IntKind.i64.wrap (i : Int) = (i : Int) := wrap_small _ (by omega) (by omega)
      have hcw : IntKind.i64.wrap ((i : Int) + 1) = (c : Int) := by rw [wrap_small _ (by omega) (by omega)]; omega
      have hcu : IntKind.u8.wrap (c : Int) = (c : Int) := by unfold IntKind.wrap; simp [IntKind.bits, IntKind.signed]; omega
      have Hc : Hid (c < 256) := hide (by omega)
      have Htl := hide (tb_le k u i)
      have Htt := hide (tb_lt k u i)
      have Hnx := hide (tb_next k u i hi)
      rw [← hc] at Hnx
      obtain ⟨m, hm⟩ : ∃ m, m = min 64 (n - d) := ⟨_, rfl⟩
      obtain ⟨e, he⟩ : ∃ e, e = d + m := ⟨_, rfl⟩
      obtain ⟨f, hf⟩ : ∃ f, f = mc k (tb k u i ++ (u ++ [c])) := ⟨_, rfl⟩
      have Htg : Hid (∀ j, j < n → laid (tg k u i) f d m j = tg k u (i + 1) j) := hide (fun j hj => by rw [hm, hd2]; exact tg_next k u i n j f (by rw [hf, ← Hnx.out, hc]) hj (by omega))
      have He : Hid (e = min (64 * (i + 1)) n) := hide (by omega)
      have Hlt : Hid (d < n ∧ d < e ∧ e ≤ n) := hide (by omega)
      have Hm := hide hm
      have He2 := hide he
      have Hf := hide hf
      have Hcb := hide hcb
      obtain ⟨t, ht⟩ : ∃ t, t = tb k u i := ⟨_, rfl⟩
      obtain ⟨F, hF⟩ : ∃ F, F = tg k u i := ⟨_, rfl⟩
      rw [← ht] at R0 Htl Htt Hf Hcb
      rw [← ht] at Hnx
      rw [← hF] at G0 Htg
      have HK := hide K0
      have HU := hide U0
      have HM := hide G0
      have HR := hide R0
      have HL := hide L
      have Hci := hide hc
      clear hd hd2 hi hcb hc hm he hf hdn K0 U0 G0 R0 L
      rw [← ht]
      clear ht hF
      have hz := zero24
      go_upto_region 11 with (first
        | (go_at_call 15; refine (asked_at f H0.out A B C k t u c Hf.out ca cb cc w.heap.size (w.heap.size + 1) _ _ rfl HK.out HU.out (HG.out.low HL.out) (HA.out.low HL.out) Hca.out Hk.out HR.out Hcb.out Htt.out (HC.out.low HL.out) Hcc.out Hu.out Hc.out (by have := Hs.out; omega) (by have := Htl.out; have := Hs2.out; omega)).mono ?_; rintro e' k1 ⟨rfl, hb⟩; have K1 := hide (HK.out.call hb); have U1 := hide (HU.out.call hb); have M1 := hide (HM.out.call hb); have L1 := hide (keepLow2 HL.out hb); clear hb; dsimp only)
        | (refine wpList_store_abs rfl 27 _ _ rfl k1.heap.size (vals .u8 64 f) rfl rfl 27 _ (Blk.new k1 _ _) (by rw [vals_size]; exact cells24) (by simp only [vals_size]) (vals_one _ _ _) ?_; intro k2 Bn Sn; have K2 := hide (Sn.other _ _ _ (Nat.ne_of_gt K1.out.lt) (K1.out.alloc _)); have U2 := hide (Sn.other _ _ _ (Nat.ne_of_gt U1.out.lt) (U1.out.alloc _)); have M2 := hide (Sn.other _ _ _ (Nat.ne_of_gt M1.out.lt) (M1.out.alloc _)); have L2 := hide (Sn.low _ _ (L1.out.alloc L1.out.size _) L1.out.size); have B2 := hide Bn; have Ne := hide (Nat.ne_of_lt M1.out.lt); clear Bn Sn))
      clear hz
      generalize k1.heap.size = b at *
      refine xe_region _ (fun _ _ _ _ _ h => h) k2 _ _ _ _ _ _ _ _ _ _ _ _ _ _ _ _ _ _ _ _ _ _ _ _ _ _ _ _ _ _ _ _ _ _ _ (w.heap.size + 2) b n d m e F f M2.out B2.out Hlt.out.1 Hm.out He2.out (by have := Hn.out; omega) ?_
      have K3 := hide (K2.out.drew.rowOther (b' := w.heap.size + 2) (vals .u8 n (laid F f d m)) (by omega))
      have U3 := hide (U2.out.drew.rowOther (b' := w.heap.size + 2) (vals .u8 n (laid F f d m)) (by omega))
      have M3 := hide ((M2.out.drew.row (vals .u8 n (laid F f d m))).cast (vals_congr _ _ _ _ Htg.out))
      have B3 := hide (B2.out.drew.rowOther (b' := w.heap.size + 2) (vals .u8 n (laid F f d m)) Ne.out)
      have L3 := hide (Below.row (b := w.heap.size + 2) L2.out.drew (by omega) (vals .u8 n (laid F f d m)))
      generalize k2.drew.setRow (w.heap.size + 2) (vals .u8 n (laid F f d m)) = k3 at *
      go_wp2
      go_step3
      have e1 : (tb k u (i + 1)) = (List.range 64).map f := by rw [← Hci.out, Hnx.out, Hf.out]
      refine ⟨rfl, ⟨i + 1, e, some ⟨b, 0, none⟩, 64, _, _, _, _, _, _, _, _, _, _, _, _, _, _, _, _, _, _, _, _, _, _, _, _, _, _, _, _, _, _, He.out, by rw [tb_len], K3.out, U3.out, M3.out, by rw [e1]; exact rds_vals B3.out, by rw [tb_len]; exact Nat.le_refl _, L3.out⟩, ?_⟩
      simp [expMu, intOf]
      have := Hlt.out
      omega
    · have hdl : d = n := by omega
      have hlt : ¬ (d : Int) < (n : Int) := by omega
      have HM := hide (G0.cast (vals_congr _ _ _ (fun j => (xp k u n).getD j 0) fun j hj => tg_xp k u i n j (by omega) hj))
      have HL := hide L
      clear hd hdn hdl K0 U0 G0 R0 hcb L
      go_wp2
      all_goals simp only [Exit.jump]
      go_ret2
      exact ⟨_, rfl, by omega, HM.out, HL.out⟩
  · intro H
    have hn0 : ¬ (n : Int) < 0 := by omega
    have hn1 : ¬ (16320 : Int) < (n : Int) := by have := Hn.out; omega
    have hmf : ∀ (fn : Fn) (first cap : Array Value) (w : World), (Instr.makeFunc fn first cap).run Tryd.prog w = .ok (.func fn first cap) w := fun _ _ _ _ => rfl
    go_wp2_with (at_make; refine wpList_make_w (by rfl) _ _ rfl n rfl rfl (by have := Hn.out; omega) ?_)
    go_step3
    rename_i hK
    refine hK _ _ (H _ _ ?_)
    refine ⟨0, 0, none, 0, _, _, _, _, _, _, _, _, _, _, _, _, _, _, _, _, _, _, _, _, _, _, _, _, _, _, _, _, _, _, by simp, rfl, ?_, ?_, ?_, Or.inl rfl, Nat.le_refl _, ?_⟩
    · exact ((Blk.new w _ _).alloc _).alloc _
    · exact (Blk.new' (w.alloc _) (w.heap.size + 1) (by simp) _ _).alloc _
    · exact (Blk.new' ((w.alloc _).alloc _) (w.heap.size + 2) (by simp) _ _).cast (vals_congr _ _ _ _ fun j _ => rfl)
    · exact (((Below.refl _ w).alloc (Nat.le_refl _) _).alloc (by simp) _).alloc (by simp; omega) _
theorem expand_at (h0 : SumOk) (A C : Option Addr) (k u : List Nat) (ca cc n : Nat) (args : Array Value) (w : World) (h : args = #[.slice A k.length ca, .slice C u.length cc, .int .i64 (n : Int)]) (hn : n ≤ 16320) (hG : Glob w) (hA : Rds w A k) (hca : k.length ≤ ca) (hk : ∀ x ∈ k, x < 256) (hC : Rds w C u) (hcc : u.length ≤ cc) (hu : ∀ x ∈ u, x < 256) (hs : k.length < 2 ^ 27) (hs2 : u.length < 2 ^ 27) :
    Calls Tryd.prog 10 args w fun e w' => ∃ g, e = .returned (.tuple #[.slice (some ⟨g, 0, none⟩) n n, .int .i64 0]) ∧ w.heap.size ≤ g ∧ Blk w' g (vals .u8 n (fun j => (xp k u n).getD j 0)) 5 ∧ Below w.heap.size w w' := by
  subst h; exact expand_any h0 A C k u ca cc n w hn hG hA hca hk hC hcc hu hs hs2
end Go.Proofs.YtjnjedannpnjiaaDoor
