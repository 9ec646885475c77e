/- awake: the calls whose answers the document fixes, told. -/
import Derived.Test.YtokhmhodkakioaaDoorAk
import Derived.Test.YtokhmhodkakioaaDoorAj
import Derived.Deep.DeepCutAuto
namespace Go.Proofs.YtokhmhodkakioaaDoor
open Go.RowKit

section
variable {P : Program} {ops : Array Oper} {Q : Exit → Act → World → Prop} {a : Act} {w : World} {rest : List Oper} {o : Oper}
theorem wpList_want (hw : Region.wanted o (yielded ops a.tmps) = true)
    (h : ∀ K : Act → World → Prop, (∀ a w, wpList P ops Q rest a w → K a w) → o.wp P a w K Q) : wpList P ops Q (o :: rest) a w :=
  wpList_step fun K hK => by rw [if_pos hw]; exact h K hK
theorem wpList_load_w (hw : Region.wanted o (yielded ops a.tmps) = true) (ty : TypeId) (x : Operand) (ho : o.op = .load ty x)
    (g : Nat) (hx : a.eval x = .pointer (some ⟨g, 0, none⟩)) (t : TypeId) (cs : Array Value) (fr : Nat × Nat) (d : TypeDesc) (hg : w.heap[g]? = some (.cells cs t fr))
    (hu : P.underlying ty = some d) (hd : (match d with | .struct _ | .array _ _ => true | _ => false) = true) (hi : (P.info? ty).map (·.size) = some cs.size)
    (h : wpList P ops Q rest (a.put o.dst (.agg cs)) w) : wpList P ops Q (o :: rest) a w :=
  wpList_want hw fun _ hK => wp_load_row ty x ho g hx t cs fr d hg hu hd hi (hK _ _ h)
theorem wpList_build_w (hw : Region.wanted o (yielded ops a.tmps) = true) (t : TypeId) (parts : Array (Nat × Operand)) (ho : o.op = .build t parts) (c : Array Value)
    (hf : P.built t (parts.map fun (i, x) => (i, a.eval x)).toList = some c)
    (h : wpList P ops Q rest (a.put o.dst (.agg c)) w) : wpList P ops Q (o :: rest) a w :=
  wpList_want hw fun _ hK => wp_build t parts ho (by rw [hf]; rfl) (hK _ _ (by rw [hf]; exact h))
end
theorem yields_build {P : Program} {ops : Array Oper} {op : Oper} {a : Act} {S : World → Prop} {c : Array Value} (hw : Region.wanted op (yielded ops a.tmps) = true) (t : TypeId) (parts : Array (Nat × Operand)) (ho : op.op = .build t parts)
    (h : P.built t (parts.map fun (i, x) => (i, a.eval x)).toList = some c) : YieldsIf P ops S op (.agg c) a :=
  .inl ⟨hw, fun w _ => by
    unfold execOp
    simp only [ho, Sem.run_bind, run_build w t _ c h, Result.andThen_ok]
    rfl⟩
theorem eq_vals (f g : Nat → Nat) (w : World) : (Op.equalIn 10000 23 (.agg (vals .u8 32 f)) (.agg (vals .u8 32 g))).run Tryd.prog w = .ok ((List.range 32).all fun i => f i == g i) w :=
  run_equal_vals (P := Tryd.prog) w 9998 23 5 32 .u8 Tryd.underlying23 Tryd.underlying5 size5 f g
theorem eq_vals' (f g : Nat → Nat) (b : Bool) (h : ((List.range 32).all fun i => f i == g i) = b) (w : World) : (Op.equalIn 10000 23 (.agg (vals .u8 32 f)) (.agg (vals .u8 32 g))).run Tryd.prog w = .ok b w := by
  rw [eq_vals, h]
theorem all_of (f g : Nat → Nat) (h : ∀ i, i < 32 → f i = g i) : ((List.range 32).all fun i => f i == g i) = true := by
  rw [List.all_eq_true]
  intro i hi
  rw [beq_iff_eq]; exact h i (by simpa using hi)
theorem eq_same (f g : Nat → Nat) (h : ∀ i, i < 32 → f i = g i) (w : World) : (Op.equalIn 10000 23 (.agg (vals .u8 32 f)) (.agg (vals .u8 32 g))).run Tryd.prog w = .ok true w := eq_vals' f g true (all_of f g h) w
theorem byt0 (i : Nat) : byt 0 i = 0 := by unfold byt; simp
theorem byt_one (n : Nat) (hn : n < 256) (i : Nat) : byt n i = oneB n i := by
  unfold byt oneB
  by_cases h : i = 0
  · subst h; simp; omega
  · rw [if_neg h]
    have : n / 2 ^ (8 * i) = 0 := Nat.div_eq_of_lt (Nat.lt_of_lt_of_le hn (by rw [show 256 = 2 ^ 8 from rfl]; exact Nat.pow_le_pow_right (by omega) (by omega)))
    rw [this]
theorem builtOne (n : Nat) : Tryd.prog.built 23 [(0, .int .u8 (n : Nat))] = some (vals .u8 32 (oneB n)) := by rfl
theorem nb_shift (f : Nat → Nat) : ∀ k, nb f (k + 1) = f 0 + 256 * nb (fun i => f (i + 1)) k
  | 0 => by simp [nb]
  | k + 1 => by
    rw [nb, nb_shift f k, nb, show 8 * (k + 1) = 8 + 8 * k by omega, Nat.pow_add, Nat.mul_add, Nat.mul_left_comm (f (k + 1)), Nat.add_assoc]
theorem nb_set0 (g : Nat → Nat) (v k : Nat) : nb (fun j => if j = 0 then v else g j) (k + 1) + g 0 = nb g (k + 1) + v := by
  rw [nb_shift, nb_shift g, nb_congr (fun i => (fun j => if j = 0 then v else g j) (i + 1)) (fun i => g (i + 1)) k fun j _ => by simp]
  simp; omega
theorem nb_q : nb (byt qL) 32 = qL := by rw [nb_byt, Nat.mod_eq_of_lt (show qL < 2 ^ (8 * 32) from qL_lt256)]
theorem nb_qw : nb (wd (byt qL)) 64 = qL := by rw [nb_wd, nb_q]
theorem byt_q0 : byt qL 0 = 237 := by decide +kernel
theorem byt_q31 : byt qL 31 = 16 := by decide +kernel
/-- The order and 5. -/
def q5 (j : Nat) : Nat := if j = 0 then 242 else wd (byt qL) j
theorem nb_q5 : nb q5 64 = qL + 5 := by
  have h := nb_set0 (wd (byt qL)) 242 63
  rw [show wd (byt qL) 0 = 237 from byt_q0, nb_qw] at h
  have e : nb q5 64 = nb (fun j => if j = 0 then 242 else wd (byt qL) j) (63 + 1) := rfl
  omega
theorem q5_lt (i : Nat) : q5 i < 256 := by unfold q5; split; omega; exact wd_lt _ (byt_lt _) i
theorem idx31 (w : World) : (Instr.index 23 (.agg (vals .u8 32 (byt qL))) (.int .i64 31)).run Tryd.prog w = .ok (.int .u8 16) w := by kernel_rfl
theorem idx0 (w : World) : (Instr.index 23 (.agg (vals .u8 32 (byt qL))) (.int .i64 0)).run Tryd.prog w = .ok (.int .u8 237) w := by kernel_rfl
theorem q5_mod : (qL + 5) % qL = 5 := by rw [Nat.add_mod_left]; exact Nat.mod_eq_of_lt (by unfold qL; omega)
theorem ten_mod : (nb (oneB 2) 32 * nb (oneB 3) 32 + nb (oneB 4) 32) % qL = 10 := by
  rw [nb_one 2 31, nb_one 3 31, nb_one 4 31]; decide +kernel
theorem nb_zero : ∀ k, nb (fun _ => 0) k = 0
  | 0 => rfl
  | k + 1 => by rw [nb, nb_zero k]; simp
theorem reduce_n (f : Nat → Nat) (n : Nat) (args : Array Value) (w : World) (h : args = #[bb f]) (hG : Glob w) (hf : ∀ i, f i < 256) (hn : nb f 64 % qL = n) :
    Calls Tryd.prog 8 args w fun e w' => e = .returned (ba (byt n)) ∧ Below w.heap.size w w' := by subst hn; exact reduce_at f args w h hG hf
theorem muladd_n (f g h : Nat → Nat) (n : Nat) (args : Array Value) (w : World) (ha : args = #[ba f, ba g, ba h]) (hG : Glob w) (hf : ∀ i, f i < 256) (hg : ∀ i, g i < 256) (hh : ∀ i, h i < 256) (hn : (nb f 32 * nb g 32 + nb h 32) % qL = n) :
    Calls Tryd.prog 10 args w fun e w' => e = .returned (ba (byt n)) ∧ Below w.heap.size w w' := by subst hn; exact muladd_at f g h args w ha hG hf hg hh
theorem fine_n (f : Nat → Nat) (b : Bool) (args : Array Value) (w : World) (h : args = #[ba f]) (hG : Glob w) (hf : ∀ i, f i < 256) (hb : decide (nb f 32 < qL) = b) :
    Calls Tryd.prog 12 args w fun e w' => e = .returned (.bool b) ∧ Below w.heap.size w w' := by subst hb; exact fine_at f args w h hG hf

set_option maxRecDepth 100000 in
set_option maxHeartbeats 2000000 in
theorem awake_any (w : World) (hG : Glob w) :
    Calls Tryd.prog 7 #[] w fun e w' => e = .returned (.bool true) ∧ Below w.heap.size w w' := by
  have HG := hide hG
  clear hG
  have HL := hide (Below.refl w.heap.size w)
  go_enter Tryd.func7, Tryd.ntmps7
  go_upto_region 2 with (first
    | (go_at_call 14; refine (order_at _ _ rfl HG.out).mono ?_; unfold ba; rintro e k1 ⟨rfl, hb⟩; have L1 := hide (HL.out.trans (hb.mono HL.out.size)); clear hb; dsimp only)
    | (go_at_call 16; refine (wide_at (byt qL) _ _ rfl).mono ?_; unfold bb; rintro e k2 ⟨rfl, hb⟩; have L2 := hide (L1.out.trans (hb.mono L1.out.size)); clear hb; dsimp only)
    | (refine wpList_store_abs rfl 22 _ _ rfl k2.heap.size (vals .u8 64 (wd (byt qL))) rfl rfl 22 _ (Blk.new k2 _ _) (by rw [vals_size]; exact cells22) (by rw [vals_size]; rfl) (vals_one _ _ _) ?_; intro k3 Bn Sn; have L3 := hide (Sn.low _ _ (L2.out.alloc L2.out.size _) L2.out.size); have A3 := hide Bn; clear Bn Sn))
  --GEN
  go_upto_region 3 with (first
    | (refine wpList_load_row rfl 22 _ rfl k2.heap.size rfl 22 _ (0, 0) _ A3.out Tryd.underlying22 rfl (by rw [vals_size]; exact cells22) ?_)
    | (refine wpList_store_abs rfl 22 _ _ rfl k3.heap.size (vals .u8 64 (wd (byt qL))) rfl rfl 22 _ (Blk.new k3 _ _) (by rw [vals_size]; exact cells22) (by rw [vals_size]; rfl) (vals_one _ _ _) ?_; intro k4 Bn Sn; have L4 := hide (Sn.low _ _ (L3.out.alloc L3.out.size _) L3.out.size); have A4 := hide (Sn.other _ _ _ (Nat.ne_of_gt A3.out.lt) (A3.out.alloc _)); have M4 := hide Bn; have Hne := hide (Nat.ne_of_gt A3.out.lt); have Hle := hide L3.out.size; clear Bn Sn))
  generalize k2.heap.size = pa at *
  generalize k3.heap.size = pm at *
  have c0 := M4.out.cell 0
  rw [vals_get _ _ _ _ (by omega), show wd (byt qL) 0 = 237 from byt_q0] at c0
  have f0 := M4.out.frozen 0
  have A5 := hide (A4.out.setOther 0 (.int .u8 (242 : Nat)) Hne.out)
  have M5 := hide (Blk.cast (c' := vals .u8 64 q5) (M4.out.set 0 (.int .u8 (242 : Nat))) (by rw [vals_set]; exact vals_congr _ _ _ _ fun j _ => rfl))
  have L5 := hide (L4.out.setCell (p := ⟨pm, 0, none⟩) Hle.out (.int .u8 (242 : Nat)))
  clear A3 A4 M4 L1 L2 L3 L4 HL
  go_upto_region 4 with (fail)
  clear c0 f0
  have hi31 := idx31
  have hi0 := idx0
  have heq0 := eq_same (byt 0) (fun _ => 0) fun i _ => byt0 i
  have heq5 := eq_same (byt 5) (oneB 5) fun i _ => byt_one 5 (by omega) i
  have heq10 := eq_same (byt 10) (oneB 10) fun i _ => byt_one 10 (by omega) i
  rw [← zero32] at heq0
  rw [← one_lits, show ((5 : Nat) : Int) = 5 from rfl] at heq5
  rw [← one_lits, show ((10 : Nat) : Int) = 10 from rfl] at heq10
  go_wp2_with fail
  refine (order_at _ _ rfl (HG.out.low L5.out)).mono ?_
  rintro e w6 ⟨rfl, hb⟩
  have A6 := hide (A5.out.call hb)
  have M6 := hide (M5.out.call hb)
  have L6 := hide (L5.out.trans (hb.mono L5.out.size))
  clear L5 hb A5 M5
  unfold ba
  dsimp only
  go_wp2_with fail
  refine (order_at _ _ rfl (HG.out.low L6.out)).mono ?_
  rintro e w7 ⟨rfl, hb⟩
  have A7 := hide (A6.out.call hb)
  have M7 := hide (M6.out.call hb)
  have L7 := hide (L6.out.trans (hb.mono L6.out.size))
  clear L6 hb A6 M6
  unfold ba
  dsimp only
  go_wp2_with (first | (refine wpList_load_w (by rfl) 22 _ rfl pa rfl 22 _ (0, 0) _ A7.out Tryd.underlying22 rfl (by rw [vals_size]; exact cells22) ?_))
  refine (reduce_n (wd (byt qL)) 0 _ _ rfl (HG.out.low L7.out) (wd_lt _ (byt_lt _)) (by rw [nb_qw]; exact Nat.mod_self _)).mono ?_
  rintro e w8 ⟨rfl, hb⟩
  have M8 := hide (M7.out.call hb)
  have L8 := hide (L7.out.trans (hb.mono L7.out.size))
  clear L7 hb M7
  unfold ba
  dsimp only
  go_wp2_with (first | (refine wpList_build_w (by rfl) 23 _ rfl (vals .u8 32 (fun _ => 0)) built23 ?_) | (refine wpList_load_w (by rfl) 22 _ rfl pm rfl 22 _ (0, 0) _ M8.out Tryd.underlying22 rfl (by rw [vals_size]; exact cells22) ?_))
  refine (reduce_n q5 5 _ _ rfl (HG.out.low L8.out) q5_lt (by rw [nb_q5]; exact q5_mod)).mono ?_
  rintro e w9 ⟨rfl, hb⟩
  have L9 := hide (L8.out.trans (hb.mono L8.out.size))
  clear L8 hb 
  unfold ba
  dsimp only
  go_wp2_with (first | (refine wpList_build_w (by rfl) 23 _ rfl (vals .u8 32 (oneB 5)) (builtOne 5) ?_) | (refine wpList_build_w (by rfl) 23 _ rfl (vals .u8 32 (oneB 2)) (builtOne 2) ?_) | (refine wpList_build_w (by rfl) 23 _ rfl (vals .u8 32 (oneB 3)) (builtOne 3) ?_) | (refine wpList_build_w (by rfl) 23 _ rfl (vals .u8 32 (oneB 4)) (builtOne 4) ?_))
  refine (muladd_n (oneB 2) (oneB 3) (oneB 4) 10 _ _ rfl (HG.out.low L9.out) (oneB_lt 2 (by omega)) (oneB_lt 3 (by omega)) (oneB_lt 4 (by omega)) ten_mod).mono ?_
  rintro e w10 ⟨rfl, hb⟩
  have L10 := hide (L9.out.trans (hb.mono L9.out.size))
  clear L9 hb 
  unfold ba
  dsimp only
  go_wp2_with (first | (refine wpList_build_w (by rfl) 23 _ rfl (vals .u8 32 (oneB 10)) (builtOne 10) ?_))
  refine (order_at _ _ rfl (HG.out.low L10.out)).mono ?_
  rintro e w11 ⟨rfl, hb⟩
  have L11 := hide (L10.out.trans (hb.mono L10.out.size))
  clear L10 hb 
  unfold ba
  dsimp only
  go_wp2_with fail
  refine (fine_n (byt qL) false _ _ rfl (HG.out.low L11.out) (byt_lt _) (by rw [nb_q]; simp)).mono ?_
  rintro e w12 ⟨rfl, hb⟩
  have L12 := hide (L11.out.trans (hb.mono L11.out.size))
  clear L11 hb 
  dsimp only
  go_wp2_with (first | (refine wpList_build_w (by rfl) 23 _ rfl (vals .u8 32 (fun _ => 0)) built23 ?_))
  refine (fine_n (fun _ => 0) true _ _ rfl (HG.out.low L12.out) (fun _ => by omega) (by rw [nb_zero]; simp [qL_pos])).mono ?_
  rintro e w13 ⟨rfl, hb⟩
  have L13 := hide (L12.out.trans (hb.mono L12.out.size))
  clear L12 hb 
  dsimp only
  go_wp2
  go_ret
  exact ⟨rfl, L13.out⟩
theorem awake_at (args : Array Value) (w : World) (h : args = #[]) (hG : Glob w) :
    Calls Tryd.prog 7 args w fun e w' => e = .returned (.bool true) ∧ Below w.heap.size w w' := by
  subst h; exact awake_any w hG
end Go.Proofs.YtokhmhodkakioaaDoor
