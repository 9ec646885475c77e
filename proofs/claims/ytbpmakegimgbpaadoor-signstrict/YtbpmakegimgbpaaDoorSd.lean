/- Walks of the reference: Reduce, Fine, MulAdd. -/
import Derived.Test.YtbpmakegimgbpaaDoorSb
namespace Go.Proofs.YtbpmakegimgbpaaDoor.S
set_option maxRecDepth 100000
open Go.RowKit

theorem vals_nb (f : Nat → Nat) (hf : ∀ i, f i < 256) : vals .u8 32 f = vals .u8 32 (byt (nb f 32)) := vals_congr _ _ _ _ fun i hi => (byt_nb f hf 32 i hi).symm
set_option maxHeartbeats 1000000 in
theorem rFine_any (f : Nat → Nat) (w : World) (hf : ∀ i, f i < 256) :
    Calls Tryd.prog 12 #[ba f] w fun e w' => e = .returned (.bool (decide (nb f 32 < qL))) ∧ Below w.heap.size w w' := by
  have Ha := hide (nb_lt f hf 32)
  unfold ba
  rw [vals_nb f hf]
  clear hf
  obtain ⟨a, ha⟩ : ∃ a, a = nb f 32 := ⟨_, rfl⟩
  rw [← ha] at Ha
  rw [← ha]
  clear ha
  have F0 := hide (Blk.new w (vals .u8 32 (byt a)) 22)
  have L0 := hide ((Below.refl w.heap.size w).alloc (Nat.le_refl _) (.cells (vals .u8 32 (byt a)) 22))
  go_enter Tryd.func12, Tryd.ntmps12
  go_upto_region 1 with (fail)
  obtain ⟨x0, hx0⟩ : ∃ x0, x0 = w.alloc (.cells (vals .u8 32 (byt a)) 22) := ⟨_, rfl⟩
  rw [← hx0]
  rw [← hx0] at F0 L0
  clear hx0
  refine wp_region_held_drew (S := fun w' => Below x0.heap.size x0 w') (by kernel_rfl) (Below.refl _ _).drew (fun hHeld => ?_)
  refine wpAnyH_take (i := 0) (oi := { dst := some 3, op := Op.load 22 (Operand.tmp 1), type := 22, pos := "ref.go:20", after := #[], guard := none }) (v := .agg (vals .u8 32 (byt a))) rfl (by kernel_rfl) (by kernel_rfl) (by kernel_rfl) (fun _ _ _ h => h) (yields_blk F0.out (by rfl) 22 _ rfl rfl _ Tryd.underlying22 rfl (by rw [vals_size]; exact cells23)) hHeld ?_
  try simp only [Act.put, List.setIfInBounds_toArray, List.set_cons_zero, List.set_cons_succ]
  refine wpAnyH_ready (rs := [1]) (by kernel_rfl) (by simp) ?_
  refine AllReadyH.cons (o := { dst := some 4, op := Op.call { callee := Callee.value (Operand.func 28), args := #[], argTypes := #[] }, type := 22, pos := "ref.go:20", after := #[], guard := none }) rfl (fun K hK => ?_) AllReadyH.nil
  go_simp
  refine (rOrder_at _ _ (by rfl)).mono ?_
  unfold ba
  rintro e x1 ⟨rfl, hb⟩
  have HTx1 := hide (hHeld.trans (hb.mono hHeld.size))
  dsimp only
  refine hK.out _ _ HTx1.out (fun hHeld => ?_)
  clear hK K hb
  try simp only [Act.put, List.setIfInBounds_toArray, List.set_cons_zero, List.set_cons_succ]
  refine wpAnyH_ready (rs := [2]) (by kernel_rfl) (by simp) ?_
  refine AllReadyH.cons (o := { dst := some 5, op := Op.call { callee := Callee.value (Operand.func 27), args := #[Operand.tmp 3, Operand.tmp 4], argTypes := #[22, 22] }, type := 4, pos := "ref.go:20", after := #[{ on := 0, ground := Ground.data }, { on := 1, ground := Ground.data }, { on := 1, ground := Ground.chain }], guard := none }) rfl (fun K hK => ?_) AllReadyH.nil
  go_simp
  refine (rBelow_at a qL (decide (a < qL)) _ _ (by rfl) Ha.out qL_lt256 rfl).mono ?_
  rintro e x2 ⟨rfl, hb⟩
  have HTx2 := hide (hHeld.trans (hb.mono hHeld.size))
  dsimp only
  refine hK.out _ _ HTx2.out (fun hHeld => ?_)
  clear hK K hb
  try simp only [Act.put, List.setIfInBounds_toArray, List.set_cons_zero, List.set_cons_succ]
  refine wpAnyH_take (i := 3) (oi := { dst := some 2, op := Op.assign (Operand.tmp 5), type := 4, pos := "ref.go:20", after := #[{ on := 2, ground := Ground.data }, { on := 2, ground := Ground.chain }, { on := 0, ground := Ground.phase }, { on := 1, ground := Ground.phase }, { on := 2, ground := Ground.phase }], guard := none }) (v := .bool (decide (a < qL))) rfl (by kernel_rfl) (by kernel_rfl) (by kernel_rfl) (fun _ _ _ h => h) (Or.inl ⟨by rfl, fun w hSw => by go_simp⟩) hHeld ?_
  try simp only [Act.put, List.setIfInBounds_toArray, List.set_cons_zero, List.set_cons_succ]
  refine wpAnyH_done (by kernel_rfl) ?_ _
  go_wp2
  go_ret
  exact ⟨rfl, L0.out.trans (HTx2.out.mono L0.out.size)⟩
theorem rFine_n (f : Nat → Nat) (b : Bool) (args : Array Value) (w : World) (h : args = #[ba f]) (hf : ∀ i, f i < 256) (hb : decide (nb f 32 < qL) = b) :
    Calls Tryd.prog 12 args w fun e w' => e = .returned (.bool b) ∧ Below w.heap.size w w' := by subst h hb; exact rFine_any f w hf

/-- Below 2^512, by a name that no rule opens. -/
def Lt512 (V : Nat) : Prop := V < 2 ^ 256 * 2 ^ 256
theorem wrap_i64_big (n : Int) (h0 : 0 ≤ n) (h1 : n < 9223372036854775808) : IntKind.i64.wrap n = n := by
  simp [IntKind.wrap, IntKind.bits, IntKind.signed]; omega
theorem nb_full' (V n a b : Nat) (h : V < 2 ^ a * 2 ^ b) (hn : a + b ≤ 8 * n) : nb (byt V) n = V := by
  rw [nb_byt, Nat.mod_eq_of_lt]
  refine Nat.lt_of_lt_of_le h ?_
  rw [← Nat.pow_add]
  exact Nat.pow_le_pow_right (by omega) hn
theorem nb_full (V : Nat) (h : V < 2 ^ 256 * 2 ^ 256) : nb (byt V) 65 = V := nb_full' V 65 256 256 h (by omega)

end Go.Proofs.YtbpmakegimgbpaaDoor.S
