/- Walks: Same. -/
import Derived.Test.YtaegklfomecmfaaDoorMy
import Derived.Test.YtaegklfomecmfaaDoorKa
namespace Go.Proofs.YtaegklfomecmfaaDoor
open Go.RowKit

/-- Whether the first j bytes are the same, as Same gathers it. -/
def dif8 (k l : List Nat) : Nat → Nat
  | 0 => 0
  | j + 1 => dif8 k l j ||| (k.getD j 0 ^^^ l.getD j 0)
theorem dif8_lt (k l : List Nat) (hk : ∀ x ∈ k, x < 256) (hl : ∀ x ∈ l, x < 256) : ∀ j, dif8 k l j < 256
  | 0 => Nat.zero_lt_succ _
  | j + 1 => Nat.or_lt_two_pow (n := 8) (dif8_lt k l hk hl j) (Nat.xor_lt_two_pow (n := 8) (getD_lt k hk j) (getD_lt l hl j))
theorem or_zero {a b : Nat} : a ||| b = 0 ↔ a = 0 ∧ b = 0 := by
  constructor
  · intro h
    constructor
    · apply Nat.eq_of_testBit_eq
      intro i
      have := congrArg (fun x => x.testBit i) h
      simp only [Nat.testBit_or, Nat.zero_testBit, Bool.or_eq_false_iff] at this
      rw [this.1, Nat.zero_testBit]
    · apply Nat.eq_of_testBit_eq
      intro i
      have := congrArg (fun x => x.testBit i) h
      simp only [Nat.testBit_or, Nat.zero_testBit, Bool.or_eq_false_iff] at this
      rw [this.2, Nat.zero_testBit]
  · rintro ⟨rfl, rfl⟩; rfl
theorem xor_zero {a b : Nat} : a ^^^ b = 0 ↔ a = b := by
  constructor
  · intro h
    have : (a ^^^ b) ^^^ b = 0 ^^^ b := by rw [h]
    rw [Nat.xor_assoc, Nat.xor_self, Nat.xor_zero, Nat.zero_xor] at this
    exact this
  · rintro rfl; exact Nat.xor_self _
theorem dif8_zero (k l : List Nat) : ∀ j, dif8 k l j = 0 ↔ ∀ i, i < j → k.getD i 0 = l.getD i 0
  | 0 => ⟨fun _ _ h => absurd h (by omega), fun _ => rfl⟩
  | j + 1 => by
    unfold dif8
    rw [or_zero, xor_zero, dif8_zero k l j]
    constructor
    · rintro ⟨h1, h2⟩ i hi
      by_cases h : i < j
      · exact h1 i h
      · rw [show i = j by omega]; exact h2
    · intro h
      exact ⟨fun i hi => h i (by omega), h j (by omega)⟩
theorem dif8_same (k l : List Nat) (h : k.length = l.length) : dif8 k l k.length = 0 ↔ k = l := by
  rw [dif8_zero]
  constructor
  · intro h1
    apply List.ext_getElem?
    intro i
    by_cases hi : i < k.length
    · have := h1 i hi
      rw [List.getD_eq_getElem?_getD, List.getD_eq_getElem?_getD, List.getElem?_eq_getElem hi, List.getElem?_eq_getElem (by omega)] at this
      rw [List.getElem?_eq_getElem hi, List.getElem?_eq_getElem (by omega)]
      exact congrArg some this
    · rw [List.getElem?_eq_none (by omega), List.getElem?_eq_none (by omega)]
  · rintro rfl i _; rfl
theorem rds_some {w : World} {A : Option Addr} {l : List Nat} (h : Rds w A l) {j : Nat} (hj : j < l.length) : ∃ a, A = some a ∧ a.block < w.heap.size ∧ w.cell? (a.add j) = some (.int .u8 (l.getD j 0 : Nat)) := by
  rcases h with h | ⟨a, ha, hlt, hc⟩
  · rw [h] at hj; cases hj
  · exact ⟨a, ha, hlt, hc j _ (by rw [List.getD_eq_getElem?_getD, List.getElem?_eq_getElem hj]; rfl)⟩
set_option maxRecDepth 100000 in
set_option maxHeartbeats 1000000 in
theorem same_any (A : Option Addr) (k : List Nat) (ca : Nat) (B : Option Addr) (l : List Nat) (cb : Nat) (w : World) (hA : Rds w A k) (hk : ∀ x ∈ k, x < 256) (hB : Rds w B l) (hl : ∀ x ∈ l, x < 256) (hs : k.length < 2 ^ 62) :
    Calls Tryd.prog 11 #[.slice A k.length ca, .slice B l.length cb] w fun e w' => e = .returned (.bool (decide (k = l))) ∧ Below w.heap.size w w' := by
  have HA := hide hA
  have Hk := hide hk
  have HB := hide hB
  have Hl := hide hl
  have Hs := hide hs
  clear hA hk hB hl hs
  go_enter Tryd.func11, Tryd.ntmps11
  by_cases hlen : k.length = l.length
  case neg =>
    have h1 : ¬ (k.length : Int) = (l.length : Int) := by omega
    have h2 : ((k.length : Int) == (l.length : Int)) = false := by rw [beq_eq_false_iff_ne]; exact h1
    have Hd : Hid (decide (k = l) = false) := hide (by rw [decide_eq_false_iff_not]; intro e; exact hlen (by rw [e]))
    clear hlen
    go_wp2
    go_ret
    exact ⟨by rw [Hd.out]; rfl, Below.refl _ _⟩
  case pos =>
    have Hlen := hide hlen
    rw [← hlen]
    clear hlen
    go_wp2
    go_loopw [5, 15] (fun d i wr => ∃ j : Nat, j ≤ k.length ∧ i = .int .i64 j ∧ d = .int .u8 (dif8 k l j : Nat) ∧ wr = w) (fun _ i _ => k.length - (intOf i).toNat)
    case atStart => exact ⟨0, Nat.zero_le _, rfl, rfl, rfl⟩
    case round =>
      obtain ⟨j, hj, rfl, rfl, rfl⟩ := hrel
      by_cases hlt : j < k.length
      · obtain ⟨a, rfl, _, hca⟩ := rds_some HA.out hlt
        obtain ⟨b, rfl, _, hcb⟩ := rds_some HB.out (by have := Hlen.out; omega : j < l.length)
        have hj0 : (0 : Int) ≤ (j : Int) := by omega
        have hj1 : (j : Int) < (k.length : Int) := by omega
        have hx1 := getD_lt k Hk.out j
        have hx2 := getD_lt l Hl.out j
        have hx3 := dif8_lt k l Hk.out Hl.out j
        have hx4 := dif8_lt k l Hk.out Hl.out (j + 1)
        have Hx : Hid (bits .or .u8 ((dif8 k l j : Nat) : Int) (bits .xor .u8 ((k.getD j 0 : Nat) : Int) ((l.getD j 0 : Nat) : Int)) = ((dif8 k l (j + 1) : Nat) : Int)) := hide (by
          rw [u8_xor _ _ hx1 hx2, u8_or_nat _ _ hx3 (Nat.xor_lt_two_pow (n := 8) hx1 hx2)]
          rfl)
        have hjm : IntKind.i64.wrap ((j : Int) + 1) = (j : Int) + 1 := by
          have := Hs.out
          simp [IntKind.wrap, IntKind.bits, IntKind.signed]; omega
        clear hx1 hx2 hx3 hx4
        generalize k.getD j 0 = x at *
        generalize l.getD j 0 = y at *
        go_wp2
        rw [Hx.out]
        go_roundw
        case rel => exact ⟨j + 1, by omega, by go_num, by first | rfl | trivial, by first | rfl | trivial⟩
        case measure => simp [intOf]; omega
      · have e0 : j = k.length := by omega
        subst e0
        have Hd := hide (dif8_same k l Hlen.out)
        obtain ⟨d, hd⟩ : ∃ d, d = dif8 k l k.length := ⟨_, rfl⟩
        rw [← hd] at Hd ⊢
        clear hd
        by_cases h0 : d = 0
        · subst h0
          have Hr : Hid (decide (k = l) = true) := hide (by rw [decide_eq_true_iff]; exact Hd.out.1 rfl)
          go_wp2
          go_ret
          exact ⟨by rw [Hr.out]; rfl, Below.refl _ _⟩
        · have Hr : Hid (decide (k = l) = false) := hide (by rw [decide_eq_false_iff_not]; exact fun e => h0 (Hd.out.2 e))
          have h1 : ¬ (d : Int) = 0 := by omega
          have h2 : ((d : Int) == 0) = false := by rw [beq_eq_false_iff_ne]; exact h1
          clear h0
          go_wp2
          go_ret
          exact ⟨by rw [Hr.out]; rfl, Below.refl _ _⟩
theorem same_ok : SameOk := fun A k ca B l cb args w h hA _ hk hB _ hl hs => by
  subst h; exact same_any A k ca B l cb w hA hk hB hl hs
end Go.Proofs.YtaegklfomecmfaaDoor
