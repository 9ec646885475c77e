/- Walks: putWord. -/
import Derived.Test.YtjnjedannpnjiaaDoorCa
namespace Go.Proofs.YtjnjedannpnjiaaDoor
open Go.RowKit

/-- Byte j of a word, the highest first. -/
def wb (x j : Nat) : Nat := x / 2 ^ (56 - 8 * j) % 256
theorem wb_lt (x j : Nat) : wb x j < 256 := Nat.mod_lt _ (by omega)
/-- Eight bytes of a word laid from place o on. -/
def lay (f : Nat → Nat) (o x k j : Nat) : Nat := if o ≤ j ∧ j < o + k then wb x (j - o) else f j
theorem lay_zero (f : Nat → Nat) (o x j : Nat) : lay f o x 0 j = f j := by unfold lay; rw [if_neg (by omega)]
theorem lay_next (f : Nat → Nat) (o x k j : Nat) : (if j = o + k then wb x k else lay f o x k j) = lay f o x (k + 1) j := by
  unfold lay
  by_cases h : j = o + k
  · subst h
    rw [if_pos rfl, if_pos (by omega), Nat.add_sub_cancel_left]
  · rw [if_neg h]
    by_cases h2 : o ≤ j ∧ j < o + k
    · rw [if_pos h2, if_pos (by omega)]
    · rw [if_neg h2, if_neg (by omega)]
theorem Sto.refl (b : Nat) (w : World) : Sto b w w := ⟨fun _ _ _ _ h => h, fun _ _ h _ => h⟩
theorem Sto.trans {b : Nat} {w x y : World} (h : Sto b w x) (k : Sto b x y) : Sto b w y := ⟨fun b' c t hne hB => k.other b' c t hne (h.other b' c t hne hB), fun B a hb hle => k.low B a (h.low B a hb hle) hle⟩
theorem Sto.set {b : Nat} {w x : World} (h : Sto b w x) (i : Nat) (v : Value) : Sto b w (x.setCell ⟨b, i, none⟩ v) :=
  h.trans ⟨fun _ _ _ hne hB => hB.setOther i v hne, fun _ _ hb hle => hb.setCell hle v⟩
theorem Sto.size {b : Nat} {w x : World} (h : Sto b w x) : w.heap.size ≤ x.heap.size := (h.low 0 w (Below.refl _ _) (Nat.zero_le _)).size
theorem Sto.drew {b : Nat} {w x : World} (h : Sto b w x) : Sto b w x.drew := ⟨fun b' c t hne hB => (h.other b' c t hne hB).drew, fun B a hb hle => (h.low B a hb hle).drew⟩
theorem Sto.alloc {b : Nat} {w x : World} (h : Sto b w x) (hb : b < x.heap.size) (o : Obj) : Sto b w (x.alloc o) :=
  h.trans ⟨fun _ _ _ _ hB => hB.alloc o, fun _ _ hl hle => hl.alloc (by omega) o⟩

set_option maxHeartbeats 400000 in
theorem putWord_any (b o n len cap x : Nat) (f : Nat → Nat) (t : TypeId) (w : World) (hB : Blk w b (vals .u8 n f) t) (ho : o + 8 ≤ n) (hl : 8 ≤ len) (_ : x < 2 ^ 64) :
    Calls Tryd.prog 29 #[.slice (some ⟨b, o, none⟩) len cap, .int .u64 x] w fun e w' => e = .returned (.tuple #[]) ∧ Blk w' b (vals .u8 n (lay f o x 8)) t ∧ Sto b w w' := by
  go_enter Tryd.func29, Tryd.ntmps29
  go_wp2
  go_loopw [5] (fun i wr => ∃ k : Nat, k ≤ 8 ∧ i = .int .i64 k ∧ Blk wr b (vals .u8 n (lay f o x k)) t ∧ Sto b w wr) (fun i _ => 8 - (intOf i).toNat)
  case atStart => exact ⟨0, by omega, rfl, hB.cast (vals_congr _ _ _ _ fun j _ => (lay_zero f o x j).symm), Sto.refl _ _⟩
  case round =>
    obtain ⟨k, hk, rfl, B1, S1⟩ := hrel
    by_cases hlt : k < 8
    · have cx := B1.cell (o + k)
      rw [vals_get _ _ _ _ (by omega)] at cx
      have fx := B1.frozen (o + k)
      have HB1 := hide B1
      have HS1 := hide S1
      clear B1 S1 hB
      have hk0 : (0 : Int) ≤ (k : Int) := by omega
      have hk4 : (k : Int) < 8 := by omega
      have hkl : (k : Int) < (len : Int) := by omega
      have hm : IntKind.i64.wrap (8 * (k : Int)) = 8 * (k : Int) := wrap_i64_small' _ (by omega) (by omega)
      have hs : IntKind.i64.wrap (56 - 8 * (k : Int)) = 56 - 8 * (k : Int) := wrap_i64_small' _ (by omega) (by omega)
      have hs0 : (0 : Int) ≤ 56 - 8 * (k : Int) := by omega
      have hs1 : 56 - 8 * (k : Int) < 64 := by omega
      have hsn : (56 - 8 * (k : Int)).toNat = 56 - 8 * k := by omega
      have Hw : Hid ((x : Int) / 2 ^ (56 - 8 * k) % 256 = ((wb x k : Nat) : Int)) := hide (by unfold wb; simp)
      go_wp2
      rw [Hw.out]
      go_roundw
      case rel =>
        refine ⟨k + 1, by omega, by go_num, (HB1.out.set (o + k) _).cast ?_, HS1.out.set _ _⟩
        rw [vals_set]
        exact vals_congr _ _ _ _ fun j _ => lay_next f o x k j
      case measure => simp [intOf]; omega
    · have e4 : k = 8 := by omega
      subst e4
      have HB1 := hide B1
      have HS1 := hide S1
      clear B1 S1 hB
      go_wp2
      go_end0
      exact ⟨rfl, HB1.out, HS1.out⟩
end Go.Proofs.YtjnjedannpnjiaaDoor
