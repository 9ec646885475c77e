/- Helpers for the laws of chapter 5: literals, strings. -/
import Derived.Test.YtjnjedannpnjiaaDoorXd
import Derived.Laws.IdiomStrings
namespace Go.Proofs.YtjnjedannpnjiaaDoor
open Go.RowKit

theorem Cel.alloc {w : World} {b : Nat} {c : Array Value} (h : Cel w b c) (o : Obj) : Cel (w.alloc o) b c := h.low ((Below.refl _ w).alloc (Nat.le_refl _) o)
theorem wpList_conv_abs {w : World} {ops : Array Oper} {rest : List Oper} {o : Oper} {a : Act} {Q : Exit → Act → World → Prop} (hw : Region.wanted o (yielded ops a.tmps) = true) (x : Operand) (ho : o.op = .convert 23 23 x) {b n c : Nat} {C : Array Value} (hx : a.eval x = .slice (some ⟨b, 0, none⟩) n c) (h : Cel w b C)
    (hk : ∀ w', (∀ b' C', Cel w b' C' → Cel w' b' C') → (∀ B a, Below B a w → B ≤ b → Below B a w') → wpList Tryd.prog ops Q rest (a.put o.dst (.slice (some ⟨b, 0, none⟩) n c)) w') : wpList Tryd.prog ops Q (o :: rest) a w :=
  wpList_want hw fun _ hK => wp_conv22 x ho hx h (hK _ _ (hk _ (fun _ _ hc => hc.freeze _) (fun _ _ hb hB => Below.freeze hb hB)))
theorem lit_get (l : List Nat) (i x : Nat) (h : l[i]? = some x) : (l.map fun x => Value.int .u8 (x : Nat)).toArray[i]? = some (.int .u8 (x : Nat)) := by simp [h]
theorem rds_lits {w : World} {b : Nat} (l : List Nat) {c : Array Value} (h : Cel w b c) (hc : c = (l.map fun x => Value.int .u8 (x : Nat)).toArray) : Rds w (some ⟨b, 0, none⟩) l := rds_cel h l fun i x hx => by rw [hc]; exact lit_get l i x hx
theorem Rds.take {w : World} {A : Option Addr} {l : List Nat} (h : Rds w A l) (n : Nat) : Rds w A (l.take n) := by
  rcases h with rfl | ⟨a, rfl, hb, hc⟩
  · left; simp
  · right
    refine ⟨a, rfl, hb, fun i x hx => hc i x ?_⟩
    rw [List.getElem?_take] at hx
    split at hx
    · exact hx
    · cases hx
/-- A list's bytes as a string. -/
def sk (k : List Nat) : ByteArray := ⟨(k.map UInt8.ofNat).toArray⟩
theorem conv_str (w : World) (A : Option Addr) (k : List Nat) (ca : Nat) (hA : Rds w A k) (hk : ∀ x ∈ k, x < 256) : (convert 23 9 (.slice A k.length ca)).run Tryd.prog w = .ok (.string (sk k)) w := by
  have h9 : Tryd.prog.underlying 9 = some .string := by kernel_rfl
  cases A with
  | none =>
    rcases hA with rfl | ⟨a, ha, _⟩
    · rw [run_convert_bytes_nil w 23 5 Tryd.underlying23 Tryd.underlying5 _ _ 9 h9]; rfl
    · cases ha
  | some a =>
    have hc : ∀ j (hj : j < (k.map UInt8.ofNat).length), w.cell? (a.add j) = some (.int .u8 ((k.map UInt8.ofNat)[j].toNat : Int)) := by
      intro j hj
      rw [List.length_map] at hj
      rcases hA with rfl | ⟨a', ha, _, hc⟩
      · simp at hj
      · obtain rfl := Option.some.inj ha
        rw [hc j k[j] (List.getElem?_eq_getElem hj), List.getElem_map]
        have := hk k[j] (List.getElem_mem hj)
        rw [UInt8.toNat_ofNat', Nat.mod_eq_of_lt this]
    have := run_convert_bytes_back (P := Tryd.prog) w 23 9 5 a ca (k.map UInt8.ofNat) Tryd.underlying23 Tryd.underlying5 h9 hc
    rw [List.length_map] at this
    exact this
theorem conv_n (w : World) (A : Option Addr) (k : List Nat) (n ca : Nat) (hn : k.length = n) (hA : Rds w A k) (hk : ∀ x ∈ k, x < 256) : (convert 23 9 (.slice A n ca)).run Tryd.prog w = .ok (.string (sk k)) w := by
  subst hn; exact conv_str w A k ca hA hk
end Go.Proofs.YtjnjedannpnjiaaDoor
