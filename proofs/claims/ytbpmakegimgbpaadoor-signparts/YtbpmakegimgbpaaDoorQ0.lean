/- For the laws' walks: one text; indexes; rows that fill up. The package's variables lie as they were laid. -/
import Derived.Test.YtbpmakegimgbpaaDoorPx
namespace Go.Proofs.YtbpmakegimgbpaaDoor
set_option maxRecDepth 100000
open F Go.RowKit

theorem ptok_one {w : World} {A : Option Addr} {l : List Nat} {c : Nat} (hA : T.Rds w A l) (hc : l.length ≤ c) (hl : ∀ x ∈ l, x < 256) : T.PtOk w [(A, l, c)] := fun p hp => by
  obtain rfl : p = (A, l, c) := by simpa using hp
  exact ⟨hA, hc, hl⟩
/-- What Sign tells of one text; what Verify tells. -/
def SgnAt (f : Nat → Nat) (A : Option Addr) (n c : Nat) (s : Nat → Nat) (w : World) : Prop := ∀ (q : Nat) (w' : World), Below w.heap.size w w' → Blk w' q #[.slice A n c] 23 → Ret 7 #[.agg (vals .u8 32 f), .slice (some ⟨q, 0, none⟩) 1 1] w' (.agg (vals .u8 64 s))
def VerAt (g s : Nat → Nat) (A : Option Addr) (n c : Nat) (b : Bool) (w : World) : Prop := ∀ (q : Nat) (w' : World), Below w.heap.size w w' → Blk w' q #[.slice A n c] 23 → Ret 9 #[.agg (vals .u8 32 g), .agg (vals .u8 64 s), .slice (some ⟨q, 0, none⟩) 1 1] w' (.bool b)
theorem sgnAt (f : Nat → Nat) (hf : ∀ i, f i < 256) {w : World} {A : Option Addr} {l : List Nat} {c : Nat} (hG : Glb w) (hA : T.Rds w A l) (hc : l.length ≤ c) (hl : ∀ x ∈ l, x < 256) (hn : l.length ≤ 500) : SgnAt f A l.length c (sgn f l) w := fun q w' hb hq =>
  sign_c f (some ⟨q, 0, none⟩) [(A, l, c)] 1 l hf w' (hG.low hb) (pt_one1 hq rfl) (ptok_one (hA.low hb) hc hl) (cat_one _) (by omega) (by simp)
theorem verAt (g s : Nat → Nat) (hg : ∀ i, g i < 256) (hs : ∀ i, s i < 256) {w : World} {A : Option Addr} {l : List Nat} {c : Nat} (hG : Glb w) (hA : T.Rds w A l) (hc : l.length ≤ c) (hl : ∀ x ∈ l, x < 256) (hn : l.length ≤ 500) (b : Bool) (hb : Hid (verB g s l = b)) : VerAt g s A l.length c b w := fun q w' hb' hq =>
  verify_b g s (some ⟨q, 0, none⟩) [(A, l, c)] 1 l b hb hg hs w' (hG.low hb') (pt_one1 hq rfl) (ptok_one (hA.low hb') hc hl) (cat_one _) (by omega) (by simp)
theorem idx22 {o : Oper} {ρ : Operand → Value} {x y : Operand} (ho : o.op = .indexAddr 22 x y) {b k : Nat} (hk : k < 32) (hy : ρ y = .int .i64 ((k : Nat) : Int)) (hx : ρ x = .pointer (some ⟨b, 0, none⟩)) (w : World) : (execOp ρ o).run Tryd.prog w = .ok (.value (.pointer (some ⟨b, k, none⟩))) w := by
  have h0 : (0 : Int) ≤ (k : Int) := by omega
  have h1 : (k : Int) < 32 := by omega
  unfold execOp
  simp only [ho, hx, hy]
  go_simp
theorem idx28 {o : Oper} {ρ : Operand → Value} {x y : Operand} (ho : o.op = .indexAddr 28 x y) {b k : Nat} (hk : k < 64) (hy : ρ y = .int .i64 ((k : Nat) : Int)) (hx : ρ x = .pointer (some ⟨b, 0, none⟩)) (w : World) : (execOp ρ o).run Tryd.prog w = .ok (.value (.pointer (some ⟨b, k, none⟩))) w := by
  have h0 : (0 : Int) ≤ (k : Int) := by omega
  have h1 : (k : Int) < 64 := by omega
  unfold execOp
  simp only [ho, hx, hy]
  go_simp
theorem add32 {o : Oper} {ρ : Operand → Value} {y : Operand} (ho : o.op = .binOp .add 3 (.const (.int .i64 32)) y 3) {k : Nat} (hk : k < 32) (hc : ρ (.const (.int .i64 32)) = .int .i64 32) (hy : ρ y = .int .i64 ((k : Nat) : Int)) (w : World) : (execOp ρ o).run Tryd.prog w = .ok (.value (.int .i64 ((32 + k : Nat) : Int))) w := by
  have h1 : IntKind.i64.wrap (32 + (k : Int)) = ((32 + k : Nat) : Int) := by rw [T.wrap_big _ (by omega) (by omega)]; omega
  unfold execOp
  simp only [ho, hc, hy]
  go_simp
/-- The first k of a row. -/
def cutb (g : Nat → Nat) (k j : Nat) : Nat := if j < k then g j else 0
theorem cutb_zero (n : Nat) (g : Nat → Nat) : vals .u8 n (fun _ => 0) = vals .u8 n (cutb g 0) := vals_congr _ _ _ _ fun j _ => by unfold cutb; rw [if_neg (by omega)]
theorem cutb_next (n : Nat) (g : Nat → Nat) (k : Nat) : vals .u8 n (fun j => if j = k then g k else cutb g k j) = vals .u8 n (cutb g (k + 1)) := vals_congr _ _ _ _ fun j _ => by
  unfold cutb
  by_cases h : j = k
  · subst h; rw [if_pos rfl, if_pos (by omega)]
  · by_cases h2 : j < k
    · rw [if_neg h, if_pos h2, if_pos (by omega)]
    · rw [if_neg h, if_neg h2, if_neg (by omega)]
theorem cutb_all (n : Nat) (g : Nat → Nat) : vals .u8 n (cutb g n) = vals .u8 n g := vals_congr _ _ _ _ fun j hj => by unfold cutb; rw [if_pos hj]
theorem get_b6' (f : Nat → Nat) (k : Nat) (hk : k < 32) : (vals .u8 64 f)[32 + k]? = some (.int .u8 (((fun j => f (32 + j)) k : Nat) : Int)) := vals_get _ _ _ _ (by omega)
theorem decode_sgn (f : Nat → Nat) (m : List Nat) (w : World) : Ret 13 #[.agg (vals .u8 32 (sgn f m))] w (.tuple #[.agg (pt (mul7 base7 (rN f m))), .bool true]) := by
  have h := decode_p (sgn f m) (sgn_lt f m) w
  rw [nb_low (sgn_low f m), decR_ptb] at h
  exact h
theorem decode_pub (f : Nat → Nat) (w : World) : Ret 13 #[.agg (vals .u8 32 (pub f))] w (.tuple #[.agg (pt (mul7 base7 (nb (sec f) 32))), .bool true]) := by
  have h := decode_p (pub f) (pub_lt f) w
  rw [show decR (nb (pub f) 32) = (mul7 base7 (nb (sec f) 32), true) from decR_ptb _] at h
  exact h
theorem fine_b (f : Nat → Nat) (hf : ∀ i, f i < 256) (b : Bool) (hb : Hid (decide (nb f 32 < S.qL) = b)) {w : World} (hG : Glb w) : Ret 11 #[.agg (vals .u8 32 f)] w (.bool b) := by
  have h := fine_c f hf hG
  rw [hb.out] at h
  exact h
theorem end_fine (f : Nat → Nat) (m : List Nat) : decide (nb (fun j => sgn f m (32 + j)) 32 < S.qL) = true := by
  rw [nb_sN]; exact decide_eq_true (sN_lt f m)
theorem hl500 {l : List Nat} (h : ¬ 500 < l.length) : l.length ≤ 500 := by omega
end Go.Proofs.YtbpmakegimgbpaaDoor
