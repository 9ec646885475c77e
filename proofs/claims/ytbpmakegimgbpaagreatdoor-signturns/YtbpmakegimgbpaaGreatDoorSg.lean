/- Signatures in numbers: what is signed is verified, and the two ways of asking are the same. No program. -/
import Derived.Test.YtbpmakegimgbpaaGreatDoorEf
namespace Go.Proofs.YtbpmakegimgbpaaGreatDoor
open F

theorem mul7_neg {P : Nat × Nat} (hP : Ok7 P) (k : Nat) : add7 (mul7 P k) (mul7 (neg7 P) k) = zero7 := by
  rw [← mul7_plus hP (ok_neg hP), add7_neg hP, mul7_none]
/-- S is k times the secret, and r: B S times, and the opposite of the public point k times, are B r times. -/
theorem signed7 (k s r : Nat) : add7 (mul7 base7 ((k * s + r) % lP)) (mul7 (neg7 (mul7 base7 s)) k) = mul7 base7 r := by
  have hA : Ok7 (mul7 base7 s) := ok_mul ok_base s
  have hk := ok_mul hA k
  have hn := ok_mul (ok_neg hA) k
  have hr := ok_mul ok_base r
  rw [base_mod, Nat.add_comm, mul7_add ok_base, Nat.mul_comm, mul7_mul ok_base, add7_assoc hr hk hn, mul7_neg hA, add7_zero hr]
/-- The document's way of asking, and the other one. -/
theorem verify7 {A R T : Nat × Nat} (hA : Ok7 A) (hR : Ok7 R) (hT : Ok7 T) (k : Nat) : R = add7 T (mul7 (neg7 A) k) ↔ T = add7 R (mul7 A k) := by
  have hk := ok_mul hA k
  have hn := ok_mul (ok_neg hA) k
  constructor
  · intro h
    rw [h, add7_assoc hT hn hk, add7_comm hn hk, mul7_neg hA, add7_zero hT]
  · intro h
    rw [h, add7_assoc hR hk hn, mul7_neg hA, add7_zero hR]
/-- Bytes of numbers. -/
theorem nbts {n : Nat} (h : n < 2 ^ 256) : nb (byt n) 32 = n := by rw [nb_byt, Nat.mod_eq_of_lt h]
theorem dec_mul (n : Nat) : dec7 (num7 (mul7 base7 n)) = some (mul7 base7 n) := dec7_num (ok_mul ok_base n)
/- The kernel reckons a multiple. -/
def fbt {α : Type} (q : Q4) (b : Bool) (x y z t : Nat) (K : Nat → Nat → Nat → Nat → α) : α :=
  let r := bit4 q (x, y, z, t) b
  Num.force r.1 fun a => Num.force r.2.1 fun b => Num.force r.2.2.1 fun c => Num.force r.2.2.2 fun d => K a b c d
def fmul (q : Q4) : List Bool → Nat → Nat → Nat → Nat → Q4
  | [], x, y, z, t => (x, y, z, t)
  | b :: l, x, y, z, t => fbt q b x y z t (fmul q l)
theorem fmul_eq (q : Q4) : ∀ (l : List Bool) (x y z t : Nat), fmul q l x y z t = l.foldl (bit4 q) (x, y, z, t)
  | [], _, _, _, _ => rfl
  | b :: l, x, y, z, t => by
    show fbt q b x y z t (fmul q l) = l.foldl (bit4 q) (bit4 q (x, y, z, t) b)
    unfold fbt
    simp only [Num.force_eq]
    rw [fmul_eq q l]
/-- Whether four numbers are of a point. -/
def isOf (r : Q4) (P : Nat × Nat) : Bool := decide (mm r.1 1 = mm P.1 r.2.2.1) && decide (mm r.2.1 1 = mm P.2 r.2.2.1)
theorem mul_is {P Q : Nat × Nat} (hP : Ok7 P) (hQ : Ok7 Q) (n : Nat) (hn : n < 2 ^ 256) (h : isOf (fmul (P.1, P.2, 1, mm P.1 P.2) (nbits n 256) 0 1 1 0) Q = true) : mul7 P n = Q := by
  have h1 := rp_mul hP (rp_of hP) n hn
  rw [fmul_eq] at h
  unfold isOf at h
  rw [Bool.and_eq_true, decide_eq_true_iff, decide_eq_true_iff] at h
  exact (rp_same (ok_mul hP n) hQ h1 (rp_of hQ)).2 h
end Go.Proofs.YtbpmakegimgbpaaGreatDoor
