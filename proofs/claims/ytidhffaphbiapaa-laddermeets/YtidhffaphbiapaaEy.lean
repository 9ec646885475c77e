/- X25519 on bytes: RFC 7748's first example, and a step of the ladder. No program. -/
import Derived.Test.YtidhffaphbiapaaEx
namespace Go.Proofs.Ytidhffaphbiapaa
open F

/-- awake's secret and point. -/
def secL : List Nat := [165, 70, 227, 107, 240, 82, 124, 157, 59, 22, 21, 75, 130, 70, 94, 221, 98, 20, 76, 10, 193, 252, 90, 24, 80, 106, 34, 68, 186, 68, 154, 196]
def ptL : List Nat := [230, 219, 104, 103, 88, 48, 48, 219, 53, 148, 193, 164, 36, 177, 95, 124, 114, 102, 36, 236, 38, 179, 53, 59, 16, 169, 3, 166, 208, 171, 28, 76]
def secB (i : Nat) : Nat := secL.getD i 0
def ptB (i : Nat) : Nat := ptL.getD i 0
theorem secB_lt (i : Nat) : secB i < 256 := by
  unfold secB
  by_cases h : i < 32
  · exact (by decide : ∀ j : Fin 32, secL.getD j.val 0 < 256) ⟨i, h⟩
  · rw [List.getD_eq_getElem?_getD, List.getElem?_eq_none (by show 32 ≤ i; omega)]; decide
theorem ptB_lt (i : Nat) : ptB i < 256 := by
  unfold ptB
  by_cases h : i < 32
  · exact (by decide : ∀ j : Fin 32, ptL.getD j.val 0 < 256) ⟨i, h⟩
  · rw [List.getD_eq_getElem?_getD, List.getElem?_eq_none (by show 32 ≤ i; omega)]; decide
def awR : Nat := 37325765543539916631701301279660700968428932651319597985674090122993663859395
theorem sc_aw : sc secB = 31029842492115040904895560451863089656472772604678260265531221036453811406496 := by decide +kernel
theorem co_aw : co ptB = 34426434033919594451155107781188821651316167215306631574996226621102155684838 := by decide +kernel
theorem xm_aw : xm secB ptB = awR := by
  unfold xm
  rw [sc_aw, co_aw, xr_run]
  decide +kernel
theorem aw_bytes : byt awR 0 = 195 ∧ byt awR 1 = 218 ∧ byt awR 2 = 85 ∧ byt awR 3 = 55 ∧ byt awR 31 = 82 := by decide +kernel
theorem awR_ne : awR ≠ 0 := by decide +kernel
def qa (n x y : Nat) : Nat := (x + y) % n
def qs (n x y : Nat) : Nat := (x + n - y) % n
def qm (n x y : Nat) : Nat := x * y % n
theorem nl_step {α : Type} (n k u s i a b c d : Nat) (K : Nat → Nat → Nat → Nat → α) : nl n k u (nbits s (i + 1)) a b c d K = nst n k u (s.testBit i) a b c d fun a b c d => nl n k u (nbits s i) a b c d K := rfl
theorem nst_false {α : Type} (n k u a b c d : Nat) (K : Nat → Nat → Nat → Nat → α) (p q s t e x y f g : Nat) (hp : p = qa n a b) (hq : q = qs n a b) (hs : s = qm n p p) (ht : t = qm n q q) (he : e = qs n s t) (hx : x = qm n (qa n c d) q) (hy : y = qm n (qs n c d) p) (hf : f = qa n x y) (hg : g = qs n x y) :
    nst n k u false a b c d K = K (qm n s t) (qm n e (qa n s (qm n k e))) (qm n f f) (qm n u (qm n g g)) := by
  subst hp hq hs ht he hx hy hf hg
  simp only [nst, Num.force_eq, cond_false]
  rfl
theorem nst_true {α : Type} (n k u a b c d : Nat) (K : Nat → Nat → Nat → Nat → α) (p q s t e x y f g : Nat) (hp : p = qa n c d) (hq : q = qs n c d) (hs : s = qm n p p) (ht : t = qm n q q) (he : e = qs n s t) (hx : x = qm n (qa n a b) q) (hy : y = qm n (qs n a b) p) (hf : f = qa n x y) (hg : g = qs n x y) :
    nst n k u true a b c d K = K (qm n f f) (qm n u (qm n g g)) (qm n s t) (qm n e (qa n s (qm n k e))) := by
  subst hp hq hs ht he hx hy hf hg
  simp only [nst, Num.force_eq, cond_true]
  rfl
end Go.Proofs.Ytidhffaphbiapaa
