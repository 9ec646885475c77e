/- What is signed is verified; awake's signature in numbers. No program. -/
import Derived.Test.YtbpmakegimgbpaaDoorPv
namespace Go.Proofs.YtbpmakegimgbpaaDoor
set_option maxRecDepth 100000
open F Go.RowKit

theorem qL_lP : S.qL = lP := by decide +kernel
theorem decR_some {n : Nat} {P : Nat × Nat} (h : dec7 n = some P) : decR n = (P, true) := by unfold decR; rw [h]
theorem decR_ptb (n : Nat) : decR (nb (ptb n) 32) = (mul7 base7 n, true) := by
  unfold ptb
  rw [nbts (num7_lt (ok_mul ok_base n))]
  exact decR_some (dec_mul n)
theorem nb_low {f g : Nat → Nat} (h : ∀ i, i < 32 → f i = g i) : nb f 32 = nb g 32 := nb_cong f g 32 h
theorem sgn_low (f : Nat → Nat) (m : List Nat) (i : Nat) (h : i < 32) : sgn f m i = ptb (rN f m) i := by unfold sgn sigv jn; rw [if_pos h]
theorem sgn_high (f : Nat → Nat) (m : List Nat) (j : Nat) : sgn f m (32 + j) = byt (sN f m) j := by
  unfold sgn sigv jn sN
  rw [if_neg (by omega), show 32 + j - 32 = j by omega]
theorem sN_lt (f : Nat → Nat) (m : List Nat) : sN f m < S.qL := Nat.mod_lt _ S.qL_pos
theorem nb_sN (f : Nat → Nat) (m : List Nat) : nb (fun j => sgn f m (32 + j)) 32 = sN f m := by
  rw [nb_low (g := byt (sN f m)) (fun i _ => sgn_high f m i), nbts (Nat.lt_trans (sN_lt f m) S.qL_lt256)]
/-- A signature that is right, of another text. -/
theorem verB_sgn (f : Nat → Nat) (m m' : List Nat) : verB (pub f) (sgn f m) m' = decide (mul7 base7 (rN f m) = add7 (mul7 base7 (sN f m)) (mul7 (neg7 (mul7 base7 (nb (sec f) 32))) (dgn (bl (ptb (rN f m)) ++ bl (pub f) ++ m')))) := by
  have e1 : nb (sgn f m) 32 = nb (ptb (rN f m)) 32 := nb_low (sgn_low f m)
  have e2 : bl (sgn f m) = bl (ptb (rN f m)) := bl_congr (sgn_low f m)
  have e3 : decR (nb (pub f) 32) = (mul7 base7 (nb (sec f) 32), true) := decR_ptb _
  unfold verB
  rw [e1, e2, e3, decR_ptb, nb_sN]
  simp [sN_lt]
theorem verB_own (f : Nat → Nat) (m : List Nat) : verB (pub f) (sgn f m) m = true := by
  rw [verB_sgn]
  have h := signed7 (kN f m) (nb (sec f) 32) (rN f m)
  rw [← qL_lP] at h
  exact decide_eq_true h.symm
/- awake's seed. -/
def sdL : List Nat := [157, 97, 177, 157, 239, 253, 90, 96, 186, 132, 74, 244, 146, 236, 44, 196, 68, 73, 197, 105, 123, 50, 105, 25, 112, 59, 172, 3, 28, 174, 127, 96]
def preL : List Nat := [155, 79, 10, 254, 40, 11, 116, 106, 119, 134, 132, 231, 84, 66, 80, 32, 87, 183, 71, 58, 3, 240, 143, 150, 245, 163, 142, 146, 135, 224, 31, 143]
def abL : List Nat := [215, 90, 152, 1, 130, 177, 10, 183, 213, 75, 254, 211, 201, 100, 7, 58, 14, 225, 114, 243, 218, 166, 35, 37, 175, 2, 26, 104, 247, 7, 81, 26]
def rbL : List Nat := [229, 86, 67, 0, 195, 96, 172, 114, 144, 134, 226, 204, 128, 110, 130, 138, 132, 135, 127, 30, 184, 229, 217, 116, 216, 115, 224, 101, 34, 73, 1, 85]
def sd : Nat → Nat := cb sdL
def aS : Nat := 36144925721603087658594284515452164870581325872720374094707712194495455132720
def aR : Nat := 2015312323900227545039973048451112962192803170366412514267238242679089760755
def aA : Nat × Nat := (38815646466658113194383306759739515082307681141926459231621296960732224964046, 11903303657706407974989296177215005343713679411332034699907763981919547054807)
def aP : Nat × Nat := (44370630452101398467924320556439323233869374150616132215183787387252341590058, 38448863731492799660668882834560725606410712239157980760146247592118262650597)
def aT : Nat × Nat := (55836919626705939050223673677676937652315303921015868654532477003577713816576, 19550695539563398274221655657565148279821633958587248489001529432411895781736)
def at0 : Nat := 4189425255243104265380274593999275942286358786625561434025412373999949950602
theorem sd_lt (i : Nat) : sd i < 256 := cb_lt _ (by decide +kernel) i
theorem sd_bl : bl sd = sdL := by decide +kernel
theorem sd_sec : nb (sec sd) 32 = aS := by
  unfold sec
  rw [sd_bl]
  decide +kernel
theorem sd_pre : bl (pre sd) = preL := by
  unfold pre
  rw [sd_bl]
  decide +kernel
theorem sd_r : rN sd [] = aR := by
  unfold rN
  rw [sd_pre]
  decide +kernel
theorem ok_of {x y : Nat} (hx : x < pP) (hy : y < pP) (h : mm (v7 y) (mm x x) = u7 y) : Ok7 (x, y) := ⟨hx, hy, (on_iff x y).2 (by rw [← h, ph_mm, ph_mm])⟩
theorem ok_A : Ok7 aA := ok_of (by decide +kernel) (by decide +kernel) (by decide +kernel)
theorem ok_P : Ok7 aP := ok_of (by decide +kernel) (by decide +kernel) (by decide +kernel)
theorem ok_T : Ok7 aT := ok_of (by decide +kernel) (by decide +kernel) (by decide +kernel)
theorem mul_A : mul7 base7 aS = aA := mul_is ok_base ok_A aS (by decide +kernel) (by decide +kernel)
theorem mul_P : mul7 base7 aR = aP := mul_is ok_base ok_P aR (by decide +kernel) (by decide +kernel)
theorem mul_T : mul7 base7 at0 = aT := mul_is ok_base ok_T at0 (by decide +kernel) (by decide +kernel)
theorem sd_pub : pub sd = byt (num7 aA) := by unfold pub ptb; rw [sd_sec, mul_A]
theorem sd_ptb : ptb (rN sd []) = byt (num7 aP) := by unfold ptb; rw [sd_r, mul_P]
theorem pub_0 : pub sd 0 = 215 ∧ pub sd 1 = 90 ∧ pub sd 2 = 152 ∧ pub sd 3 = 1 := by rw [sd_pub]; decide +kernel
theorem sgn_0 : sgn sd [] 0 = 229 ∧ sgn sd [] 1 = 86 ∧ sgn sd [] 2 = 67 ∧ sgn sd [] 3 = 0 := by
  rw [sgn_low _ _ 0 (by omega), sgn_low _ _ 1 (by omega), sgn_low _ _ 2 (by omega), sgn_low _ _ 3 (by omega), sd_ptb]
  decide +kernel
theorem bl_A : bl (pub sd) = abL := by rw [sd_pub]; decide +kernel
theorem bl_P : bl (ptb (rN sd [])) = rbL := by rw [sd_ptb]; decide +kernel
theorem sd_k0 : kN sd [] = 1958233733501237659471134851339390337284068724042047466985993338226439154310 := by
  unfold kN
  rw [bl_P, bl_A]
  decide +kernel
theorem sd_num : (1958233733501237659471134851339390337284068724042047466985993338226439154310 * aS + aR) % S.qL = 5004556735901913393272427758925840403246877222315506387332009764265656498271 := by decide +kernel
theorem sN_of (f : Nat → Nat) (m : List Nat) (k s r : Nat) (hk : kN f m = k) (hs : nb (sec f) 32 = s) (hr : rN f m = r) : sN f m = (k * s + r) % S.qL := by
  unfold sN
  rw [hk, hs, hr]
theorem sd_S : sN sd [] = 5004556735901913393272427758925840403246877222315506387332009764265656498271 := (sN_of sd [] _ _ _ sd_k0 sd_sec sd_r).trans sd_num
theorem sd_k : dgn (bl (ptb (rN sd [])) ++ bl (pub sd) ++ [1]) = 3522795203402148482764146148954277926717685080406457998596202582178711798453 := by
  rw [bl_P, bl_A]
  decide +kernel
theorem other_no : verB (pub sd) (sgn sd []) [1] = false := by
  rw [verB_sgn, sd_k, sd_S, sd_sec]
  have e : (5004556735901913393272427758925840403246877222315506387332009764265656498271 : Nat) = (3522795203402148482764146148954277926717685080406457998596202582178711798453 * aS + at0) % lP := by decide +kernel
  rw [e, signed7, sd_r, mul_P, mul_T]
  decide +kernel
end Go.Proofs.YtbpmakegimgbpaaDoor
