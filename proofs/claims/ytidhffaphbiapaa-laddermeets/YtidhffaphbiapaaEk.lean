/- X25519 in numbers: two ladders in either order, the base point's order, points of little order. No program. -/
import Derived.Test.YtidhffaphbiapaaEj
import Derived.Test.YtidhffaphbiapaaRm
namespace Go.Proofs.Ytidhffaphbiapaa
open F

theorem fin_sub_self {N : Nat} [NeZero N] (x : Fin N) : x - x = 0 := by grind
theorem fin_mul_one {N : Nat} [NeZero N] (x : Fin N) : x * 1 = x := by grind
theorem p_two : 2 < pP := by unfold pP; omega
theorem p_odd : pP % 2 = 1 := by unfold pP; omega
def dN : Nat := 20800338683988658368647408995589388737092878452977063003340006470870624536394
def xN : Nat := 9771384041963202563870679428059935816164187996444183106833894008023910952347
def yN : Nat := 46316835694926478169428394003475163141307993866256225615783033603165251855960
/-- The order. -/
def lP : Nat := 7237005577332262213973186563042994240857116359379907606001950938285454250989
theorem lP_odd : lP % 2 = 1 := by decide +kernel
theorem lP_prime : Num.IsP lP := Num.r7237005577
theorem cn_val {x : Nat} (h : x < pP) : (cn pP x).val = x := Nat.mod_eq_of_lt h
theorem cn_ne {x : Nat} (h : x < pP) (h0 : x ≠ 0) : cn pP x ≠ 0 := fun e => h0 (cn_eq_zero h e)
theorem dN_lt : dN < pP := by decide +kernel
theorem dN_half : dN ^ ((pP - 1) / 2) % pP = pP - 1 := Num.pow_of_pw pP 255 dN _ _ (by decide +kernel) (by decide +kernel)
theorem dN_nsq : Nsq (cn pP dN) := by
  unfold Nsq
  rw [cn_val dN_lt, dN_half]
  unfold pP; omega
/-- The curve. -/
def C1 : Crv pP := finC genP p_two p_odd 1 1 (cn pP dN) (by grind) (fin_one p_two) (cn_ne dN_lt (by decide +kernel)) dN_nsq
theorem C1_a : C1.a = 1 := rfl
theorem C1_iv : C1.iv = finv := rfl
theorem C1_d : C1.d = cn pP dN := rfl
theorem C1_d0 : C1.d ≠ 0 := by rw [C1_d]; exact cn_ne dN_lt (by decide +kernel)
/-- The ladder's number. -/
def k25 : Fin pP := cn pP 121665
theorem k_one : k25 + 1 = cn pP 121666 := by
  rw [k25, ← cn_one, ← cn_add, show (121665 + 1) % pP = 121666 by decide +kernel]
theorem k_ok : C1.d * (k25 + 1) = k25 := by
  rw [k_one]
  show cn pP dN * cn pP 121666 = k25
  rw [← cn_mul, show dN * 121666 % pP = 121665 by decide +kernel]; rfl
theorem k_ne : k25 ≠ 0 := cn_ne (by decide +kernel) (by decide)
theorem k1_ne : k25 + 1 ≠ 0 := by rw [k_one]; exact cn_ne (by decide +kernel) (by decide)
theorem sq_or (w : Fin pP) (hw : w ≠ 0) : (∃ r, r * r = w) ∨ (∃ r, r * r = C1.d * w) := by
  rw [C1_d]
  exact fin_sq genP p_two p_odd (cn_ne dN_lt (by decide +kernel)) dN_nsq w hw
/-- X25519. -/
def x25 (u : Fin pP) (bits : List Bool) : Fin pP := lad finv k25 u bits
theorem x25_zero (bits : List Bool) : x25 0 (bits ++ [false]) = 0 := lad_zero finv (fin_inv0 p_two) k25 bits
theorem x25_chain (u : Fin pP) (m n : List Bool) : x25 (x25 u (m ++ [false])) (n ++ [false]) = x25 (x25 u (n ++ [false])) (m ++ [false]) :=
  C1.chain C1_a (fin_inv0 p_two) k_ok k_ne k1_ne C1_d0 sq_or u m n
/-- The base point. -/
def bP : Fin pP × Fin pP := (cn pP xN, cn pP yN)
theorem bP_on : C1.On bP := by
  show C1.a * (cn pP xN * cn pP xN) + cn pP yN * cn pP yN = 1 + cn pP dN * (cn pP xN * cn pP xN) * (cn pP yN * cn pP yN)
  rw [C1_a, ← cn_one, ← cn_mul, ← cn_mul, ← cn_mul, ← cn_mul, ← cn_mul, ← cn_add, ← cn_add]
  exact congrArg (cn pP) (by decide +kernel)
theorem bP_less : 1 - bP.2 = cn pP ((1 + pP - yN) % pP) := by
  rw [cn_sub _ _ (by decide +kernel)]; rfl
theorem bP_ne : 1 - bP.2 ≠ 0 := by
  rw [bP_less]; exact cn_ne (by decide +kernel) (by decide +kernel)
theorem bP_u : cn pP 9 * (1 * (1 - bP.2)) = 1 + bP.2 := by
  rw [bP_less, ← cn_one, ← cn_mul, ← cn_mul]
  show _ = cn pP 1 + cn pP yN
  rw [← cn_add]
  exact congrArg (cn pP) (by decide +kernel)
theorem bP_good : Good C1 1 k25 k25 (cn pP 9) bP := ⟨C1_a, k_ok, k1_ne, Or.inl ⟨rfl, rfl⟩, bP_on, bP_ne, bP_u⟩
theorem nine_ne : cn pP 9 ≠ 0 := cn_ne (by decide +kernel) (by decide)
theorem bP_zero : bP ≠ C1.zero := fun h => bP_ne (by rw [h]; exact fin_sub_self 1)
/-- Where the ladder's second number is 0 the point is the neutral one. -/
theorem Good.done {C : Crv pP} {σ c k u : Fin pP} {P : Fin pP × Fin pP} (h : Good C σ c k u P) (hu : u ≠ 0) (bits : List Bool) (h0 : (lads k u (lfirst u) bits).1.2 = 0) : C.mul P (bnum 0 bits) = C.zero := by
  have h1 := (h.steps hu bits 0 _ h.first).1
  obtain ⟨l, hl, _, hb⟩ := h1
  rw [h0] at hb
  have hs := h.side.sq
  have hsn : σ ≠ 0 := fun e => C.one (by rw [← hs, e]; grind)
  refine C.top h.a (C.on_mul h.on _) ?_
  rcases C.nz _ _ hb.symm with h2 | h2
  · exact absurd h2 hl
  · rcases C.nz _ _ h2 with h3 | h3
    · exact absurd h3 hsn
    · exact h3
theorem done_cn (k u : Nat) (hu : u < pP) (bits : List Bool) (h : nl pP k u bits 1 0 u 1 (fun _ b _ _ => b) = 0) : (lads (cn pP k) (cn pP u) (lfirst (cn pP u)) bits).1.2 = 0 := by
  obtain ⟨A, B, C, D, _, _, _, _, hK, hl⟩ := nl_ok (N := pP) k u bits 1 0 u 1 (by decide +kernel) (by decide +kernel) hu (by decide +kernel)
  rw [hK] at h
  have e : lfirst (cn pP u) = ((cn pP 1, cn pP 0), (cn pP u, cn pP 1)) := rfl
  rw [e, hl]
  show cn pP B = 0
  rw [h]; rfl
theorem ord_run : nl pP 121665 9 (nbits lP 253) 1 0 9 1 (fun _ b _ _ => b) = 0 := by decide +kernel
theorem ord_num : bnum 0 (nbits lP 253) = lP := by
  rw [bnum_nbits, Nat.zero_mul, Nat.zero_add]
  exact Nat.mod_eq_of_lt (by decide +kernel)
theorem bP_done (bits : List Bool) (h : nl pP 121665 9 bits 1 0 9 1 (fun _ b _ _ => b) = 0) : C1.mul bP (bnum 0 bits) = C1.zero := bP_good.done nine_ne bits (done_cn 121665 9 (by decide +kernel) bits h)
theorem bP_order : C1.mul bP lP = C1.zero := by
  have h := bP_done _ ord_run
  rw [ord_num] at h
  exact h
end Go.Proofs.Ytidhffaphbiapaa
