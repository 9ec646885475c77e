/- For SignStrict: a number and the order, byte by byte; 2 is no point's. The package's variables lie as they were laid. -/
import Derived.Test.YtbpmakegimgbpaaDoorQ0
import Derived.Test.YtbpmakegimgbpaaDoorSd
namespace Go.Proofs.YtbpmakegimgbpaaDoor
set_option maxRecDepth 100000
open F Go.RowKit

theorem nb_plus (f g : Nat → Nat) : ∀ k, nb (fun j => f j + g j) k = nb f k + nb g k
  | 0 => rfl
  | k + 1 => by rw [nb, nb, nb, nb_plus f g k, Nat.add_mul]; omega
/-- What stands above, of two numbers' bytes. -/
def tw (x y j : Nat) : Nat := byt x j + byt y j
def cw (x y k : Nat) : Nat := S.ca (tw x y) k
theorem tw_lt (x y j : Nat) : tw x y j < 511 := by
  have h1 := byt_lt x j
  have h2 := byt_lt y j
  unfold tw; omega
theorem cw_zero (x y : Nat) : cw x y 0 = 0 := S.ca_zero _
theorem cw_lt (x y k : Nat) : cw x y k < 2 ^ 20 := S.ca_lt _ (fun j => Nat.lt_trans (tw_lt x y j) (by omega)) k
theorem cw_next (x y k : Nat) : cw x y (k + 1) = (byt x k + byt y k + cw x y k) / 256 := S.ca_succ _ _
theorem tw_all (x y : Nat) (hx : x < 2 ^ 256) (hy : y < 2 ^ 256) : nb (tw x y) 32 = x + y := by
  have h := nb_plus (byt x) (byt y) 32
  rw [nbts hx, nbts hy] at h
  exact h
theorem cw_low (x y k : Nat) (hx : x < 2 ^ 256) (hy : y < 2 ^ 256) (hk : k < 32) : (byt x k + byt y k + cw x y k) % 256 = byt (x + y) k := by
  rw [← tw_all x y hx hy, S.ca_low _ _ _ hk]
  rfl
theorem cw_all (x y : Nat) (hx : x < S.qL) (hy : y ≤ S.qL) : cw x y 32 = 0 := by
  have hq := S.qL_lt
  have h2 : (2 : Nat) ^ 256 = 8 * 2 ^ 253 := by decide +kernel
  have h3 : (2 : Nat) ^ (8 * 32) = 8 * 2 ^ 253 := by decide +kernel
  unfold cw S.ca
  rw [tw_all x y (by omega) (by omega), h3]
  exact Nat.div_eq_of_lt (by omega)
def hiB (s : Nat → Nat) (z k j : Nat) : Nat := if 32 ≤ j ∧ j < 32 + k then byt z (j - 32) else s j
theorem hiB_zero (s : Nat → Nat) (z : Nat) : vals .u8 64 s = vals .u8 64 (hiB s z 0) := vals_congr _ _ _ _ fun j _ => by unfold hiB; rw [if_neg (by omega)]
theorem hiB_next (s : Nat → Nat) (z k g : Nat) (hg : g = byt z k) : vals .u8 64 (fun j => if j = 32 + k then g else hiB s z k j) = vals .u8 64 (hiB s z (k + 1)) := vals_congr _ _ _ _ fun j _ => by
  subst hg
  unfold hiB
  by_cases h : j = 32 + k
  · subst h; rw [if_pos rfl, if_pos (by omega), show 32 + k - 32 = k by omega]
  · by_cases h2 : 32 ≤ j ∧ j < 32 + k
    · rw [if_neg h, if_pos h2, if_pos (by omega)]
    · rw [if_neg h, if_neg h2, if_neg (by omega)]
theorem hiB_lt {s : Nat → Nat} (hs : ∀ i, s i < 256) (z k j : Nat) : hiB s z k j < 256 := by
  unfold hiB
  split
  · exact byt_lt _ _
  · exact hs _
def offB (s : Nat → Nat) (k j : Nat) : Nat := if j < k then 0 else s j
theorem offB_zero (s : Nat → Nat) : vals .u8 64 s = vals .u8 64 (offB s 0) := vals_congr _ _ _ _ fun j _ => by unfold offB; rw [if_neg (by omega)]
theorem offB_next (s : Nat → Nat) (k : Nat) : vals .u8 64 (fun j => if j = k then 0 else offB s k j) = vals .u8 64 (offB s (k + 1)) := vals_congr _ _ _ _ fun j _ => by
  unfold offB
  by_cases h : j = k
  · subst h; rw [if_pos rfl, if_pos (by omega)]
  · by_cases h2 : j < k
    · rw [if_neg h, if_pos h2, if_pos (by omega)]
    · rw [if_neg h, if_neg h2, if_neg (by omega)]
def off2 (s : Nat → Nat) (j : Nat) : Nat := if j = 0 then 2 else offB s 32 j
theorem off2_lt {s : Nat → Nat} (hs : ∀ i, s i < 256) (j : Nat) : off2 s j < 256 := by
  unfold off2 offB
  split
  · omega
  · split
    · omega
    · exact hs _
def two0 : Nat → Nat := cb [2]
theorem two0_lt (i : Nat) : two0 i < 256 := cb_lt _ (by decide +kernel) i
theorem nb_two : nb two0 32 = 2 := by decide +kernel
theorem nb_off (s : Nat → Nat) : nb (off2 s) 32 = 2 := by
  rw [← nb_two]
  exact nb_low fun i hi => by
    unfold off2 offB two0 cb
    rcases i with _ | i
    · rfl
    · rw [if_neg (by omega), if_pos hi]; rfl
/- 2 is no point's. -/
def uv2 : Nat := mm (v7 2) (u7 2)
theorem uv2_half : uv2 ^ ((pP - 1) / 2) % pP = pP - 1 := Num.pow_of_pw pP 255 uv2 _ _ (by decide +kernel) (by decide +kernel)
theorem uv2_nsq : Nsq (cn pP uv2) := by
  unfold Nsq
  rw [cn_val (show uv2 < pP from mm_lt _ _), uv2_half]
  unfold pP; omega
theorem z_nsq7 {N : Nat} [NeZero N] (v u x : Fin N) (h : v * (x * x) = u) : v * x * (v * x) = v * u * (1 * 1) := by grind
theorem dec_two : dec7 2 = none := by
  cases hd : dec7 2 with
  | none => rfl
  | some P =>
    obtain ⟨hok, hn⟩ := dec7_ok 2 (by decide +kernel) P hd
    obtain ⟨x, y⟩ := P
    have hy : y = 2 := by
      have hn' : y + 2 ^ 255 * (x % 2) = 2 := hn
      have h2 : (2 : Nat) ^ 255 > 2 := by decide +kernel
      rcases Nat.mod_two_eq_zero_or_one x with h | h
      · rw [h] at hn'; omega
      · rw [h, Nat.mul_one] at hn'; omega
    subst hy
    have h1 := (on_iff x 2).1 hok.on
    have h2 := z_nsq7 _ _ _ h1
    rw [← ph_mm (v7 2) (u7 2)] at h2
    exact absurd (fin_nsq genP p_two p_odd (cn_ne (show uv2 < pP from mm_lt _ _) (by decide +kernel)) uv2_nsq _ _ h2) C7.one
theorem decR_no7 {n : Nat} (h : dec7 n = none) : (decR n).2 = false := by unfold decR; rw [h]
theorem ver_no1 (g s : Nat → Nat) (m : List Nat) (n : Nat) (h : nb s 32 = n) (hn : (decR n).2 = false) : verB g s m = false := by
  unfold verB
  rw [h, hn]
  simp
theorem ver_no2 (g s : Nat → Nat) (m : List Nat) (n : Nat) (h : nb g 32 = n) (hn : (decR n).2 = false) : verB g s m = false := by
  unfold verB
  rw [h, hn]
  simp
theorem ver_high (g s : Nat → Nat) (m : List Nat) (z : Nat) (hz : S.qL ≤ z) (hz2 : z < 2 ^ 256) : verB g (hiB s z 32) m = false := by
  have e : nb (fun j => hiB s z 32 (32 + j)) 32 = z := by
    rw [nb_low (g := byt z) fun i hi => by
      show hiB s z 32 (32 + i) = _
      unfold hiB
      rw [if_pos (by omega), show 32 + i - 32 = i by omega], nbts hz2]
  unfold verB
  rw [e, decide_eq_false (by omega : ¬ z < S.qL)]
  simp
theorem ver_off (g s : Nat → Nat) (m : List Nat) : verB g (off2 s) m = false := ver_no1 _ _ _ _ (nb_off s) (decR_no7 dec_two)
theorem ver_two (s : Nat → Nat) (m : List Nat) : verB two0 s m = false := ver_no2 _ _ _ _ nb_two (decR_no7 dec_two)
theorem built_two : Tryd.prog.built 22 [(0, .int .u8 2)] = some (vals .u8 32 two0) := by kernel_rfl
theorem rfine_b (f : Nat → Nat) (hf : ∀ i, f i < 256) (b : Bool) (hb : Hid (decide (nb f 32 < S.qL) = b)) (w : World) : Ret 12 #[.agg (vals .u8 32 f)] w (.bool b) := S.rFine_n f b _ w rfl hf hb.out
theorem y_c8 {o : Oper} {a : Act} {ops : Array Oper} {S : World → Prop} {x : Operand} {b off : Nat} {c : Array Value} {t : TypeId} (hB : ∀ w, S w → Blk w b c t) {g : Nat} (hv : c[off]? = some (.int .u8 ((g : Nat) : Int))) (ho : o.op = .load 5 x := by rfl) (hx : a.eval x = .pointer (some ⟨b, off, none⟩) := by kernel_rfl) (hw : Region.wanted o (yielded ops a.tmps) = true := by kernel_rfl) : YieldsIf Tryd.prog ops S o (.int .u8 ((g : Nat) : Int)) a := Or.inl ⟨hw, fun w hS => ld8 ho hx (hB w hS) hv⟩
theorem set_b6 (f : Nat → Nat) (i v : Nat) : (vals .u8 64 f).setIfInBounds i (.int .u8 ((v : Nat) : Int)) = vals .u8 64 (fun j => if j = i then v else f j) := vals_set .u8 64 f i v
/- Operations on numbers. -/
theorem addN {o : Oper} {ρ : Operand → Value} {x y : Operand} (ho : o.op = .binOp .add 3 x y 3) {m n : Nat} (hs : m + n < 2 ^ 62) (hx : ρ x = .int .i64 ((m : Nat) : Int)) (hy : ρ y = .int .i64 ((n : Nat) : Int)) (w : World) : (execOp ρ o).run Tryd.prog w = .ok (.value (.int .i64 ((m + n : Nat) : Int))) w := by
  have h1 : IntKind.i64.wrap ((m : Int) + (n : Int)) = ((m + n : Nat) : Int) := by rw [T.wrap_big _ (by omega) (by omega)]; omega
  unfold execOp
  simp only [ho, hx, hy]
  go_simp
theorem toInt {o : Oper} {ρ : Operand → Value} {x : Operand} (ho : o.op = .convert 5 3 x) {n : Nat} (hn : n < 256) (hx : ρ x = .int .u8 ((n : Nat) : Int)) (w : World) : (execOp ρ o).run Tryd.prog w = .ok (.value (.int .i64 ((n : Nat) : Int))) w := by
  have h1 : IntKind.i64.wrap (n : Int) = (n : Int) := T.wrap_big _ (by omega) (by omega)
  have h2 : wrap64 (n : Int) = (n : Int) := by unfold wrap64; omega
  unfold execOp
  simp only [ho, hx]
  go_simp
theorem toByte {o : Oper} {ρ : Operand → Value} {x : Operand} (ho : o.op = .convert 3 5 x) {n : Nat} (hn : n < 256) (hx : ρ x = .int .i64 ((n : Nat) : Int)) (w : World) : (execOp ρ o).run Tryd.prog w = .ok (.value (.int .u8 ((n : Nat) : Int))) w := by
  have h1 : IntKind.u8.wrap (n : Int) = (n : Int) := by simp [IntKind.wrap, IntKind.bits, IntKind.signed]; omega
  unfold execOp
  simp only [ho, hx]
  go_simp
theorem rem256 {o : Oper} {ρ : Operand → Value} {x : Operand} (ho : o.op = .binOp .rem 3 x (.const (.int .i64 256)) 3) {n : Nat} (hn : n < 2 ^ 62) (hc : ρ (.const (.int .i64 256)) = .int .i64 256) (hx : ρ x = .int .i64 ((n : Nat) : Int)) (w : World) : (execOp ρ o).run Tryd.prog w = .ok (.value (.int .i64 ((n % 256 : Nat) : Int))) w := by
  have h1 : (n : Int).tmod 256 = ((n % 256 : Nat) : Int) := by rw [Int.tmod_eq_emod_of_nonneg (by omega)]; omega
  have h2 : (n : Int) % 256 = ((n % 256 : Nat) : Int) := by omega
  have h3 : IntKind.i64.wrap ((n % 256 : Nat) : Int) = ((n % 256 : Nat) : Int) := T.wrap_big _ (by omega) (by omega)
  generalize n % 256 = r at *
  unfold execOp
  simp only [ho, hx, hc]
  go_simp
theorem quo256 {o : Oper} {ρ : Operand → Value} {x : Operand} (ho : o.op = .binOp .quo 3 x (.const (.int .i64 256)) 3) {n : Nat} (hn : n < 2 ^ 62) (hc : ρ (.const (.int .i64 256)) = .int .i64 256) (hx : ρ x = .int .i64 ((n : Nat) : Int)) (w : World) : (execOp ρ o).run Tryd.prog w = .ok (.value (.int .i64 ((n / 256 : Nat) : Int))) w := by
  have h1 : (n : Int).tdiv 256 = ((n / 256 : Nat) : Int) := by rw [Int.tdiv_eq_ediv_of_nonneg (by omega)]; omega
  have h2 : (n : Int) / 256 = ((n / 256 : Nat) : Int) := by omega
  have h3 : IntKind.i64.wrap ((n / 256 : Nat) : Int) = ((n / 256 : Nat) : Int) := T.wrap_big _ (by omega) (by omega)
  generalize n / 256 = r at *
  unfold execOp
  simp only [ho, hx, hc]
  go_simp
theorem eqlZ {o : Oper} {ρ : Operand → Value} {x : Operand} (ho : o.op = .binOp .eql 3 x (.const (.int .i64 0)) 3) {n : Nat} (hn : n = 0) (hc : ρ (.const (.int .i64 0)) = .int .i64 0) (hx : ρ x = .int .i64 ((n : Nat) : Int)) (w : World) : (execOp ρ o).run Tryd.prog w = .ok (.value (.bool true)) w := by
  subst hn
  unfold execOp
  simp only [ho, hx, hc]
  kernel_rfl
end Go.Proofs.YtbpmakegimgbpaaDoor
