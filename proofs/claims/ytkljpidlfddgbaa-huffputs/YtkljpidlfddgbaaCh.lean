/- What the laws want: states in drawn regions, scripts, a number put or refused. No conditions but those that each names. -/
import Derived.Test.YtkljpidlfddgbaaCg
namespace Go.Proofs.Ytkljpidlfddgbaa
set_option maxRecDepth 100000
open Go.RowKit Rg B


open W R
namespace W
theorem WrS.drew {u w : World} {M' : List Row} {N X c : Nat} (h : WrS u w M' N X c) : WrS u w.drew M' N X c := by
  obtain ⟨hX, p, C, hO, hC⟩ := h
  exact ⟨hX, p, C, hO.drew, hC⟩
end W
namespace B
/-- What holds behind each step. -/
abbrev PI (l : List (World → Prop)) : Nat → Nu → World → Prop := fun s _ w => (l.getD s (fun _ => False)) w
section
variable {b : Bool} {ops : Array Oper} {sts : List Nat} {F : Nu → Act} {I : Nat → Nu → World → Prop} {u : World} {L : Nat → Nu → List Row} {i : Nat} {o : Oper}
/-- A cell of the base world. -/
theorem kca (v : Value) {ty : TypeId} {x : Operand} {ad : Addr} (hlow : ∀ s ν w, I s ν w → Below u.heap.size u w) (hc : ∀ w, Below u.heap.size u w → w.cell? ad = some v) (hu : ∀ w, (isAgg ty).run Try.prog w = .ok false w) (ho : o.op = .load ty x := by rfl) (hx : ∀ ν, (F ν).eval x = .pointer (some ad) := by intro ν; kernel_rfl)
    (hv : ∀ ν, vof (F ν) o = v := by intro ν; kernel_rfl) (hw : ∀ ν, Region.wanted o (yielded ops (F ν).tmps) = true := by intro ν; kernel_rfl) (hn : sts.contains i = false := by kernel_rfl) : Ob b Try.prog ops sts F I i o :=
  nw 0 sts.length (fun _ => v) (fun _ ν w _ _ hO => ld_addr ty hu ho (hx ν) (hc w (hlow _ ν w hO))) (by simp [win]) hv hw hn
/-- A call from one state to the next. -/
theorem kc (t : Nat) (f : FuncId) (args : Nu → Array Value) (v : Nu → Value) (hc : ∀ ν w, I t ν w → Calls Try.prog f (args ν) w fun e w' => e = .returned (v ν) ∧ I (t + 1) ν w') (hv : ∀ ν, (F ν).put o.dst (v ν) = F ν := by intro ν; kernel_rfl) (hrun : ∀ ν w, (execOp (F ν).eval o).run Try.prog w = .ok (.enter f (args ν)) w := by intro ν w; kernel_rfl)
    (hp : plc b ops sts i t = true := by kernel_rfl) (hw : ∀ ν, Region.wanted o (yielded ops (F ν).tmps) = true := by intro ν; kernel_rfl) (hF : ∀ ν, (F ν).defers = [] := by intro ν; kernel_rfl) : Ob b Try.prog ops sts F I i o := by
  refine SS_of t (fun ν _ _ => ν) (plc_spec hp).1 (plc_spec hp).2 hw (fun ν w K hO hK => ?_) hF
  unfold Oper.wp
  rw [hrun ν w, Oper.upon_enter]
  refine (hc ν w hO).mono fun e w' hh => ?_
  obtain ⟨rfl, hO'⟩ := hh
  exact hK _ _ (by rw [hv ν]) hO'
/-- A row that was laid in the region, told as a string. -/
theorem nss (lo hi j n c : Nat) (q : Nu → Nat) (f : Nat → Nat) {x : Operand} (hf : ∀ i, f i < 256) (hL : ∀ s, lo ≤ s → s ≤ hi → ∀ ν, (L s ν)[j]? = some (q ν, vals .u8 n f, 5)) (ho : o.op = .convert 44 9 x := by rfl) (hx : ∀ ν, (F ν).eval x = .slice (some ⟨q ν, 0, none⟩) n c := by intro ν; kernel_rfl)
    (hwin : win b ops sts i lo hi = true := by kernel_rfl) (hv : ∀ ν, vof (F ν) o = .string (sk n f) := by intro ν; kernel_rfl) (hw : ∀ ν, Region.wanted o (yielded ops (F ν).tmps) = true := by intro ν; kernel_rfl) (hn : sts.contains i = false := by kernel_rfl) : Ob b Try.prog ops sts F (OI u L) i o :=
  nw lo hi (fun _ => .string (sk n f)) (fun s ν w h1 h2 hO => b_str w (rc_row (Own.row hO j (hL s h1 h2 ν)) fun i hi => by rw [Nat.zero_add]; exact vals_get _ _ _ _ hi) hf ho (hx ν)) hwin hv hw hn
end
end B
namespace W
/-- Whether a number may be put. -/
def okB (v : Nat) (b : Int) : Bool := decide (0 ≤ b) && decide (b ≤ 32) && decide (v < 2 ^ b.toNat)
def nX (X c v : Nat) (b : Int) : Nat := if okB v b = true then X + v * 2 ^ c else X
def nC (c v : Nat) (b : Int) : Nat := if okB v b = true then c + b.toNat else c
def nE (v : Nat) (b : Int) : Nat := if okB v b = true then 0 else 1
theorem okB_yes {v : Nat} {b : Int} (h : okB v b = true) : ∃ n : Nat, b = (n : Int) ∧ b.toNat = n ∧ n ≤ 32 ∧ v < 2 ^ n := by
  unfold okB at h
  simp only [Bool.and_eq_true, decide_eq_true_eq] at h
  exact ⟨b.toNat, by omega, rfl, by omega, h.2⟩
theorem okB_no {v : Nat} {b : Int} (h : ¬ okB v b = true) : Bad v b := by
  rcases bad_or v b with h1 | ⟨n, rfl, h2, h3⟩
  · exact h1
  · refine absurd ?_ h
    unfold okB
    simp only [Bool.and_eq_true, decide_eq_true_eq]
    exact ⟨⟨by omega, by omega⟩, h3⟩
theorem nC_le (c v : Nat) (b : Int) : nC c v b ≤ c + 32 := by
  unfold nC
  by_cases h : okB v b = true
  · rw [if_pos h]
    obtain ⟨n, _, h1, h2, _⟩ := okB_yes h
    omega
  · rw [if_neg h]; omega
theorem nC_ge (c v : Nat) (b : Int) : c ≤ nC c v b := by
  unfold nC
  split <;> omega
theorem nX_lt {X c : Nat} (hX : X < 2 ^ c) (v : Nat) (b : Int) : nX X c v b < 2 ^ nC c v b := by
  unfold nX nC
  by_cases h : okB v b = true
  · rw [if_pos h, if_pos h]
    obtain ⟨n, _, h1, h2, h3⟩ := okB_yes h
    rw [h1]
    exact M.put_lt hX h3
  · rw [if_neg h, if_neg h]; exact hX
theorem WPutA {X c : Nat} (v : Nat) (b : Int) (hc : c < 2 ^ 39) (N : Nat) (u : World) (M' : List Row) (w : World) (h : WrS u w M' N X c) :
    Calls Try.prog 40 #[D N, Nv .u64 v, .int .i64 b] w fun e w' => e = .returned (Nv .i64 (nE v b)) ∧ WrS u w' M' N (nX X c v b) (nC c v b) := by
  unfold nX nC nE
  by_cases hk : okB v b = true
  · rw [if_pos hk, if_pos hk, if_pos hk]
    obtain ⟨n, rfl, h1, h2, h3⟩ := okB_yes hk
    refine (WPut h3 h2 hc rfl rfl N u M' w h).mono fun e w' hh => ?_
    obtain ⟨_, he, rfl, h'⟩ := hh
    exact ⟨he, h1 ▸ h'⟩
  · rw [if_neg hk, if_neg hk, if_neg hk]
    exact (Put_bad (okB_no hk) N w).mono fun e w' hh => ⟨hh.1, h.call hh.2⟩
theorem RPutA {X c t : Nat} (hX : X < 2 ^ c) (v : Nat) (b : Int) (hc : c ≤ 2 ^ 29) (N : Nat) (u : World) (M' : List Row) (w : World) (h : RefS u w M' N X c t) :
    Calls Try.prog 41 #[D N, Nv .u64 v, .int .i64 b] w fun e w' => e = .returned (Nv .i64 (nE v b)) ∧ RefS u w' M' N (nX X c v b) (nC c v b) t := by
  unfold nX nC nE
  by_cases hk : okB v b = true
  · rw [if_pos hk, if_pos hk, if_pos hk]
    obtain ⟨n, rfl, h1, h2, h3⟩ := okB_yes hk
    rw [h1]
    exact RPut_c hX h3 h2 hc N u M' w h
  · rw [if_neg hk, if_neg hk, if_neg hk]
    exact (RPut_bad (okB_no hk) N w).mono fun e w' hh => ⟨hh.1, h.call hh.2⟩
theorem WrS.own {u w : World} {M' : List Row} {N X c : Nat} (h : WrS u w M' N X c) : Own u w M' := by
  obtain ⟨hX, p, C, hO, hC⟩ := h
  exact hO.sub ((List.sublist_append_right C M').cons _)
theorem nX_mod {X c e v : Nat} {b : Int} (h : e ≤ c) : nX X c v b % 2 ^ e = X % 2 ^ e := by
  unfold nX
  split
  · rw [show v * 2 ^ c = 2 ^ e * (v * 2 ^ (c - e)) by rw [Nat.mul_left_comm, ← Nat.pow_add, Nat.add_sub_cancel' h], Nat.add_mul_mod_self_left]
  · rfl
theorem byt_mod {X e i : Nat} (h : 8 * i + 8 ≤ e) : byt (X % 2 ^ e) i = byt X i := by
  unfold byt
  rw [show 2 ^ e = 2 ^ (8 * i) * (256 * 2 ^ (e - 8 * i - 8)) by rw [show (256 : Nat) = 2 ^ 8 by decide, ← Nat.pow_add, ← Nat.pow_add]; congr 1; omega, Nat.mod_mul_right_div_self, Nat.mod_mul_right_mod]
end W
end Go.Proofs.Ytkljpidlfddgbaa
