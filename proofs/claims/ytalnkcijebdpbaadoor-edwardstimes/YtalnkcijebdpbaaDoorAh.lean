/- The first region of MulAdd, whole. -/
import Derived.Test.YtalnkcijebdpbaaDoorAg
namespace Go.Proofs.YtalnkcijebdpbaaDoor.S
open Go.RowKit

/-- What stays through the region. -/
def mS (f g h : Nat → Nat) (w0 : World) (w' : World) : Prop :=
  Blk w' w0.heap.size (vals .u8 32 f) 22 ∧ Blk w' (w0.heap.size + 1) (vals .u8 32 g) 22 ∧ Blk w' (w0.heap.size + 2) (vals .u8 32 h) 22 ∧ Blk w' (w0.heap.size + 3) (vals .u8 32 (fun _ => 0)) 22 ∧ Below w0.heap.size w0 w'
theorem mS.call {f g h : Nat → Nat} {w0 w u : World} (s : mS f g h w0 w) (hb : Below w.heap.size w u) : mS f g h w0 u :=
  ⟨s.1.call hb, s.2.1.call hb, s.2.2.1.call hb, s.2.2.2.1.call hb, s.2.2.2.2.trans (hb.mono s.2.2.2.2.size)⟩
theorem mS.alloc {f g h : Nat → Nat} {w0 w : World} (s : mS f g h w0 w) (o : Obj) : mS f g h w0 (w.alloc o) := s.call ((Below.refl _ w).alloc (Nat.le_refl _) o)
theorem mS.big {f g h : Nat → Nat} {w0 w : World} (s : mS f g h w0 w) : w0.heap.size + 4 ≤ w.heap.size := by have := s.2.2.2.1.lt; omega
theorem mS.row {f g h : Nat → Nat} {w0 w : World} (s : mS f g h w0 w) (b : Nat) (cs : Array Value) (hb : w0.heap.size + 4 ≤ b) : mS f g h w0 (w.setRow b cs) :=
  ⟨s.1.rowOther cs (by omega), s.2.1.rowOther cs (by omega), s.2.2.1.rowOther cs (by omega), s.2.2.2.1.rowOther cs (by omega), Below.row s.2.2.2.2 (by omega) cs⟩

def mV (x : Bool) (b : Nat) : Value := if x then ptr b else undef
def mW (c k : Nat) (v : Value) : Value := if k < c then v else undef
def mL (c : Nat) (x7 x8 x9 : Bool) : Array Bool := #[true, decide (0 < c), true, decide (1 < c), true, decide (2 < c), x7, x8, x9, false, false, false]
def mHas (w0 w : World) (x : Bool) (b : Nat) : Prop := x = true → Blk w b z4 25 ∧ w0.heap.size + 4 ≤ b
theorem mHas.call {w0 w u : World} {x : Bool} {b : Nat} (s : mHas w0 w x b) (hb : Below w.heap.size w u) : mHas w0 u x b := fun h => ⟨(s h).1.call hb, (s h).2⟩
theorem mHas.alloc {w0 w : World} {x : Bool} {b : Nat} (s : mHas w0 w x b) (o : Obj) : mHas w0 (w.alloc o) x b := s.call ((Below.refl _ w).alloc (Nat.le_refl _) o)
theorem mHas.lt {w0 w : World} {x : Bool} {b : Nat} (s : mHas w0 w x b) (h : x = true) : b < w.heap.size := (s h).1.lt
/-- What holds behind each step: how many calls, and which variables. -/
def mI (f g h : Nat → Nat) (w0 : World) (n : Nat) (l : Array Bool) (a : Act) (w : World) : Prop :=
  ∃ (c : Nat) (x7 x8 x9 : Bool) (b7 b8 b9 : Nat), c ≤ 3 ∧ n = (3 - c) + (!x7).toNat + (!x8).toNat + (!x9).toNat ∧ l = mL c x7 x8 x9 ∧
    a = mFr f g h w0.heap.size (mV x7 b7) (mV x8 b8) (mV x9 b9) (mW c 0 (fe (nb f 32))) (mW c 1 (fe (nb g 32))) (mW c 2 (fe (nb h 32))) ∧
    mHas w0 w x7 b7 ∧ mHas w0 w x8 b8 ∧ mHas w0 w x9 b9 ∧ (x7 = true → x8 = true → b7 ≠ b8) ∧ (x7 = true → x9 = true → b7 ≠ b9) ∧ (x8 = true → x9 = true → b8 ≠ b9)

def mFr0 (f g h : Nat → Nat) (N : Nat) : Act :=
  { tmps := #[.agg (vals .u8 32 f), .agg (vals .u8 32 g), .agg (vals .u8 32 h), ptr N, ptr (N + 1), ptr (N + 2), ptr (N + 3), undef, undef, undef, undef, undef, undef, undef, undef, undef, undef, undef, undef, undef, undef, undef, undef, undef, undef, undef, undef, undef, undef, undef, undef, undef, undef, undef, undef, undef, undef, undef, undef, undef, undef, undef, undef, undef, undef, undef, undef, undef, undef, undef, undef, undef, undef, undef, undef, undef, undef], defers := [] }

theorem ne_new {w0 w : World} {x : Bool} {b : Nat} (s : mHas w0 w x b) (h : x = true) : b ≠ w.heap.size := by have := s.lt h; omega
theorem new_ne' {w0 w : World} {x : Bool} {b : Nat} (s : mHas w0 w x b) (h : x = true) : w.heap.size ≠ b := by have := s.lt h; omega

set_option maxHeartbeats 2000000 in
theorem m_step (Q : Exit → Act → World → Prop) (f g h : Nat → Nat) (hf : ∀ i, f i < 256) (hg : ∀ i, g i < 256) (hh : ∀ i, h i < 256) (w0 : World) (n : Nat) (l : Array Bool) (a : Act) (w : World) (hS : mS f g h w0 w) (hI : mI f g h w0 (n + 1) l a w) :
    ∃ rs, Region.ready .any mOps l = rs ∧ rs ≠ [] ∧ ∀ i ∈ rs, wpOp Tryd.prog mOps Q i (fun a' w' => mS f g h w0 w' ∧ mI f g h w0 n (l.setIfInBounds i true) a' w') a w := by
  obtain ⟨c, x7, x8, x9, b7, b8, b9, hc, hn, rfl, rfl, h7, h8, h9, d78, d79, d89⟩ := hI
  have C1 : c = 0 → wpOp Tryd.prog mOps Q 1 (fun a' w' => mS f g h w0 w' ∧ mI f g h w0 n ((mL c x7 x8 x9).setIfInBounds 1 true) a' w') (mFr f g h w0.heap.size (mV x7 b7) (mV x8 b8) (mV x9 b9) (mW c 0 (fe (nb f 32))) (mW c 1 (fe (nb g 32))) (mW c 2 (fe (nb h 32)))) w := by
    rintro rfl
    refine m_call1 Q f g h _ _ _ _ _ _ _ w _ hf fun u hb => ⟨hS.call hb, 1, x7, x8, x9, b7, b8, b9, by omega, by omega, rfl, rfl, h7.call hb, h8.call hb, h9.call hb, d78, d79, d89⟩
  have C3 : c = 1 → wpOp Tryd.prog mOps Q 3 (fun a' w' => mS f g h w0 w' ∧ mI f g h w0 n ((mL c x7 x8 x9).setIfInBounds 3 true) a' w') (mFr f g h w0.heap.size (mV x7 b7) (mV x8 b8) (mV x9 b9) (mW c 0 (fe (nb f 32))) (mW c 1 (fe (nb g 32))) (mW c 2 (fe (nb h 32)))) w := by
    rintro rfl
    refine m_call3 Q f g h _ _ _ _ _ _ _ w _ hg fun u hb => ⟨hS.call hb, 2, x7, x8, x9, b7, b8, b9, by omega, by omega, rfl, rfl, h7.call hb, h8.call hb, h9.call hb, d78, d79, d89⟩
  have C5 : c = 2 → wpOp Tryd.prog mOps Q 5 (fun a' w' => mS f g h w0 w' ∧ mI f g h w0 n ((mL c x7 x8 x9).setIfInBounds 5 true) a' w') (mFr f g h w0.heap.size (mV x7 b7) (mV x8 b8) (mV x9 b9) (mW c 0 (fe (nb f 32))) (mW c 1 (fe (nb g 32))) (mW c 2 (fe (nb h 32)))) w := by
    rintro rfl
    refine m_call5 Q f g h _ _ _ _ _ _ _ w _ hh fun u hb => ⟨hS.call hb, 3, x7, x8, x9, b7, b8, b9, by omega, by omega, rfl, rfl, h7.call hb, h8.call hb, h9.call hb, d78, d79, d89⟩
  have A6 : x7 = false → wpOp Tryd.prog mOps Q 6 (fun a' w' => mS f g h w0 w' ∧ mI f g h w0 n ((mL c x7 x8 x9).setIfInBounds 6 true) a' w') (mFr f g h w0.heap.size (mV x7 b7) (mV x8 b8) (mV x9 b9) (mW c 0 (fe (nb f 32))) (mW c 1 (fe (nb g 32))) (mW c 2 (fe (nb h 32)))) w := by
    rintro rfl
    refine m_new6 Q f g h _ _ _ _ _ _ _ w _ ⟨hS.alloc _, c, true, x8, x9, w.heap.size, b8, b9, hc, by simp at hn ⊢; omega, rfl, rfl, fun _ => ⟨Blk.new w _ _, hS.big⟩, h8.alloc _, h9.alloc _, fun _ h => new_ne' h8 h, fun _ h => new_ne' h9 h, d89⟩
  have A7 : x8 = false → wpOp Tryd.prog mOps Q 7 (fun a' w' => mS f g h w0 w' ∧ mI f g h w0 n ((mL c x7 x8 x9).setIfInBounds 7 true) a' w') (mFr f g h w0.heap.size (mV x7 b7) (mV x8 b8) (mV x9 b9) (mW c 0 (fe (nb f 32))) (mW c 1 (fe (nb g 32))) (mW c 2 (fe (nb h 32)))) w := by
    rintro rfl
    refine m_new7 Q f g h _ _ _ _ _ _ _ w _ ⟨hS.alloc _, c, x7, true, x9, b7, w.heap.size, b9, hc, by simp at hn ⊢; omega, rfl, rfl, h7.alloc _, fun _ => ⟨Blk.new w _ _, hS.big⟩, h9.alloc _, fun h _ => ne_new h7 h, d79, fun _ h => new_ne' h9 h⟩
  have A8 : x9 = false → wpOp Tryd.prog mOps Q 8 (fun a' w' => mS f g h w0 w' ∧ mI f g h w0 n ((mL c x7 x8 x9).setIfInBounds 8 true) a' w') (mFr f g h w0.heap.size (mV x7 b7) (mV x8 b8) (mV x9 b9) (mW c 0 (fe (nb f 32))) (mW c 1 (fe (nb g 32))) (mW c 2 (fe (nb h 32)))) w := by
    rintro rfl
    refine m_new8 Q f g h _ _ _ _ _ _ _ w _ ⟨hS.alloc _, c, x7, x8, true, b7, b8, w.heap.size, hc, by simp at hn ⊢; omega, rfl, rfl, h7.alloc _, h8.alloc _, fun _ => ⟨Blk.new w _ _, hS.big⟩, d78, fun h _ => ne_new h7 h, fun h _ => ne_new h8 h⟩
  rcases (show c = 0 ∨ c = 1 ∨ c = 2 ∨ c = 3 by omega) with hc0 | hc0 | hc0 | hc0
  · subst hc0
    rcases x7 with _ | _ <;> rcases x8 with _ | _ <;> rcases x9 with _ | _
    · refine ⟨[1, 6, 7, 8], by kernel_rfl, by simp, fun i hi => ?_⟩
      simp only [List.mem_cons, List.not_mem_nil, or_false] at hi
      rcases hi with rfl | rfl | rfl | rfl
      · exact C1 rfl
      · exact A6 rfl
      · exact A7 rfl
      · exact A8 rfl
    · refine ⟨[1, 6, 7], by kernel_rfl, by simp, fun i hi => ?_⟩
      simp only [List.mem_cons, List.not_mem_nil, or_false] at hi
      rcases hi with rfl | rfl | rfl
      · exact C1 rfl
      · exact A6 rfl
      · exact A7 rfl
    · refine ⟨[1, 6, 8], by kernel_rfl, by simp, fun i hi => ?_⟩
      simp only [List.mem_cons, List.not_mem_nil, or_false] at hi
      rcases hi with rfl | rfl | rfl
      · exact C1 rfl
      · exact A6 rfl
      · exact A8 rfl
    · refine ⟨[1, 6], by kernel_rfl, by simp, fun i hi => ?_⟩
      simp only [List.mem_cons, List.not_mem_nil, or_false] at hi
      rcases hi with rfl | rfl
      · exact C1 rfl
      · exact A6 rfl
    · refine ⟨[1, 7, 8], by kernel_rfl, by simp, fun i hi => ?_⟩
      simp only [List.mem_cons, List.not_mem_nil, or_false] at hi
      rcases hi with rfl | rfl | rfl
      · exact C1 rfl
      · exact A7 rfl
      · exact A8 rfl
    · refine ⟨[1, 7], by kernel_rfl, by simp, fun i hi => ?_⟩
      simp only [List.mem_cons, List.not_mem_nil, or_false] at hi
      rcases hi with rfl | rfl
      · exact C1 rfl
      · exact A7 rfl
    · refine ⟨[1, 8], by kernel_rfl, by simp, fun i hi => ?_⟩
      simp only [List.mem_cons, List.not_mem_nil, or_false] at hi
      rcases hi with rfl | rfl
      · exact C1 rfl
      · exact A8 rfl
    · refine ⟨[1], by kernel_rfl, by simp, fun i hi => ?_⟩
      simp only [List.mem_cons, List.not_mem_nil, or_false] at hi
      subst hi
      exact C1 rfl
  · subst hc0
    rcases x7 with _ | _ <;> rcases x8 with _ | _ <;> rcases x9 with _ | _
    · refine ⟨[3, 6, 7, 8], by kernel_rfl, by simp, fun i hi => ?_⟩
      simp only [List.mem_cons, List.not_mem_nil, or_false] at hi
      rcases hi with rfl | rfl | rfl | rfl
      · exact C3 rfl
      · exact A6 rfl
      · exact A7 rfl
      · exact A8 rfl
    · refine ⟨[3, 6, 7], by kernel_rfl, by simp, fun i hi => ?_⟩
      simp only [List.mem_cons, List.not_mem_nil, or_false] at hi
      rcases hi with rfl | rfl | rfl
      · exact C3 rfl
      · exact A6 rfl
      · exact A7 rfl
    · refine ⟨[3, 6, 8], by kernel_rfl, by simp, fun i hi => ?_⟩
      simp only [List.mem_cons, List.not_mem_nil, or_false] at hi
      rcases hi with rfl | rfl | rfl
      · exact C3 rfl
      · exact A6 rfl
      · exact A8 rfl
    · refine ⟨[3, 6], by kernel_rfl, by simp, fun i hi => ?_⟩
      simp only [List.mem_cons, List.not_mem_nil, or_false] at hi
      rcases hi with rfl | rfl
      · exact C3 rfl
      · exact A6 rfl
    · refine ⟨[3, 7, 8], by kernel_rfl, by simp, fun i hi => ?_⟩
      simp only [List.mem_cons, List.not_mem_nil, or_false] at hi
      rcases hi with rfl | rfl | rfl
      · exact C3 rfl
      · exact A7 rfl
      · exact A8 rfl
    · refine ⟨[3, 7], by kernel_rfl, by simp, fun i hi => ?_⟩
      simp only [List.mem_cons, List.not_mem_nil, or_false] at hi
      rcases hi with rfl | rfl
      · exact C3 rfl
      · exact A7 rfl
    · refine ⟨[3, 8], by kernel_rfl, by simp, fun i hi => ?_⟩
      simp only [List.mem_cons, List.not_mem_nil, or_false] at hi
      rcases hi with rfl | rfl
      · exact C3 rfl
      · exact A8 rfl
    · refine ⟨[3], by kernel_rfl, by simp, fun i hi => ?_⟩
      simp only [List.mem_cons, List.not_mem_nil, or_false] at hi
      subst hi
      exact C3 rfl
  · subst hc0
    rcases x7 with _ | _ <;> rcases x8 with _ | _ <;> rcases x9 with _ | _
    · refine ⟨[5, 6, 7, 8], by kernel_rfl, by simp, fun i hi => ?_⟩
      simp only [List.mem_cons, List.not_mem_nil, or_false] at hi
      rcases hi with rfl | rfl | rfl | rfl
      · exact C5 rfl
      · exact A6 rfl
      · exact A7 rfl
      · exact A8 rfl
    · refine ⟨[5, 6, 7], by kernel_rfl, by simp, fun i hi => ?_⟩
      simp only [List.mem_cons, List.not_mem_nil, or_false] at hi
      rcases hi with rfl | rfl | rfl
      · exact C5 rfl
      · exact A6 rfl
      · exact A7 rfl
    · refine ⟨[5, 6, 8], by kernel_rfl, by simp, fun i hi => ?_⟩
      simp only [List.mem_cons, List.not_mem_nil, or_false] at hi
      rcases hi with rfl | rfl | rfl
      · exact C5 rfl
      · exact A6 rfl
      · exact A8 rfl
    · refine ⟨[5, 6], by kernel_rfl, by simp, fun i hi => ?_⟩
      simp only [List.mem_cons, List.not_mem_nil, or_false] at hi
      rcases hi with rfl | rfl
      · exact C5 rfl
      · exact A6 rfl
    · refine ⟨[5, 7, 8], by kernel_rfl, by simp, fun i hi => ?_⟩
      simp only [List.mem_cons, List.not_mem_nil, or_false] at hi
      rcases hi with rfl | rfl | rfl
      · exact C5 rfl
      · exact A7 rfl
      · exact A8 rfl
    · refine ⟨[5, 7], by kernel_rfl, by simp, fun i hi => ?_⟩
      simp only [List.mem_cons, List.not_mem_nil, or_false] at hi
      rcases hi with rfl | rfl
      · exact C5 rfl
      · exact A7 rfl
    · refine ⟨[5, 8], by kernel_rfl, by simp, fun i hi => ?_⟩
      simp only [List.mem_cons, List.not_mem_nil, or_false] at hi
      rcases hi with rfl | rfl
      · exact C5 rfl
      · exact A8 rfl
    · refine ⟨[5], by kernel_rfl, by simp, fun i hi => ?_⟩
      simp only [List.mem_cons, List.not_mem_nil, or_false] at hi
      subst hi
      exact C5 rfl
  · subst hc0
    rcases x7 with _ | _ <;> rcases x8 with _ | _ <;> rcases x9 with _ | _
    · refine ⟨[6, 7, 8], by kernel_rfl, by simp, fun i hi => ?_⟩
      simp only [List.mem_cons, List.not_mem_nil, or_false] at hi
      rcases hi with rfl | rfl | rfl
      · exact A6 rfl
      · exact A7 rfl
      · exact A8 rfl
    · refine ⟨[6, 7], by kernel_rfl, by simp, fun i hi => ?_⟩
      simp only [List.mem_cons, List.not_mem_nil, or_false] at hi
      rcases hi with rfl | rfl
      · exact A6 rfl
      · exact A7 rfl
    · refine ⟨[6, 8], by kernel_rfl, by simp, fun i hi => ?_⟩
      simp only [List.mem_cons, List.not_mem_nil, or_false] at hi
      rcases hi with rfl | rfl
      · exact A6 rfl
      · exact A8 rfl
    · refine ⟨[6], by kernel_rfl, by simp, fun i hi => ?_⟩
      simp only [List.mem_cons, List.not_mem_nil, or_false] at hi
      subst hi
      exact A6 rfl
    · refine ⟨[7, 8], by kernel_rfl, by simp, fun i hi => ?_⟩
      simp only [List.mem_cons, List.not_mem_nil, or_false] at hi
      rcases hi with rfl | rfl
      · exact A7 rfl
      · exact A8 rfl
    · refine ⟨[7], by kernel_rfl, by simp, fun i hi => ?_⟩
      simp only [List.mem_cons, List.not_mem_nil, or_false] at hi
      subst hi
      exact A7 rfl
    · refine ⟨[8], by kernel_rfl, by simp, fun i hi => ?_⟩
      simp only [List.mem_cons, List.not_mem_nil, or_false] at hi
      subst hi
      exact A8 rfl
    · simp at hn

theorem m_end (Q : Exit → Act → World → Prop) (f g h : Nat → Nat) (w0 : World)
    (H : ∀ b7 b8 b9 wx, w0.heap.size + 4 ≤ b7 → w0.heap.size + 4 ≤ b8 → w0.heap.size + 4 ≤ b9 → b7 ≠ b8 → b7 ≠ b9 → b8 ≠ b9 → Blk wx b7 (arr 4 (limb (nb f 32))) 25 → Blk wx b8 (arr 4 (limb (nb g 32))) 25 → Blk wx b9 (arr 4 (limb (nb h 32))) 25 → mS f g h w0 wx →
      Q .normal (mFr f g h w0.heap.size (ptr b7) (ptr b8) (ptr b9) (fe (nb f 32)) (fe (nb g 32)) (fe (nb h 32))) wx)
    (l : Array Bool) (a : Act) (w : World) (hS : mS f g h w0 w) (hI : mI f g h w0 0 l a w) : wpAnyH Tryd.prog .any mOps Q (mS f g h w0) 3 l a w := by
  obtain ⟨c, x7, x8, x9, b7, b8, b9, hc, hn, rfl, rfl, h7, h8, h9, d78, d79, d89⟩ := hI
  have hc3 : c = 3 := by omega
  subst hc3
  rcases x7 with _ | _
  · exfalso; simp at hn; omega
  rcases x8 with _ | _
  · exfalso; simp at hn; omega
  rcases x9 with _ | _
  · simp at hn
  obtain ⟨B7, g7⟩ := h7 rfl
  obtain ⟨B8, g8⟩ := h8 rfl
  obtain ⟨B9, g9⟩ := h9 rfl
  have e78 := d78 rfl rfl
  have e79 := d79 rfl rfl
  have e89 := d89 rfl rfl
  clear h7 h8 h9 d78 d79 d89 hn hc
  refine wpAnyH_all (rs := [9]) (by kernel_rfl) (by simp) fun i hi => ?_
  simp only [List.mem_cons, List.not_mem_nil, or_false] at hi
  subst hi
  refine m_put9 Q f g h _ b7 _ _ _ _ w _ B7 ⟨hS.row b7 _ g7, ?_⟩
  refine wpAnyH_all (rs := [10]) (by kernel_rfl) (by simp) fun i hi => ?_
  simp only [List.mem_cons, List.not_mem_nil, or_false] at hi
  subst hi
  refine m_put10 Q f g h _ b8 _ _ _ _ _ _ (B8.rowOther _ e78) ⟨(hS.row b7 _ g7).row b8 _ g8, ?_⟩
  refine wpAnyH_all (rs := [11]) (by kernel_rfl) (by simp) fun i hi => ?_
  simp only [List.mem_cons, List.not_mem_nil, or_false] at hi
  subst hi
  refine m_put11 Q f g h _ b9 _ _ _ _ _ _ ((B9.rowOther _ e79).rowOther _ e89) ⟨((hS.row b7 _ g7).row b8 _ g8).row b9 _ g9, ?_⟩
  refine wpAnyH_done (by kernel_rfl) ?_ _
  exact H b7 b8 b9 _ g7 g8 g9 e78 e79 e89 (((B7.row _).rowOther _ (fun e => e78 e.symm)).rowOther _ (fun e => e79 e.symm)) (((B8.rowOther _ e78).row _).rowOther _ (fun e => e89 e.symm)) (((B9.rowOther _ e79).rowOther _ e89).row _) (((hS.row b7 _ g7).row b8 _ g8).row b9 _ g9)

theorem m_region (Q : Exit → Act → World → Prop) (hQ : ∀ c a w n v, Q (.panic c) (a.put (some n) v) w → Q (.panic c) a w) (f g h : Nat → Nat) (hf : ∀ i, f i < 256) (hg : ∀ i, g i < 256) (hh : ∀ i, h i < 256) (w0 w : World) (hS : mS f g h w0 w)
    (H : ∀ b7 b8 b9 wx, w0.heap.size + 4 ≤ b7 → w0.heap.size + 4 ≤ b8 → w0.heap.size + 4 ≤ b9 → b7 ≠ b8 → b7 ≠ b9 → b8 ≠ b9 → Blk wx b7 (arr 4 (limb (nb f 32))) 25 → Blk wx b8 (arr 4 (limb (nb g 32))) 25 → Blk wx b9 (arr 4 (limb (nb h 32))) 25 → mS f g h w0 wx →
      Q .normal (mFr f g h w0.heap.size (ptr b7) (ptr b8) (ptr b9) (fe (nb f 32)) (fe (nb g 32)) (fe (nb h 32))) wx) :
    (Code.region 1 mOps true).wp Tryd.prog Q (mFr0 f g h w0.heap.size) w := by
  refine wp_region_held_drew (S := mS f g h w0) (by kernel_rfl) ⟨hS.1.drew, hS.2.1.drew, hS.2.2.1.drew, hS.2.2.2.1.drew, hS.2.2.2.2.drew⟩ (fun hHeld => ?_)
  refine wpAnyH_take (i := 0) (oi := { dst := some 14, op := Op.load 22 (Operand.tmp 3), type := 22, pos := "scalar.go:23", after := #[], guard := none }) (v := .agg (vals .u8 32 f)) rfl (by kernel_rfl) (by kernel_rfl) (by kernel_rfl) (fun _ _ _ => hQ _ _ _ _ _) (yields_S (fun _ s => s.1) (by rfl) 22 _ rfl rfl _ Tryd.underlying22 rfl (by rw [vals_size]; exact cells23)) hHeld ?_
  refine wpAnyH_take (i := 2) (oi := { dst := some 16, op := Op.load 22 (Operand.tmp 4), type := 22, pos := "scalar.go:23", after := #[], guard := none }) (v := .agg (vals .u8 32 g)) rfl (by kernel_rfl) (by kernel_rfl) (by kernel_rfl) (fun _ _ _ => hQ _ _ _ _ _) (yields_S (fun _ s => s.2.1) (by rfl) 22 _ rfl rfl _ Tryd.underlying22 rfl (by rw [vals_size]; exact cells23)) hHeld ?_
  refine wpAnyH_take (i := 4) (oi := { dst := some 18, op := Op.load 22 (Operand.tmp 5), type := 22, pos := "scalar.go:23", after := #[], guard := none }) (v := .agg (vals .u8 32 h)) rfl (by kernel_rfl) (by kernel_rfl) (by kernel_rfl) (fun _ _ _ => hQ _ _ _ _ _) (yields_S (fun _ s => s.2.2.1) (by rfl) 22 _ rfl rfl _ Tryd.underlying22 rfl (by rw [vals_size]; exact cells23)) hHeld ?_
  exact wpAnyH_inv (I := mI f g h w0) (m := 3) (m_end Q f g h w0 H) (m_step Q f g h hf hg hh w0) 6 _ _ _ hHeld ⟨0, false, false, false, 0, 0, 0, by omega, rfl, by rfl, by rfl, nofun, nofun, nofun, nofun, nofun, nofun⟩
end Go.Proofs.YtalnkcijebdpbaaDoor.S
