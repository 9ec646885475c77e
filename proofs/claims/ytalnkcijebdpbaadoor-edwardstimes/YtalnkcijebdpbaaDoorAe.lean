/- Walks: modulo. -/
import Derived.Test.YtalnkcijebdpbaaDoorAc
import Derived.Test.YtalnkcijebdpbaaDoorAd
import Derived.ScopeJumps
import Derived.WalkMore
namespace Go.Proofs.YtalnkcijebdpbaaDoor.S
open Go.RowKit

theorem scope_jumps {P : Program} {a : Act} {w : World} {Q : Exit → Act → World → Prop} {c rest : Code} (l : Nat) (J : Act → World → Prop) (μ : Act → World → Nat) (hf : findLabel c l = some (Code.skip.seq rest))
    (pass : ∀ a w, J a w → rest.wp P (Exit.jump l (fun a' w' => J a' w' ∧ μ a' w' < μ a w) Q) a w)
    (first : (∀ a w, J a w → rest.wp P (Exit.jump l J Q) a w) → c.wp P (Exit.jump l J Q) a w) : (Code.scope c).wp P Q a w :=
  wp_scope_jumps l J μ hf (first fun a w h => wp_mono (pass a w h) fun e a' w' hq => by
    cases e <;> first | exact hq | exact ⟨hq.1, hq.2.1⟩) fun a w h => wp_seq (wp_skip (pass a w h))

theorem bit_of (m q : Nat) : limb m (q / 64) / 2 ^ (q % 64) % 2 = m / 2 ^ q % 2 := by
  unfold limb
  have h64 : 2 ^ 64 = 2 ^ (q % 64) * (2 * 2 ^ (64 - q % 64 - 1)) := by
    rw [show 2 ^ (q % 64) * (2 * 2 ^ (64 - q % 64 - 1)) = 2 ^ (q % 64) * (2 ^ 1 * 2 ^ (64 - q % 64 - 1)) from rfl, ← Nat.pow_add, ← Nat.pow_add]; congr 1; omega
  rw [h64, Nat.mod_mul_right_div_self, Nat.mod_mul_right_mod, Nat.div_div_eq_div_mul, ← Nat.pow_add]
  congr 3; omega
theorem and_one (n : Nat) (h : n < 2 ^ 64) : bits .and .u64 (n : Int) 1 = ((n % 2 : Nat) : Int) := by
  have := u64_and_nat n 1 (by omega) (by omega)
  rw [show ((1 : Nat) : Int) = 1 from rfl] at this
  rw [this, show 1 = 2 ^ 1 - 1 from rfl, Nat.and_two_pow_sub_one_eq_mod]
theorem bit_int (m q : Nat) : bits .and .u64 (((limb m (q / 64) : Nat) : Int) / 2 ^ (q % 64)) 1 = ((m / 2 ^ q % 2 : Nat) : Int) := by
  rw [show ((limb m (q / 64) : Nat) : Int) / 2 ^ (q % 64) = ((limb m (q / 64) / 2 ^ (q % 64) : Nat) : Int) by simp, and_one _ (Nat.lt_of_le_of_lt (Nat.div_le_self _ _) (limb_lt _ _)), bit_of]
theorem sq_next (m q : Nat) : sq (2 * (m / 2 ^ (q + 1) % qL) + m / 2 ^ q % 2) = m / 2 ^ q % qL := by
  have h1 := Nat.mod_lt (m / 2 ^ (q + 1)) qL_pos
  rw [sq_mod _ (by omega)]
  have e : m / 2 ^ (q + 1) = m / 2 ^ q / 2 := by rw [Nat.pow_succ, Nat.div_div_eq_div_mul]
  rw [e]
  generalize m / 2 ^ q = n
  rw [Nat.add_mod, Nat.mul_mod, Nat.mod_mod, ← Nat.mul_mod, ← Nat.add_mod]
  congr 1; omega
theorem next_lt (m q : Nat) : 2 * (m / 2 ^ (q + 1) % qL) + m / 2 ^ q % 2 < 2 ^ 256 := by
  have h1 := Nat.mod_lt (m / 2 ^ (q + 1)) qL_pos
  have := qL_lt
  omega

/-- What has come down so far, modulo the order. -/
def rp (m p : Nat) : Nat := m / 2 ^ p % qL
theorem rp_big (m p a b : Nat) (hp : p = a + b) (h : m < 2 ^ a * 2 ^ b) : rp m p = 0 := by
  subst hp; unfold rp; rw [Nat.div_eq_of_lt (by rw [Nat.pow_add]; exact h), Nat.zero_mod]
theorem rp_top (m : Nat) (h : m < 2 ^ 256 * 2 ^ 256) : rp m 512 = 0 := rp_big m 512 256 256 rfl h
theorem rp_zero (m : Nat) : rp m 0 = m % qL := by unfold rp; rw [Nat.pow_zero, Nat.div_one]
/-- What holds at each jump. -/
def ModJ (m : Nat) (w : World) (a' : Act) (w' : World) : Prop :=
  ∃ (p : Nat) (u5 u6 u7 u8 u9 u10 u11 u12 u13 u14 u15 u16 u17 u18 u19 u20 u21 : Value), 0 < p ∧ p ≤ 512 ∧
      a' = { tmps := #[.agg (arr 8 (limb m)), .pointer (some ⟨w.heap.size, 0, none⟩), .pointer (some ⟨w.heap.size + 1, 0, none⟩), .pointer (some ⟨w.heap.size + 2, 0, none⟩), .int .i64 (p : Int), u5, u6, u7, u8, u9, u10, u11, u12, u13, u14, u15, u16, u17, u18, u19, u20, u21], defers := [] } ∧
      Blk w' w.heap.size (arr 8 (limb m)) 49 ∧ Blk w' (w.heap.size + 1) (vals .u8 32 (fun _ => 0)) 22 ∧ Blk w' (w.heap.size + 2) (arr 4 (limb (rp m p))) 25 ∧ Below w.heap.size w w'
def modMu (a' : Act) (_ : World) : Nat := (intOf (a'.tmps.getD 4 undef)).toNat

set_option maxHeartbeats 1000000 in
theorem modulo_any (m : Nat) (w : World) (hG : Glob w) (hm : m < 2 ^ 256 * 2 ^ 256) :
    Calls Tryd.prog 21 #[.agg (arr 8 (limb m))] w fun e w' => e = .returned (ba (byt (m % qL))) ∧ Below w.heap.size w w' := by
  have HG := hide hG
  have Hm := hide hm
  clear hG hm
  go_enter Tryd.func21, Tryd.ntmps21
  go_wp2
  refine scope_jumps 0 (ModJ m w) modMu rfl ?_ ?_
  · rintro a' w' ⟨p, u5, u6, u7, u8, u9, u10, u11, u12, u13, u14, u15, u16, u17, u18, u19, u20, u21, hp0, hp, rfl, Bw, Bz, Br, L⟩
    obtain ⟨q, rfl⟩ : ∃ q, p = q + 1 := ⟨p - 1, by omega⟩
    have cw := Bw.cell (q / 64)
    rw [arr_get _ _ _ (by omega)] at cw
    have Hsq : sq (2 * rp m (q + 1) + m / 2 ^ q % 2) = rp m q := sq_next m q
    have Hlt : 2 * rp m (q + 1) + m / 2 ^ q % 2 < 2 ^ 256 := next_lt m q
    have hb := bit_int m q
    have Hb : m / 2 ^ q % 2 ≤ 1 := by omega
    obtain ⟨b, hbe⟩ : ∃ b, b = m / 2 ^ q % 2 := ⟨_, rfl⟩
    obtain ⟨r, hre⟩ : ∃ r, r = rp m (q + 1) := ⟨_, rfl⟩
    obtain ⟨s, hse⟩ : ∃ s, s = rp m q := ⟨_, rfl⟩
    rw [← hbe, ← hre] at Hlt Hsq
    rw [← hse] at Hsq
    rw [← hbe] at Hb hb
    rw [← hre, arr4] at Br
    have Hse := hide hse
    have HHsq := hide Hsq
    have HHlt := hide Hlt
    have HHb := hide Hb
    clear hbe hre hse Hsq Hlt Hb hp0
    obtain ⟨c1, f1⟩ := Br.rules
    have HBw := hide Bw
    have HBz := hide Bz
    have HBr := hide Br
    have HL := hide L
    clear Bw Bz Br L
    rw [show ((q + 1 : Nat) : Int) = (q : Int) + 1 by omega]
    have hq0 : (0 : Int) ≤ (q : Int) := by omega
    have hq4 : (q : Int) < 512 := by omega
    have hd0 : (0 : Int) ≤ (q : Int) / 64 := by omega
    have hd4 : (q : Int) / 64 < 8 := by omega
    have hdw : IntKind.i64.wrap ((q : Int).tdiv 64) = (q : Int) / 64 := by rw [Int.tdiv_eq_ediv_of_nonneg (by omega), wrap_i64_small' _ (by omega) (by omega)]
    have hdw' : IntKind.i64.wrap ((q : Int) / 64) = (q : Int) / 64 := wrap_i64_small' _ (by omega) (by omega)
    have hdn : ((q : Int) / 64).toNat = q / 64 := by omega
    have hr : IntKind.i64.wrap ((q : Int).tmod 64) = (q : Int) % 64 := by rw [Int.tmod_eq_emod_of_nonneg (by omega), wrap_i64_small' _ (by omega) (by omega)]
    have hr' : (q : Int).tmod 64 = (q : Int) % 64 := by rw [Int.tmod_eq_emod_of_nonneg (by omega)]
    have hr0 : (0 : Int) ≤ (q : Int) % 64 := by omega
    have hr4 : (q : Int) % 64 < 64 := by omega
    have hrn : ((q : Int) % 64).toNat = q % 64 := by omega
    have hp1 : IntKind.i64.wrap ((q : Int) + 1 - 1) = (q : Int) := by rw [show (q : Int) + 1 - 1 = q by omega, wrap_i64_small' _ (by omega) (by omega)]
    go_wp2
    go_region_with (first
      | (go_at_call 46; refine (double_at r b _ _ (by rw [fe_def]) HHb.out).mono ?_; rw [fe_def (2 * r + b)]; rintro e w1 ⟨rfl, hb1⟩; have HB1 := hide (HBr.out.drew.call hb1); have HL1 := hide (HL.out.drew.trans (hb1.mono HL.out.size)); have HZ1 := hide (HBz.out.drew.call hb1); have HW1 := hide (HBw.out.drew.call hb1); clear hb1)
      | (go_at_call 45; refine (settle_at (2 * r + b) _ _ (by rw [fe_def]) (HG.out.low HL1.out) HHlt.out).mono ?_; rw [HHsq.out, fe_def s]; rintro e w2 ⟨rfl, hb2⟩; have HB2 := hide (HB1.out.call hb2); have HL2 := hide (HL1.out.trans (hb2.mono HL1.out.size)); have HZ2 := hide (HZ1.out.call hb2); have HW2 := hide (HW1.out.call hb2); obtain ⟨cz, fz⟩ := HB2.out.rules; obtain ⟨r1, r2, r3, r4⟩ := HB2.out.writes; clear hb2))
    all_goals
      have HBn := hide (HB2.out.row #[.int .u64 (limb s 0 : Nat), .int .u64 (limb s 1 : Nat), .int .u64 (limb s 2 : Nat), .int .u64 (limb s 3 : Nat)])
      have HLn := hide (Below.row (b := w.heap.size + 2) HL2.out (by omega) #[.int .u64 (limb s 0 : Nat), .int .u64 (limb s 1 : Nat), .int .u64 (limb s 2 : Nat), .int .u64 (limb s 3 : Nat)])
      have HZn := hide (HZ2.out.rowOther #[.int .u64 (limb s 0 : Nat), .int .u64 (limb s 1 : Nat), .int .u64 (limb s 2 : Nat), .int .u64 (limb s 3 : Nat)] (show w.heap.size + 2 ≠ w.heap.size + 1 by omega))
      have HWn := hide (HW2.out.rowOther #[.int .u64 (limb s 0 : Nat), .int .u64 (limb s 1 : Nat), .int .u64 (limb s 2 : Nat), .int .u64 (limb s 3 : Nat)] (show w.heap.size + 2 ≠ w.heap.size by omega))
      by_cases hq : q = 0
      · subst hq
        have hn : ¬ ((0 : Int) < ((0 : Nat) : Int)) := by omega
        have hn' : ¬ ((0 : Nat) : Int) > 0 := by omega
        obtain ⟨c2, f2⟩ := HBn.out.rules
        go_wp2_with (first
          | (go_at_call 25; refine (bytes_at s _ _ (by rw [fe_def])).mono ?_; rintro e w3 ⟨rfl, hb3⟩; unfold ba; have HZ3 := hide (HZn.out.call hb3); have HL3 := hide (HLn.out.trans (hb3.mono HLn.out.size)); clear hb3; dsimp only)
          | (refine wpList_store_row rfl 22 _ _ rfl (w.heap.size + 1) (vals .u8 32 (byt s)) rfl rfl 22 _ HZ3.out (by rw [vals_size]; exact cells23) (by rw [vals_size, vals_size]) (vals_one _ _ _) ?_))
        simp only [Exit.jump]
        refine bodyPost_ret (v := .agg (vals .u8 32 (byt s))) (results_cell_row Tryd.results21 _ _ (w.heap.size + 1) 22 _ (0, 0) _ rfl (HZ3.out.row _) Tryd.underlying22 rfl (by rw [vals_size]; exact cells23)) rfl ⟨by rw [Hse.out, rp_zero]; rfl, ?_⟩
        exact Below.row HL3.out (by omega) _
      · have hn : (0 : Int) < (q : Int) := by omega
        clear cw c1 f1 hb hq0 hq4 hd0 hd4 hdw hdw' hdn hr hr' hr0 hr4 hrn hp1 cz fz r1 r2 r3 r4 HBw HBz HBr HL HB1 HL1 HZ1 HW1 HB2 HL2 HZ2 HW2
        go_wp2
        go_step3
        refine ⟨rfl, ⟨q, _, _, _, _, _, _, _, _, _, _, _, _, _, _, _, _, _, by omega, by omega, rfl, HWn.out, HZn.out, HBn.out.cast (by rw [arr4, Hse.out]), HLn.out⟩, ?_⟩
        simp [modMu, intOf]
  · intro H
    go_wp2
    go_step3
    rename_i hK
    refine hK _ _ (H _ _ ?_)
    refine ⟨512, _, _, _, _, _, _, _, _, _, _, _, _, _, _, _, _, _, by omega, by omega, rfl, ?_, ?_, ?_, ?_⟩
    · exact (((Blk.new w _ _).alloc _).alloc _)
    · exact (Blk.new' (w.alloc _) (w.heap.size + 1) (by simp) _ _).alloc _
    · exact (Blk.new' ((w.alloc _).alloc _) (w.heap.size + 2) (by simp) _ _).cast (by rw [rp_top m Hm.out, arr4]; simp [limb])
    · exact (((Below.refl _ w).alloc (Nat.le_refl _) _).alloc (by simp) _).alloc (by simp; omega) _
theorem modulo_at (m : Nat) (args : Array Value) (w : World) (h : args = #[.agg (arr 8 (limb m))]) (hG : Glob w) (hm : m < 2 ^ 256 * 2 ^ 256) :
    Calls Tryd.prog 21 args w fun e w' => e = .returned (ba (byt (m % qL))) ∧ Below w.heap.size w w' := by
  subst h; exact modulo_any m w hG hm
end Go.Proofs.YtalnkcijebdpbaaDoor.S
