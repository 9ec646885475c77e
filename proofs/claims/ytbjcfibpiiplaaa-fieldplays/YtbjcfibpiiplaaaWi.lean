/- Walks: Load. -/
import Derived.Test.YtbjcfibpiiplaaaWh
import Derived.Test.YtbjcfibpiiplaaaMm
namespace Go.Proofs.Ytbjcfibpiiplaaa
open Go.RowKit

/-- The number that the first k bytes are. -/
def nb (f : Nat → Nat) : Nat → Nat
  | 0 => 0
  | k + 1 => nb f k + f k * 2 ^ (8 * k)
theorem nb_lt (f : Nat → Nat) (hf : ∀ i, f i < 256) : ∀ k, nb f k < 2 ^ (8 * k)
  | 0 => by simp [nb]
  | k + 1 => by
    have ih := nb_lt f hf k
    have h1 : f k * 2 ^ (8 * k) ≤ 255 * 2 ^ (8 * k) := Nat.mul_le_mul_right _ (by have := hf k; omega)
    rw [nb, show 8 * (k + 1) = 8 * k + 8 by omega, Nat.pow_add]
    omega
theorem limb_nb (f : Nat → Nat) (hf : ∀ i, f i < 256) (k : Nat) : limb (nb f k) (k / 8) < 2 ^ (k % 8 * 8) := by
  unfold limb
  have := nb_lt f hf k
  have h : nb f k / 2 ^ (64 * (k / 8)) < 2 ^ (k % 8 * 8) := by
    apply Nat.div_lt_of_lt_mul
    rw [← Nat.pow_add, show 64 * (k / 8) + k % 8 * 8 = 8 * k by omega]; exact this
  exact Nat.lt_of_le_of_lt (Nat.mod_le _ _) h
theorem limb_nb_same (f : Nat → Nat) (hf : ∀ i, f i < 256) (k : Nat) : limb (nb f (k + 1)) (k / 8) = limb (nb f k) (k / 8) + f k * 2 ^ (k % 8 * 8) := by
  have h1 := nb_lt f hf k
  have h2 := nb_lt f hf (k + 1)
  have e1 : limb (nb f k) (k / 8) = nb f k / 2 ^ (64 * (k / 8)) := limb_top _ _ (Nat.lt_of_lt_of_le h1 (Nat.pow_le_pow_right (by omega) (by omega)))
  have e2 : limb (nb f (k + 1)) (k / 8) = nb f (k + 1) / 2 ^ (64 * (k / 8)) := limb_top _ _ (Nat.lt_of_lt_of_le h2 (Nat.pow_le_pow_right (by omega) (by omega)))
  rw [e1, e2, nb, show 8 * k = 64 * (k / 8) + k % 8 * 8 by omega, Nat.pow_add, Nat.mul_left_comm, Nat.add_mul_div_left _ _ (pos64 _)]
theorem limb_nb_other (f : Nat → Nat) (hf : ∀ i, f i < 256) (k j : Nat) (h : j ≠ k / 8) : limb (nb f (k + 1)) j = limb (nb f k) j := by
  rcases Nat.lt_or_gt_of_ne h with h | h
  · apply limb_congr _ _ j (k / 8) h
    rw [nb]
    have e : 2 ^ (8 * k) = 2 ^ (64 * (k / 8)) * 2 ^ (k % 8 * 8) := by rw [← Nat.pow_add]; congr 1; omega
    rw [e, Nat.mul_left_comm, Nat.add_mul_mod_self_left]
  · have h1 := nb_lt f hf k
    have h2 := nb_lt f hf (k + 1)
    rw [limb_zero _ _ (Nat.lt_of_lt_of_le h1 (Nat.pow_le_pow_right (by omega) (by omega))), limb_zero _ _ (Nat.lt_of_lt_of_le h2 (Nat.pow_le_pow_right (by omega) (by omega)))]

theorem or_load (f : Nat → Nat) (hf : ∀ i, f i < 256) (k : Nat) : bits .or .u64 ((limb (nb f k) (k / 8) : Nat) : Int) (IntKind.u64.wrap ((f k : Nat) * 2 ^ (k % 8 * 8))) = ((limb (nb f (k + 1)) (k / 8) : Nat) : Int) := by
  have h1 := hf k
  have h2 : f k * 2 ^ (k % 8 * 8) < 2 ^ 64 := by
    have e : 2 ^ 64 = 256 * 2 ^ (64 - k % 8 * 8 - 8) * 2 ^ (k % 8 * 8) := by
      rw [show 256 = 2 ^ 8 from rfl, ← Nat.pow_add, ← Nat.pow_add]; congr 1; omega
    rw [e]
    apply Nat.mul_lt_mul_of_pos_right _ (Nat.two_pow_pos _)
    have := Nat.two_pow_pos (64 - k % 8 * 8 - 8)
    have : 256 * 1 ≤ 256 * 2 ^ (64 - k % 8 * 8 - 8) := Nat.mul_le_mul_left _ this
    omega
  have e2 : IntKind.u64.wrap (((f k : Nat) : Int) * 2 ^ (k % 8 * 8)) = ((f k * 2 ^ (k % 8 * 8) : Nat) : Int) := by
    rw [wrap_u64', show ((f k : Nat) : Int) * 2 ^ (k % 8 * 8) = ((f k * 2 ^ (k % 8 * 8) : Nat) : Int) by simp]
    omega
  rw [e2, u64_or_nat _ _ (by have := limb_lt (nb f k) (k / 8); omega) (by omega), Nat.or_comm, nat_join (k % 8 * 8) _ _ (by simp) (limb_nb f hf k), limb_nb_same f hf k, Nat.add_comm]
theorem wrap_i64_small' (n : Int) (h0 : 0 ≤ n) (h1 : n < 1000) : IntKind.i64.wrap n = n := by
  simp [IntKind.wrap, IntKind.bits, IntKind.signed]; omega
theorem quo8 (k : Nat) (h : k < 32) : IntKind.i64.wrap ((k : Int).tdiv 8) = (k : Int) / 8 := by
  rw [Int.tdiv_eq_ediv_of_nonneg (by omega), wrap_i64_small' _ (by omega) (by omega)]
theorem quo8' (k : Nat) (h : k < 32) : IntKind.i64.wrap ((k : Int) / 8) = (k : Int) / 8 := by
  rw [wrap_i64_small' _ (by omega) (by omega)]
theorem rem8 (k : Nat) (h : k < 32) : IntKind.i64.wrap ((k : Int).tmod 8) = (k : Int) % 8 := by
  rw [Int.tmod_eq_emod_of_nonneg (by omega), wrap_i64_small' _ (by omega) (by omega)]
theorem mul8 (k : Nat) : IntKind.i64.wrap ((k : Int) % 8 * 8) = (k : Int) % 8 * 8 := by
  rw [wrap_i64_small' _ (by omega) (by omega)]

set_option maxHeartbeats 400000 in
theorem load_any (f : Nat → Nat) (w : World) (hf : ∀ i, f i < 256) :
    Calls Try.prog 11 #[ba f] w fun e w' => e = .returned (fe (nb f 32 % pP)) ∧ Below w.heap.size w w' := by
  have Hf := hide hf
  clear hf
  unfold ba
  go_enter Try.func11, Try.ntmps11
  go_wp2
  go_loopw [5] (fun i wr => ∃ k : Nat, k ≤ 32 ∧ i = .int .i64 k ∧ Blk wr w.heap.size (vals .u8 32 f) 22 ∧ (∃ z0 z1 z2 z3, Blk wr (w.heap.size + 1) #[z0, z1, z2, z3] 27) ∧ Blk wr (w.heap.size + 2) (arr 4 (limb (nb f k))) 25 ∧ Below w.heap.size w wr) (fun i _ => 32 - (intOf i).toNat)
  case atStart =>
    refine ⟨0, by omega, rfl, ?_, ⟨.int .u64 0, .int .u64 0, .int .u64 0, .int .u64 0, ?_⟩, ?_, ?_⟩
    · exact (((Blk.new w _ _).alloc _).alloc _)
    · exact (Blk.new' (w.alloc _) (w.heap.size + 1) (by simp) _ _).alloc _
    · exact (Blk.new' ((w.alloc _).alloc _) (w.heap.size + 2) (by simp) _ _).cast (by rw [arr4]; simp [nb, limb])
    · exact (((Below.refl _ w).alloc (Nat.le_refl _) _).alloc (by simp) _).alloc (by simp; omega) _
  case round =>
    obtain ⟨k, hk, rfl, Bx, ⟨z0, z1, z2, z3, Bz⟩, Bl, L⟩ := hrel
    by_cases hlt : k < 32
    · have cx := Bx.cell k
      rw [vals_get _ _ _ _ hlt] at cx
      have cl := Bl.cell (k / 8)
      rw [arr_get _ _ _ (by omega)] at cl
      have fl := Bl.frozen (k / 8)
      have HBx := hide Bx
      have HBz := hide Bz
      have HBl := hide Bl
      have HL := hide L
      clear Bx Bz Bl L
      have hk0 : (0 : Int) ≤ (k : Int) := by omega
      have hk4 : (k : Int) < 32 := by omega
      have hf8 := Hf.out k
      have hq0 : (0 : Int) ≤ (k : Int) / 8 := by omega
      have hq4 : (k : Int) / 8 < 4 := by omega
      have hq : IntKind.i64.wrap ((k : Int).tdiv 8) = (k : Int) / 8 := quo8 k hlt
      have hq' : IntKind.i64.wrap ((k : Int) / 8) = (k : Int) / 8 := quo8' k hlt
      have hr : IntKind.i64.wrap ((k : Int).tmod 8) = (k : Int) % 8 := rem8 k hlt
      have hqn : ((k : Int) / 8).toNat = k / 8 := by omega
      have hmn : ((k : Int) % 8 * 8).toNat = k % 8 * 8 := by omega
      have hr' : (k : Int).tmod 8 = (k : Int) % 8 := by rw [Int.tmod_eq_emod_of_nonneg (by omega)]
      have hm : IntKind.i64.wrap ((k : Int) % 8 * 8) = (k : Int) % 8 * 8 := mul8 k
      have hm0 : (0 : Int) ≤ (k : Int) % 8 * 8 := by omega
      have hm8 : (k : Int) % 8 * 8 < 64 := by omega
      have Ho := hide (or_load f Hf.out k)
      go_wp2
      go_region_with (fail)
      all_goals
        go_wp2
        rw [Ho.out]
        go_roundw
        case rel =>
          refine ⟨k + 1, by omega, by go_num, (HBx.out.setOther _ _ (by omega)).drew, ⟨z0, z1, z2, z3, (HBz.out.setOther _ _ (by omega)).drew⟩, ?_, (HL.out.setCell (by show w.heap.size ≤ w.heap.size + 2; omega) _).drew⟩
          exact ((HBl.out.set (k / 8) _).drew).cast (by
            rw [arr_set]
            apply arr_congr
            intro j _
            by_cases h1 : j = k / 8
            · subst h1; simp
            · simp only [h1, if_false]; exact (limb_nb_other f Hf.out k j h1).symm)
        case measure => simp [intOf]; omega
    · have e4 : k = 32 := by omega
      subst e4
      rw [arr4] at Bl
      obtain ⟨c1, f1⟩ := Bl.rules
      have HBz := hide Bz
      have HL := hide L
      clear Bx Bz Bl L hlt
      go_wp2_with fail
      refine (settle_at (nb f 32) 0 _ _ (by rw [fe_def]; rfl) (nb_lt f Hf.out 32) (by omega)).mono ?_
      rintro e w1 ⟨rfl, hb1⟩
      have E1 := HBz.out.call hb1
      have L1 : Below w.heap.size w w1 := HL.out.trans (hb1.mono HL.out.size)
      obtain ⟨c2, f2⟩ := E1.rules
      obtain ⟨r1, r2, r3, r4⟩ := E1.writes
      rw [show nb f 32 + 0 * 2 ^ 256 = nb f 32 by omega, fe_def]
      have HL1 := hide L1
      have hz := hb1.size
      clear E1 L1 hb1
      dsimp only
      go_wp2
      refine bodyPost_ret (v := fe (nb f 32 % pP)) (by simp [results, Try.results11, go_sem, r3, fe_def]) rfl ⟨rfl, ?_⟩
      exact Below.row HL1.out (by omega) _

theorem load_at (f : Nat → Nat) (args : Array Value) (w : World) (h : args = #[ba f]) (hf : ∀ i, f i < 256) :
    Calls Try.prog 11 args w fun e w' => e = .returned (fe (nb f 32 % pP)) ∧ Below w.heap.size w w' := by
  subst h; exact load_any f w hf
end Go.Proofs.Ytbjcfibpiiplaaa
