/- word: a number of eight bytes, told. -/
import Derived.Test.YtbjcfibpiiplaaaWp
namespace Go.Proofs.Ytbjcfibpiiplaaa
open Go.RowKit

theorem nb_byt (n : Nat) : ∀ k, nb (byt n) k = n % 2 ^ (8 * k)
  | 0 => by simp [nb, Nat.mod_one]
  | k + 1 => by
    rw [nb, nb_byt n k, show 8 * (k + 1) = 8 * k + 8 by omega, Nat.pow_add, Nat.mod_mul, Nat.mul_comm (byt n k)]
    rfl
theorem byt_lt (n i : Nat) : byt n i < 256 := Nat.mod_lt _ (by omega)
theorem byt_zero (n j m : Nat) (h : n < 2 ^ (8 * m)) (hj : m ≤ j) : byt n j = 0 := by
  unfold byt
  rw [Nat.div_eq_of_lt (Nat.lt_of_lt_of_le h (Nat.pow_le_pow_right (by omega) (by omega)))]
theorem nb_congr (f g : Nat → Nat) : ∀ k, (∀ j, j < k → f j = g j) → nb f k = nb g k
  | 0, _ => rfl
  | k + 1, h => by rw [nb, nb, nb_congr f g k (fun j hj => h j (by omega)), h k (by omega)]
theorem word_int (n k : Nat) : ((n : Int) / 2 ^ (8 * k) % 256) = ((byt n k : Nat) : Int) := by
  unfold byt; simp

theorem built22 : Try.prog.built 22 [] = some (vals .u8 32 (fun _ => 0)) := by kernel_rfl
set_option maxHeartbeats 400000 in
theorem word_any (n : Nat) (w : World) (hn : n < 2 ^ 64) :
    Calls Try.prog 32 #[.int .u64 n] w fun e w' => e = .returned (fe n) ∧ Below w.heap.size w w' := by
  have Hn := hide hn
  clear hn
  have E0 := Blk.new' (w.alloc (.cells z4 27)) (w.heap.size + 1) (by simp) (vals .u8 32 (fun _ => 0)) 22
  go_enter Try.func32, Try.ntmps32
  go_wp2_with (first
    | (refine wpList_build rfl 22 #[] rfl (by simp [built22]) ?_; simp only [List.map_toArray, List.map_nil, built22, Option.getD_some])
    | (refine wpList_store_row rfl 22 _ _ rfl (w.heap.size + 1) (vals .u8 32 (fun _ => 0)) rfl rfl 22 _ (Blk.new' _ _ (by simp) _ _) (by rw [vals_size]; exact cells22) (by rw [vals_size]; rfl) (vals_one _ _ _) ?_))
  go_loopw [4] (fun i wr => ∃ k : Nat, k ≤ 8 ∧ i = .int .i64 k ∧ Blk wr w.heap.size z4 27 ∧ Blk wr (w.heap.size + 1) (vals .u8 32 (fun j => if j < k then byt n j else 0)) 22 ∧ Below w.heap.size w wr) (fun i _ => 8 - (intOf i).toNat)
  case atStart =>
    refine ⟨0, by omega, rfl, ?_, ?_, ?_⟩
    · exact ((Blk.new w _ _).alloc _).rowOther _ (by omega)
    · exact (E0.row _).cast (vals_congr _ _ _ _ fun j _ => by simp)
    · exact Below.row (((Below.refl _ w).alloc (Nat.le_refl _) _).alloc (by simp) _) (by omega) _
  case round =>
    obtain ⟨k, hk, rfl, Bz, Bb, L⟩ := hrel
    by_cases hlt : k < 8
    · have cb := Bb.cell k
      rw [vals_get _ _ _ _ (by omega)] at cb
      have fb := Bb.frozen k
      have HBz := hide Bz
      have HBb := hide Bb
      have HL := hide L
      clear Bz Bb L
      have hk0 : (0 : Int) ≤ (k : Int) := by omega
      have hk4 : (k : Int) < 8 := by omega
      have Hi := hide (word_int n k)
      clear E0
      go_wp2
      rw [Hi.out]
      go_roundw
      case rel =>
        refine ⟨k + 1, by omega, by go_num, HBz.out.setOther _ _ (by omega), ?_, HL.out.setCell (by show w.heap.size ≤ w.heap.size + 1; omega) _⟩
        exact (HBb.out.set k _).cast (by
          rw [vals_set]
          apply vals_congr
          intro j _
          by_cases h1 : j = k
          · subst h1; simp
          · by_cases h2 : j < k
            · simp [h1, h2, show j < k + 1 by omega]
            · simp [h1, h2, show ¬ j < k + 1 by omega])
      case measure => simp [intOf]; omega
    · have e4 : k = 8 := by omega
      subst e4
      have HBz := hide Bz
      have HBb := hide (Bb.cast (vals_congr _ 32 _ (byt n) fun j hj => by
        by_cases h : j < 8
        · simp [h]
        · rw [if_neg h, byt_zero n j 8 Hn.out (by omega)]))
      have HL := hide L
      clear Bz Bb L E0
      go_wp2_with (first
        | (refine wpList_load_row rfl 22 _ rfl (w.heap.size + 1) rfl 22 _ (0, 0) _ HBb.out Try.underlying22 rfl (by rw [vals_size]; exact cells22) ?_))
      refine (load_at (byt n) _ _ (by rfl) (byt_lt n)).mono ?_
      rw [nb_byt, Nat.mod_eq_of_lt (show n < 2 ^ (8 * 32) by have := Hn.out; omega), Nat.mod_eq_of_lt (show n < pP by have := Hn.out; unfold pP; omega)]
      rintro e w1 ⟨rfl, hb1⟩
      have E1 := HBz.out.call hb1
      have HL1 := hide (HL.out.trans (hb1.mono HL.out.size))
      obtain ⟨c2, f2⟩ := E1.rules
      obtain ⟨r1, r2, r3, r4⟩ := E1.writes
      rw [fe_def]
      clear E1 hb1
      dsimp only
      go_wp2
      refine bodyPost_ret (v := fe n) (by simp [results, Try.results32, go_sem, r3, fe_def]) rfl ⟨rfl, ?_⟩
      exact Below.row HL1.out (Nat.le_refl _) _
theorem word_at (n : Nat) (args : Array Value) (w : World) (h : args = #[.int .u64 n]) (hn : n < 2 ^ 64) :
    Calls Try.prog 32 args w fun e w' => e = .returned (fe n) ∧ Below w.heap.size w w' := by
  subst h; exact word_any n w hn
end Go.Proofs.Ytbjcfibpiiplaaa
