/- Walks: double, step. -/
import Derived.Test.YtalnkcijebdpbaaDoorAb
namespace Go.Proofs.YtalnkcijebdpbaaDoor.S
open Go.RowKit

/-- The bit that goes into word k. -/
def db (x b k : Nat) : Nat := if k = 0 then b else limb x (k - 1) / 2 ^ 63
theorem db_le (x b k : Nat) (hb : b ≤ 1) : db x b k ≤ 1 := by
  unfold db
  split
  · exact hb
  · have := limb_lt x (k - 1); omega
theorem db_next (x b k : Nat) : db x b (k + 1) = limb x k / 2 ^ 63 := by
  unfold db; rw [if_neg (by omega)]; rfl
theorem db_word (x b k : Nat) (h : k < 4) (hb : b ≤ 1) : limb (2 * x + b) k = limb x k * 2 % 2 ^ 64 + db x b k := by
  rcases four h with rfl | rfl | rfl | rfl <;> simp [limb, db] <;> omega
theorem or_double (x b k : Nat) (h : k < 4) (hb : b ≤ 1) : bits .or .u64 (((limb x k * 2 % 2 ^ 64 : Nat) : Int)) ((db x b k : Nat) : Int) = ((limb (2 * x + b) k : Nat) : Int) := by
  have h1 := db_le x b k hb
  rw [u64_or_nat _ _ (by omega) (by omega), nat_join 1 _ _ (by omega) (by omega), db_word x b k h hb]
theorem shl_int (n : Nat) : IntKind.u64.wrap ((n : Int) * 2) = ((n * 2 % 2 ^ 64 : Nat) : Int) := by
  rw [wrap_u64']; omega

set_option maxHeartbeats 400000 in
theorem double_any (x b : Nat) (w : World) (hb : b ≤ 1) :
    Calls Tryd.prog 46 #[fe x, .int .u64 b] w fun e w' => e = .returned (fe (2 * x + b)) ∧ Below w.heap.size w w' := by
  have Hb := hide hb
  clear hb
  rw [fe_arr x]
  go_enter Tryd.func46, Tryd.ntmps46
  go_wp2
  go_loopw [1, 6] (fun c i wr => ∃ k : Nat, k ≤ 4 ∧ i = .int .i64 k ∧ c = .int .u64 (db x b k : Nat) ∧ Blk wr w.heap.size (arr 4 (fun j => if j < k then limb (2 * x + b) j else limb x j)) 25 ∧ (∃ z0 z1 z2 z3, Blk wr (w.heap.size + 1) #[z0, z1, z2, z3] 25) ∧ Below w.heap.size w wr) (fun _ i _ => 4 - (intOf i).toNat)
  case atStart =>
    refine ⟨0, by omega, rfl, rfl, ?_, ⟨_, _, _, _, Blk.new' (w.alloc _) (w.heap.size + 1) (by simp) _ _⟩, ?_⟩
    · exact ((Blk.new w _ _).alloc _).cast (arr_congr _ _ _ fun j _ => by simp)
    · exact ((Below.refl _ w).alloc (Nat.le_refl _) _).alloc (by simp) _
  case round =>
    obtain ⟨k, hk, rfl, rfl, B1, ⟨z0, z1, z2, z3, B3⟩, L⟩ := hrel
    by_cases hlt : k < 4
    · have cx := B1.cell k
      rw [arr_get _ _ _ hlt, if_neg (by omega)] at cx
      have fx := B1.frozen k
      have Ho := hide (or_double x b k hlt Hb.out)
      have Hsh := hide (shl_int (limb x k))
      have Hn : Hid (((limb x k : Nat) : Int) / 9223372036854775808 = ((db x b (k + 1) : Nat) : Int)) := hide (by rw [db_next]; omega)
      have HB1 := hide (upd_next (limb x) (limb (2 * x + b)) k wr.drew _ _ B1.drew)
      have HB3 := hide B3
      have HL := hide L
      clear B1 B3 L
      have hk0 : (0 : Int) ≤ (k : Int) := by omega
      have hk4 : (k : Int) < 4 := by omega
      go_wp2
      go_region_with (fail)
      all_goals
        go_wp2
        rw [Hn.out]
        rw [Hsh.out, Ho.out]
        go_roundw
        case rel =>
          refine ⟨k + 1, by omega, by go_num, rfl, HB1.out, ⟨z0, z1, z2, z3, HB3.out.drew.setOther _ _ (by omega)⟩, HL.out.drew.setCell (Nat.le_refl _) _⟩
        case measure => simp [intOf]; omega
    · have e4 : k = 4 := by omega
      subst e4
      have B1' := B1.cast (arr_congr 4 _ (limb (2 * x + b)) fun j hj => by simp [hj])
      rw [arr4] at B1'
      obtain ⟨c1, f1⟩ := B1'.rules
      obtain ⟨c2, f2⟩ := B3.rules
      obtain ⟨r1, r2, r3, r4⟩ := B3.writes
      have HL := hide L
      clear B1 B3 L B1' hlt
      go_wp2
      refine bodyPost_ret (v := fe (2 * x + b)) (by simp [results, Tryd.results46, go_sem, r3, fe_def]) rfl ⟨rfl, ?_⟩
      exact Below.row HL.out (by omega) _
theorem double_at (x b : Nat) (args : Array Value) (w : World) (h : args = #[fe x, .int .u64 b]) (hb : b ≤ 1) :
    Calls Tryd.prog 46 args w fun e w' => e = .returned (fe (2 * x + b)) ∧ Below w.heap.size w w' := by
  subst h; exact double_any x b w hb

theorem run_add (x y c : Nat) (hc : c ≤ 1) (w : World) :
    (callFunc 44 #[.int .u64 x, .int .u64 y, .int .u64 c]).run Tryd.prog w =
      .ok (.value (.tuple #[.int .u64 ((x + y + c) % 2 ^ 64 : Nat), .int .u64 ((x + y + c) / 2 ^ 64 : Nat)])) w := by
  rw [run_callFunc_extern Tryd.func44 (by kernel_rfl) (by kernel_rfl) (by kernel_rfl) (e := add64Entry) (by kernel_rfl), run_add64 x y c (by omega) (by omega) (by omega) (by omega)]
  simp only [Result.andThen]
  congr 5 <;> omega
theorem add_lit (x y s o : Nat) (hs : s = (x + y) % 2 ^ 64) (ho : o = (x + y) / 2 ^ 64) (w : World) : (callFunc 44 #[.int .u64 x, .int .u64 y, .int .u64 0]).run Tryd.prog w =
      .ok (.value (.tuple #[.int .u64 s, .int .u64 o])) w := by
  have := run_add x y 0 (by omega) w
  rw [hs, ho]; exact this
set_option maxHeartbeats 400000 in
theorem mul64_any (x y : Nat) (w : World) (hx : x < 2 ^ 64) (hy : y < 2 ^ 64) :
    Calls Tryd.prog 43 #[.int .u64 x, .int .u64 y] w fun e w' => e = .returned (.tuple #[.int .u64 (x * y / 2 ^ 64 : Nat), .int .u64 (x * y % 2 ^ 64 : Nat)]) ∧ w' = w := by
  have Hh := hide (mul_hi x y hx hy)
  clear hx hy
  go_enter Tryd.func43, Tryd.ntmps43
  go_wp2
  go_ret2
  exact ⟨ret_two Hh.out (mul_lo x y), rfl⟩
theorem mul64_at (x y : Nat) (args : Array Value) (w : World) (h : args = #[.int .u64 x, .int .u64 y]) (hx : x < 2 ^ 64) (hy : y < 2 ^ 64) (hi lo : Nat) (hh : hi = x * y / 2 ^ 64) (hl : lo = x * y % 2 ^ 64) :
    Calls Tryd.prog 43 args w fun e w' => e = .returned (.tuple #[.int .u64 hi, .int .u64 lo]) ∧ w' = w := by
  subst h hh hl; exact mul64_any x y w hx hy

set_option maxHeartbeats 400000 in
theorem step_any (x y m c : Nat) (w : World) (hx : x < 2 ^ 64) (hy : y < 2 ^ 64) (hm : m < 2 ^ 64) (hc : c < 2 ^ 64) :
    Calls Tryd.prog 20 #[.int .u64 x, .int .u64 y, .int .u64 m, .int .u64 c] w fun e w' => e = .returned (.tuple #[.int .u64 ((x * y + m + c) % 2 ^ 64 : Nat), .int .u64 ((x * y + m + c) / 2 ^ 64 : Nat)]) ∧ w' = w := by
  obtain ⟨n1, n2, n3, n4⟩ := halves_num x y m c hx hy hm hc
  have a1 := add_lit (x * y % 2 ^ 64) m _ _ rfl rfl
  have a2 := add_lit ((x * y % 2 ^ 64 + m) % 2 ^ 64) c _ _ rfl rfl
  have w1 : IntKind.u64.wrap (((x * y / 2 ^ 64 : Nat) : Int) + (((x * y % 2 ^ 64 + m) / 2 ^ 64 : Nat) : Int)) = ((x * y / 2 ^ 64 + (x * y % 2 ^ 64 + m) / 2 ^ 64 : Nat) : Int) := by rw [wrap_u64']; omega
  have w2 : IntKind.u64.wrap (((x * y / 2 ^ 64 + (x * y % 2 ^ 64 + m) / 2 ^ 64 : Nat) : Int) + ((((x * y % 2 ^ 64 + m) % 2 ^ 64 + c) / 2 ^ 64 : Nat) : Int)) = (((x * y + m + c) / 2 ^ 64 : Nat) : Int) := by rw [wrap_u64']; omega
  have M := hide (fun w => mul64_at x y #[.int .u64 x, .int .u64 y] w rfl hx hy _ _ rfl rfl)
  rw [← n4]
  clear n1 n2 n3 n4 hx hy hm hc
  generalize ((x * y % 2 ^ 64 + m) % 2 ^ 64 + c) % 2 ^ 64 = s2 at *
  generalize ((x * y % 2 ^ 64 + m) % 2 ^ 64 + c) / 2 ^ 64 = o2 at *
  generalize (x * y + m + c) / 2 ^ 64 = g2 at *
  generalize x * y / 2 ^ 64 + (x * y % 2 ^ 64 + m) / 2 ^ 64 = g1 at *
  generalize (x * y % 2 ^ 64 + m) % 2 ^ 64 = s1 at *
  generalize (x * y % 2 ^ 64 + m) / 2 ^ 64 = o1 at *
  generalize x * y / 2 ^ 64 = hi at *
  generalize x * y % 2 ^ 64 = lo at *
  go_enter Tryd.func20, Tryd.ntmps20
  go_wp2_with fail
  refine (M.out _).mono ?_
  rintro e w' ⟨rfl, rfl⟩
  dsimp only
  go_wp2
  go_ret2
  exact ⟨rfl, rfl⟩
theorem step_at (x y m c : Nat) (args : Array Value) (w : World) (h : args = #[.int .u64 x, .int .u64 y, .int .u64 m, .int .u64 c]) (hx : x < 2 ^ 64) (hy : y < 2 ^ 64) (hm : m < 2 ^ 64) (hc : c < 2 ^ 64) (s d : Nat) (hs : s = (x * y + m + c) % 2 ^ 64) (hd : d = (x * y + m + c) / 2 ^ 64) :
    Calls Tryd.prog 20 args w fun e w' => e = .returned (.tuple #[.int .u64 s, .int .u64 d]) ∧ w' = w := by
  subst h hs hd; exact step_any x y m c w hx hy hm hc
end Go.Proofs.YtalnkcijebdpbaaDoor.S
