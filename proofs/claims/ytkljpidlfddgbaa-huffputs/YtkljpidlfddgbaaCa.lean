/- The Writer's cells, its full pieces; put. A Writer of less than 2^40 bits; no other condition. -/
import Derived.Test.YtkljpidlfddgbaaBn
import Derived.Test.YtkljpidlfddgbaaBl
namespace Go.Proofs.Ytkljpidlfddgbaa
set_option maxRecDepth 100000
open Go.RowKit Rg B


namespace W
/-- The cells of a Writer: the last full piece, the open one, how many bits. -/
def wc (p : Option Addr) (f : Nat → Nat) (c : Nat) : Array Value := ((List.range 258).map fun i => if i = 0 then Value.pointer p else if i = 257 then Nv .i64 c else .int .u8 ((f (i - 1) : Nat) : Int)).toArray
theorem wc_size (p : Option Addr) (f : Nat → Nat) (c : Nat) : (wc p f c).size = 258 := by simp [wc]
theorem wc_p (p : Option Addr) (f : Nat → Nat) (c : Nat) : (wc p f c)[0]? = some (.pointer p) := by simp [wc]
theorem wc_c (p : Option Addr) (f : Nat → Nat) (c : Nat) : (wc p f c)[257]? = some (Nv .i64 c) := by simp [wc]
theorem wc_o (p : Option Addr) (f : Nat → Nat) (c : Nat) {k : Nat} (h : k < 256) : (wc p f c)[1 + k]? = some (.int .u8 ((f k : Nat) : Int)) := by
  have h1 : 1 + k < 258 := by omega
  have h3 : ¬ 1 + k = 257 := by omega
  simp [wc, h1, h3]
theorem wc_ext {a b : Array Value} (ha : a.size = 258) (hb : b.size = 258) (h0 : a[0]? = b[0]?) (h1 : a[257]? = b[257]?) (h : ∀ k, k < 256 → a[1 + k]? = b[1 + k]?) : a = b := cl_ext ha hb fun i hi => by
  by_cases h2 : i = 0
  · subst h2; exact h0
  · by_cases h3 : i = 257
    · subst h3; exact h1
    · have := h (i - 1) (by omega)
      rwa [show 1 + (i - 1) = i by omega] at this
theorem wc_congr {p : Option Addr} {f g : Nat → Nat} {c : Nat} (h : ∀ k, k < 256 → f k = g k) : wc p f c = wc p g c := wc_ext (wc_size ..) (wc_size ..) (by rw [wc_p, wc_p]) (by rw [wc_c, wc_c]) fun k hk => by rw [wc_o _ _ _ hk, wc_o _ _ _ hk, h k hk]
theorem wc_one (p : Option Addr) (f : Nat → Nat) (c : Nat) : (wc p f c).all (·.oneCell') = true := by
  unfold wc
  simp only [List.all_toArray, List.all_map, List.all_eq_true, List.mem_range, Function.comp]
  intro i _
  split
  · rfl
  · split <;> rfl
theorem wc_fit (p : Option Addr) (f : Nat → Nat) (c : Nat) : Fit 49 (wc p f c) := ⟨fun _ => by rw [wc_size]; kernel_rfl, wc_one _ _ _⟩
theorem wc_set_o {p : Option Addr} {f : Nat → Nat} {c k v : Nat} (hk : k < 256) : (wc p f c).setIfInBounds (1 + k) (.int .u8 ((v : Nat) : Int)) = wc p (fun i => if i = k then v else f i) c := by
  refine wc_ext (by simp [wc_size]) (wc_size ..) ?_ ?_ fun i hi => ?_
  · rw [Array.getElem?_setIfInBounds_ne (by omega), wc_p, wc_p]
  · rw [Array.getElem?_setIfInBounds_ne (by omega), wc_c, wc_c]
  · rw [wc_o _ _ _ hi]
    by_cases h : i = k
    · subst h
      rw [Array.getElem?_setIfInBounds_self_of_lt (by rw [wc_size]; omega), if_pos rfl]
    · rw [Array.getElem?_setIfInBounds_ne (by omega), wc_o _ _ _ hi, if_neg h]
theorem wc_set_c {p : Option Addr} {f : Nat → Nat} {c d : Nat} : (wc p f c).setIfInBounds 257 (Nv .i64 d) = wc p f d := by
  refine wc_ext (by simp [wc_size]) (wc_size ..) ?_ ?_ fun i hi => ?_
  · rw [Array.getElem?_setIfInBounds_ne (by omega), wc_p, wc_p]
  · rw [Array.getElem?_setIfInBounds_self_of_lt (by rw [wc_size]; omega), wc_c]
  · rw [Array.getElem?_setIfInBounds_ne (by omega), wc_o _ _ _ hi, wc_o _ _ _ hi]
theorem wc_set_p {p q : Option Addr} {f : Nat → Nat} {c : Nat} : (wc p f c).setIfInBounds 0 (.pointer q) = wc q f c := by
  refine wc_ext (by simp [wc_size]) (wc_size ..) ?_ ?_ fun i hi => ?_
  · rw [Array.getElem?_setIfInBounds_self_of_lt (by rw [wc_size]; omega), wc_p]
  · rw [Array.getElem?_setIfInBounds_ne (by omega), wc_c, wc_c]
  · rw [Array.getElem?_setIfInBounds_ne (by omega), wc_o _ _ _ hi, wc_o _ _ _ hi]
theorem wc_set_open {p : Option Addr} {f g : Nat → Nat} {c : Nat} : setL (wc p f c) 1 (vals .u8 256 g).toList = wc p g c := by
  have hl : (vals .u8 256 g).toList.length = 256 := by rw [Array.length_toList, vals_size]
  have hs : 1 + (vals .u8 256 g).toList.length ≤ (wc p f c).size := by rw [hl, wc_size]; omega
  refine wc_ext (by rw [setL_size, wc_size]) (wc_size ..) ?_ ?_ fun i hi => ?_
  · rw [setL_get _ _ _ _ hs, if_neg (by omega), wc_p, wc_p]
  · rw [setL_get _ _ _ _ hs, if_neg (by rw [hl]; omega), wc_c, wc_c]
  · rw [setL_get _ _ _ _ hs, if_pos (by rw [hl]; omega), Array.getElem?_toList, show 1 + i - 1 = i by omega, vals_get _ _ _ _ hi, wc_o _ _ _ hi]
theorem wc_part (p : Option Addr) (f : Nat → Nat) (c : Nat) : Part (wc p f c) 1 47 (vals .u8 256 f) := part_vals (by kernel_rfl) (by rw [wc_size]; omega) fun _ hi => wc_o _ _ _ hi
theorem wc_zero : Try.prog.built 49 [] = some (wc none (fun _ => 0) 0) := by kernel_rfl
/-- The cells of a piece. -/
def pc (p : Option Addr) (f : Nat → Nat) : Array Value := #[Value.pointer p] ++ vals .u8 256 f
theorem pc_size (p : Option Addr) (f : Nat → Nat) : (pc p f).size = 257 := by simp [pc, vals_size]
theorem pc_p (p : Option Addr) (f : Nat → Nat) : (pc p f)[0]? = some (.pointer p) := by
  rw [pc, Array.getElem?_append_left (by simp)]; rfl
theorem pc_o (p : Option Addr) (f : Nat → Nat) {k : Nat} (h : k < 256) : (pc p f)[1 + k]? = some (.int .u8 ((f k : Nat) : Int)) := by
  rw [pc, Array.getElem?_append_right (by simp), ← vals_get .u8 256 f k h]
  simp
theorem pc_fit (p : Option Addr) (f : Nat → Nat) : Fit 90 (pc p f) := ⟨fun _ => by rw [pc_size]; kernel_rfl, by
  rw [pc, Array.all_append, vals_one, Bool.and_true]; simp; rfl⟩
theorem pc_built (p : Option Addr) (f : Nat → Nat) : Try.prog.built 90 [(0, .pointer p), (1, .agg (vals .u8 256 f))] = some (pc p f) := by kernel_rfl
theorem ar_built : Try.prog.built 47 [] = some (vals .u8 256 (fun _ => 0)) := by kernel_rfl
/-- The bytes of the open piece. -/
def op (X c : Nat) (k : Nat) : Nat := byt X (256 * (c / 2048) + k)
theorem op_zero {X c : Nat} (hX : X < 2 ^ c) (h : c % 2048 = 0) (k : Nat) : op X c k = 0 := M.byt_hi hX (by omega)
theorem op_same {X c d : Nat} (h : c / 2048 = d / 2048) : op X c = op X d := by unfold op; rw [h]
/-- The full pieces among these rows. -/
def Chn (B : List Row) (X : Nat) : Nat → Option Addr → Prop
  | 0, p => p = none
  | q + 1, p => ∃ b p', p = some ⟨b, 0, none⟩ ∧ (b, pc p' (fun k => byt X (256 * q + k)), 90) ∈ B ∧ Chn B X q p'
theorem Chn.mono {B B' : List Row} {X : Nat} (hB : ∀ r, r ∈ B → r ∈ B') : ∀ {q : Nat} {p : Option Addr}, Chn B X q p → Chn B' X q p
  | 0, _, h => h
  | _ + 1, _, ⟨b, p', e, hm, h⟩ => ⟨b, p', e, hB _ hm, h.mono hB⟩
theorem Chn.congr {B : List Row} {X Y : Nat} : ∀ {q : Nat} {p : Option Addr}, (∀ i, i < 256 * q → byt X i = byt Y i) → Chn B X q p → Chn B Y q p
  | 0, _, _, h => h
  | q + 1, p, hXY, ⟨b, p', e, hm, h⟩ => ⟨b, p', e, by
      rwa [pc, vals_congr _ _ _ (fun k => byt Y (256 * q + k)) (fun j hj => hXY _ (by omega)), ← pc] at hm, h.congr fun i hi => hXY i (by omega)⟩
theorem Chn.put {B : List Row} {X b c : Nat} {p : Option Addr} (hX : X < 2 ^ c) (hb : b < 2) (h : Chn B X (c / 2048) p) : Chn B (X + b * 2 ^ c) (c / 2048) p := h.congr fun i hi => by
  rw [M.byt_put hX hb, if_neg (by omega)]
section
variable {ρ : Operand → Value} {o : Oper} {x y : Operand}
theorem b_ia {n off a : Nat} (ha : a < 256) (w : World) (ho : o.op = .indexAddr 47 x y := by rfl) (hx : ρ x = E n off := by kernel_rfl) (hy : ρ y = Nv .i64 a := by kernel_rfl) : (execOp ρ o).run Try.prog w = .ok (.value (E n (off + a))) w := by
  have h1 : (0 : Int) ≤ (a : Int) := by omega
  have h2 : (a : Int) < 256 := by omega
  have h3 := Addr.add_mid n off a
  unfold execOp
  simp only [ho, hx, hy]
  go_simp
end
theorem op_put {X b c : Nat} (hX : X < 2 ^ c) (hb : b < 2) (p : Option Addr) (d : Nat) : (wc p (op X c) d).setIfInBounds (1 + c % 2048 / 8) (.int .u8 ((byt (X + b * 2 ^ c) (c / 8) : Nat) : Int)) = wc p (op (X + b * 2 ^ c) c) d := by
  rw [wc_set_o (by omega)]
  refine wc_congr fun k hk => ?_
  unfold op
  have e := M.byt_put hX hb
  by_cases h : k = c % 2048 / 8
  · rw [if_pos h, show 256 * (c / 2048) + k = c / 8 by omega]
  · rw [if_neg h, e, if_neg (by omega)]
theorem op_or {X b c : Nat} (hX : X < 2 ^ c) (hb : b < 2) : op X c (c % 2048 / 8) ||| (b * 2 ^ (c % 2048 % 8)) = byt (X + b * 2 ^ c) (c / 8) := by
  unfold op
  rw [show 256 * (c / 2048) + c % 2048 / 8 = c / 8 by omega, show c % 2048 % 8 = c % 8 by omega, M.or_put (M.byt_open hX), M.byt_put hX hb, if_pos rfl]
theorem bit_sh {b s : Nat} (hb : b < 2) (hs : s < 8) : b * 2 ^ s < 256 := by
  have h5 : 2 ^ s ≤ 2 ^ 7 := Nat.pow_le_pow_right (by decide) (by omega)
  have := Nat.mul_le_mul (show b ≤ 1 by omega) h5
  omega
set_option maxHeartbeats 4000000 in
theorem put_c {X b c : Nat} {p : Option Addr} (hX : X < 2 ^ c) (hb : b < 2) (hc : c < 2 ^ 40) (N : Nat) (u : World) (T : List Row) (w : World) (hO : Own u w ((N, wc p (op X c) c, 49) :: T)) :
    Calls Try.prog 53 #[D N, Nv .u8 b] w fun e w' => e = .returned (.tuple #[]) ∧ ∃ p' C, Own u w' ((N, wc p' (op (X + b * 2 ^ c) (c + 1)) (c + 1), 49) :: (C ++ T)) ∧ ∀ B, Chn B X (c / 2048) p → Chn (C ++ B) (X + b * 2 ^ c) ((c + 1) / 2048) p' := by
  have hk : c % 2048 / 8 < 256 := by omega
  have Hor := hide (op_or hX hb)
  have Hset := hide (op_put hX hb p c)
  have hsh := bit_sh hb (show c % 2048 % 8 < 8 by omega)
  have hbl : op X c (c % 2048 / 8) < 256 := M.byt_lt _ _
  go_enter Try.func53, Try.ntmps53
  go_upto_region 0 with (fail)
  refine wp_region_list (WL.out ?_)
  refine g_val (D N) ?_
  refine g_val (D N) ?_
  refine g_val (E N 257) ?_
  refine g_lc hO 0 257 (Nv .i64 c) rfl (wc_c _ _ _) agg_int ?_
  refine g_val (Nv .i64 (c % 2048)) ?_ (B.rem_int (a := c) (c := 2048) (d := c % 2048) rfl (by omega) (by omega) w)
  refine g_val (Nv .i64 (c % 2048)) ?_
  refine g_nil ?_
  simp only [Act.put, List.setIfInBounds_toArray, List.set_cons_succ, List.set_cons_zero]
  go_upto_region 1 with (fail)
  refine Rg.pd [15] (fun _ => [(10, D N), (11, Nv .i64 (c % 2048)), (12, Nv .i64 ((c % 2048) / 8)), (13, D N), (14, E N 1), (15, E N (1 + c % 2048 / 8)), (16, Nv .u8 (op X c (c % 2048 / 8))), (17, Nv .u8 b), (18, Nv .i64 (c % 2048)), (19, Nv .i64 ((c % 2048) % 8)), (20, Nv .u8 (b * 2 ^ (c % 2048 % 8))), (21, Nv .u8 (byt (X + b * 2 ^ c) (c / 8))), (22, D N), (23, E N 1), (24, E N (1 + c % 2048 / 8))]) (OI u (fun s ν => [((N, wc p (op X c) c, 49) :: T), ((N, wc p (op (X + b * 2 ^ c) c) c, 49) :: T)].getD s [])) (fun _ => 0) hO.drew (Rg.ac nv (Rg.ac nv (Rg.ac (nx (fun _ => Nv .i64 ((c % 2048) / 8)) (fun _ w => B.quo_int (a := c % 2048) (c := 8) (d := (c % 2048) / 8) rfl (by omega) (by omega) w)) (Rg.ac nv (Rg.ac nv (Rg.ac (nx (fun _ => E N (1 + c % 2048 / 8)) (fun _ w => b_ia hk w)) (Rg.ac (nc 0 0 0 (fun _ => 1 + c % 2048 / 8) (fun _ => Nv .u8 (op X c (c % 2048 / 8))) B.agg_u8 (fun _ => wc_o _ _ _ hk) (at1 0 fun _ => by kernel_rfl)) (Rg.ac nv (Rg.ac nv (Rg.ac (nx (fun _ => Nv .i64 ((c % 2048) % 8)) (fun _ w => B.rem_int (a := c % 2048) (c := 8) (d := (c % 2048) % 8) rfl (by omega) (by omega) w)) (Rg.ac (nx (fun _ => Nv .u8 (b * 2 ^ (c % 2048 % 8))) (fun _ w => B.shl_u8_int (a := b) (s := (c % 2048) % 8) (d := b * 2 ^ (c % 2048 % 8)) (Nat.mod_eq_of_lt hsh) (by omega) w)) (Rg.ac (nx (fun _ => Nv .u8 (byt (X + b * 2 ^ c) (c / 8))) (fun _ w => B.or_u8 (a := op X c (c % 2048 / 8)) (c := b * 2 ^ (c % 2048 % 8)) (d := byt (X + b * 2 ^ c) (c / 8)) Hor.out hbl hsh w)) (Rg.ac nv (Rg.ac nv (Rg.ac (nx (fun _ => E N (1 + c % 2048 / 8)) (fun _ w => b_ia hk w)) (Rg.ac (sl 0 0 (fun _ => 1 + c % 2048 / 8) (fun _ => Nv .u8 (op X c (c % 2048 / 8))) (fun _ => ((byt (X + b * 2 ^ c) (c / 8) : Nat) : Int)) B.sz_u8 (fun _ => wc_o _ _ _ hk) (fun _ => Hset.out) (fun _ => wc_fit _ _ _)) Rg.an)))))))))))))))) ?_
  intro ν w1 hO
  replace hO : Own u w1 ((N, wc p (op (X + b * 2 ^ c) c) c, 49) :: T) := hO
  simp only [Rg.putL, Act.put, List.setIfInBounds_toArray, List.set_cons_succ, List.set_cons_zero]
  clear ν
  go_upto_region 2 with (fail)
  refine wp_region_list (WL.out ?_)
  refine g_val (D N) ?_
  refine g_val (D N) ?_
  refine g_val (E N 257) ?_
  refine g_lc hO 0 257 (Nv .i64 c) rfl (wc_c _ _ _) agg_int ?_
  refine g_val (Nv .i64 (c + 1)) ?_ (B.add_int (a := c) (c := 1) (d := c + 1) rfl (by omega) w1)
  refine g_val (D N) ?_
  refine g_val (E N 257) ?_
  refine g_sc hO 0 257 (Nv .i64 (c + 1)) (Nv .i64 c) rfl (wc_c _ _ _) (fun hc hf => st_int 3 sz_int rfl (by kernel_rfl) (by kernel_rfl) hc hf) (wc_set_c) (wc_fit _ _ _) ?_
  intro w2 hO
  replace hO : Own u w2 ((N, wc p (op (X + b * 2 ^ c) c) (c + 1), 49) :: T) := hO
  refine g_nil ?_
  simp only [Act.put, List.setIfInBounds_toArray, List.set_cons_succ, List.set_cons_zero]
  have hX' := M.put_lt hX (show b < 2 ^ 1 from hb)
  by_cases hz : (c + 1) % 2048 = 0
  · have hq : (c + 1) / 2048 = c / 2048 + 1 := by omega
    go_upto_region 3 with (fail)
    refine wp_region_list (WL.out ?_)
    refine g_val (D N) ?_
    refine g_val (D N) ?_
    refine g_val (E N 257) ?_
    refine g_lc hO 0 257 (Nv .i64 (c + 1)) rfl (wc_c _ _ _) agg_int ?_
    refine g_val (Nv .i64 ((c + 1) % 2048)) ?_ (B.rem_int (a := c + 1) (c := 2048) (d := (c + 1) % 2048) rfl (by omega) (by omega) w2)
    refine g_val (.bool true) ?_ (B.eql_int (a := (c + 1) % 2048) (c := 0) (b := true) (decide_eq_true hz) w2)
    refine g_nil ?_
    simp only [Act.put, List.setIfInBounds_toArray, List.set_cons_succ, List.set_cons_zero]
    go_upto_region 4 with (fail)
    refine Rg.pd [10, 13] (fun ν => [(38, D N), (39, D N), (40, D N), (41, D N), (42, .pointer p), (43, D N), (44, D N), (45, E N 1), (46, A (vals .u8 256 (op (X + b * 2 ^ c) c))), (47, A (pc p (op (X + b * 2 ^ c) c))), (48, D (ν 10)), (49, D N), (50, D N)]) (OI u (fun s ν => [((N, wc p (op (X + b * 2 ^ c) c) (c + 1), 49) :: T), ((N, wc p (op (X + b * 2 ^ c) c) (c + 1), 49) :: (T ++ [((ν 10), pc p (op (X + b * 2 ^ c) c), 90)])), ((N, wc (some ⟨ν 10, 0, none⟩) (op (X + b * 2 ^ c) c) (c + 1), 49) :: (T ++ [((ν 10), pc p (op (X + b * 2 ^ c) c), 90)]))].getD s [])) (fun _ => 0) hO.drew (Rg.ac nv (Rg.ac nv (Rg.ac nv (Rg.ac nv (Rg.ac (nc 0 1 0 (fun _ => 0) (fun _ => .pointer p) B.agg_pp (fun _ => wc_p _ _ _) (at2 0 1 (fun _ => by kernel_rfl) (at1 1 fun _ => by kernel_rfl))) (Rg.ac nv (Rg.ac nv (Rg.ac nv (Rg.ac (npt 0 1 0 1 (fun _ => vals .u8 256 (op (X + b * 2 ^ c) c)) (fun _ => wc_part _ _ _) (at2 0 1 (fun _ => by kernel_rfl) (at1 1 fun _ => by kernel_rfl)) Try.underlying47) (Rg.ac (nx (fun _ => A (pc p (op (X + b * 2 ^ c) c))) (fun _ w => run_bd 90 _ rfl [(0, .pointer p), (1, A (vals .u8 256 (op (X + b * 2 ^ c) c)))] (by kernel_rfl) _ (pc_built _ _) w)) (Rg.ac (sn 0 (fun _ => pc p (op (X + b * 2 ^ c) c)) 90 (fun _ w => run_box 90 _ rfl _ (by kernel_rfl) w) (fun _ => pc_fit _ _)) (Rg.ac nv (Rg.ac nv (Rg.ac (slv 1 0 (fun _ => 0) (fun _ => .pointer p) (fun ν => D (ν 10)) (fun ν w hc hf => st_ptr 46 sz_pp rfl (by kernel_rfl) (by kernel_rfl) hc hf) (fun _ => wc_p _ _ _) (fun _ => wc_set_p) (fun _ => wc_fit _ _ _)) Rg.an)))))))))))))) ?_
    intro ν w3 hO
    replace hO : Own u w3 ((N, wc (some ⟨ν 10, 0, none⟩) (op (X + b * 2 ^ c) c) (c + 1), 49) :: (T ++ [((ν 10), pc p (op (X + b * 2 ^ c) c), 90)])) := hO
    simp only [Rg.putL, Act.put, List.setIfInBounds_toArray, List.set_cons_succ, List.set_cons_zero]
    generalize ν 10 = n48 at hO ⊢
    clear ν
    go_upto_region 5 with (fail)
    refine wp_region_list (WL.out ?_)
    refine g_val (D N) ?_
    refine g_val (A (vals .u8 256 (fun _ => 0))) ?_ (run_bd 47 _ rfl [] (by kernel_rfl) _ ar_built w3)
    refine g_val (D N) ?_
    refine g_val (E N 1) ?_
    refine g_sm (e := vals .u8 256 (fun _ => 0)) hO 0 rfl (by rw [vals_size, wc_size]; omega) (by rw [vals_size]; kernel_rfl) (vals_one _ _ _) wc_set_open (wc_fit _ _ _) ?_
    intro w4 hO
    replace hO : Own u w4 ((N, wc (some ⟨n48, 0, none⟩) (fun _ => 0) (c + 1), 49) :: (T ++ [(n48, pc p (op (X + b * 2 ^ c) c), 90)])) := hO
    refine g_nil ?_
    simp only [Act.put, List.setIfInBounds_toArray, List.set_cons_succ, List.set_cons_zero]
    have hF : Own u w4 ((N, wc (some ⟨n48, 0, none⟩) (op (X + b * 2 ^ c) (c + 1)) (c + 1), 49) :: ([(n48, pc p (op (X + b * 2 ^ c) c), 90)] ++ T)) := by
      rw [wc_congr (g := fun _ => 0) fun k _ => op_zero hX' hz k]
      exact hO.perm (List.Perm.cons _ List.perm_append_comm)
    clear hO
    go_wp2_with (fail)
    go_end0
    exact ⟨rfl, _, _, hF, fun B hB => hq ▸ ⟨n48, p, rfl, List.mem_append_left _ List.mem_cons_self, (hB.put hX hb).mono fun r hr => List.mem_append_right _ hr⟩⟩
  · have hq : (c + 1) / 2048 = c / 2048 := by omega
    go_upto_region 3 with (fail)
    refine wp_region_list (WL.out ?_)
    refine g_val (D N) ?_
    refine g_val (D N) ?_
    refine g_val (E N 257) ?_
    refine g_lc hO 0 257 (Nv .i64 (c + 1)) rfl (wc_c _ _ _) agg_int ?_
    refine g_val (Nv .i64 ((c + 1) % 2048)) ?_ (B.rem_int (a := c + 1) (c := 2048) (d := (c + 1) % 2048) rfl (by omega) (by omega) w2)
    refine g_val (.bool false) ?_ (B.eql_int (a := (c + 1) % 2048) (c := 0) (b := false) (decide_eq_false hz) w2)
    refine g_nil ?_
    simp only [Act.put, List.setIfInBounds_toArray, List.set_cons_succ, List.set_cons_zero]
    rw [op_same hq.symm] at hO
    go_wp2_with (fail)
    go_end0
    exact ⟨rfl, _, [], hO, fun B hB => hq ▸ hB.put hX hb⟩
end W
end Go.Proofs.Ytkljpidlfddgbaa
