/- The reference of stage 13: Take. At most 2^30 bits; no other condition. -/
import Derived.Test.YtkljpidlfddgbaaRc
namespace Go.Proofs.Ytkljpidlfddgbaa
set_option maxRecDepth 100000
open Go.RowKit Rg B


open R
namespace H
/-- The first k bits from t on, the highest first. -/
def hv (Y t : Nat) : Nat → Nat
  | 0 => 0
  | k + 1 => 2 * hv Y t k + Y / 2 ^ (t + k) % 2
theorem hv_lt (Y t : Nat) : ∀ k, hv Y t k < 2 ^ k
  | 0 => Nat.zero_lt_one
  | k + 1 => by
    have := hv_lt Y t k
    have h2 : Y / 2 ^ (t + k) % 2 < 2 := Nat.mod_lt _ (by decide)
    rw [hv, Nat.pow_succ]
    omega
/-- The least one below n, if any. -/
def fd (p : Nat → Bool) : Nat → Option Nat
  | 0 => none
  | n + 1 => match fd p n with
    | some i => some i
    | none => if p n = true then some n else none
theorem fd_none {p : Nat → Bool} : ∀ {n : Nat}, (∀ j, j < n → p j = false) → fd p n = none
  | 0, _ => rfl
  | n + 1, h => by
    rw [fd, fd_none fun j hj => h j (by omega)]
    show (if p n = true then some n else none) = none
    rw [h n (by omega)]; rfl
theorem fd_some {p : Nat → Bool} {i : Nat} : ∀ {n : Nat}, i < n → p i = true → (∀ j, j < i → p j = false) → fd p n = some i
  | 0, h, _, _ => absurd h (Nat.not_lt_zero i)
  | n + 1, h, hp, hj => by
    rw [fd]
    by_cases hi : i = n
    · subst hi
      rw [fd_none hj]
      show (if p i = true then some i else none) = some i
      rw [if_pos hp]
    · rw [fd_some (by omega) hp hj]
/-- A symbol whose word has length m and is v. -/
def pW (l : Nat → Nat) (n m v i : Nat) : Bool := decide (l i = m) && decide (wd l n i = v)
/-- What Take answers, k bits being taken: the symbol, the error, how many bits are taken. -/
def tko (l : Nat → Nat) (n m Y t : Nat) : Nat → Nat → Nat × Nat × Nat
  | 0, k => (0, 130, k)
  | f + 1, k => if m < t + k + 1 then (0, 120, k) else match fd (pW l n (k + 1) (hv Y t (k + 1))) n with
    | some i => (i, 0, k + 1)
    | none => if k = 0 ∧ room l n = 16384 then (0, 130, 1) else tko l n m Y t f (k + 1)
section
variable {l : Nat → Nat} {n m Y t f k i : Nat}
theorem tko_short (h : m < t + k + 1) : tko l n m Y t (f + 1) k = (0, 120, k) := by rw [tko, if_pos h]
theorem tko_found (h : ¬ m < t + k + 1) (hf : fd (pW l n (k + 1) (hv Y t (k + 1))) n = some i) : tko l n m Y t (f + 1) k = (i, 0, k + 1) := by rw [tko, if_neg h, hf]
theorem tko_one (h : ¬ m < t + k + 1) (hf : fd (pW l n (k + 1) (hv Y t (k + 1))) n = none) (h1 : k = 0 ∧ room l n = 16384) : tko l n m Y t (f + 1) k = (0, 130, 1) := by
  rw [tko, if_neg h, hf]
  show (if k = 0 ∧ room l n = 16384 then _ else _) = _
  rw [if_pos h1]
theorem tko_next (h : ¬ m < t + k + 1) (hf : fd (pW l n (k + 1) (hv Y t (k + 1))) n = none) (h1 : ¬ (k = 0 ∧ room l n = 16384)) : tko l n m Y t (f + 1) k = tko l n m Y t f (k + 1) := by
  rw [tko, if_neg h, hf]
  show (if k = 0 ∧ room l n = 16384 then _ else _) = _
  rw [if_neg h1]
end
theorem RTake_p {X n t bits : Nat} (hb : bits ≤ 32) (hn : n ≤ 2 ^ 40) (ht : t + bits ≤ n) (N : Nat) (u : World) (M' : List Row) (w : World) (hG : RefS u w M' N X n t) : RetP 43 #[D N, Nv .i64 bits] w fun x w' => x = .tuple #[Nv .u64 (M.tk X t bits), Nv .i64 0] ∧ RefS u w' M' N X n (t + bits) :=
  (RTake_c hb hn ht N u M' w hG).mono fun _ _ h => ⟨_, h.1, rfl, h.2⟩
set_option maxHeartbeats 8000000 in
theorem HTake_c {S Q : Option Addr} {n c d m Y t : Nat} {z : Nat → Int} (hok : okW z n) (hm : m ≤ 2 ^ 30) (ht : t ≤ m) (N : Nat) (u : World) (M' : List Row) (w : World) (hS : Rc u S n (zi z)) (hQ : Rc u Q n (nw (wd (ln z) n))) (hG : RefS u w M' N Y m t) (r : Nat × Nat × Nat) (hr : r = tko (ln z) n m Y t 15 0) :
    RetP 30 #[D N, .slice S n c, .slice Q n d] w fun x w' => x = .tuple #[Nv .i64 r.1, Nv .i64 r.2.1] ∧ RefS u w' M' N Y m (t + r.2.2) := by
  obtain ⟨l, hl⟩ : ∃ l, l = ln z := ⟨_, rfl⟩
  rw [← hl] at hr hQ
  have hl15 : ∀ i, l i ≤ 15 := fun i => by rw [hl]; exact ln_le z i
  have hSl : Rc u S n (ni l) := hS.congr fun i hi => by unfold zi ni; rw [hl, ln_eq (hok.2.1 i hi)]
  have hn := hok.1
  have HG := hide hG
  have Hr := hide hr
  clear hG hr hS hl hok
  go_enter Try.func30, Try.ntmps30
  go_upto_region 0 with (fail)
  refine wp_region_list (WL.out ?_)
  refine g_val (Nv .i64 0) ?_
  refine g_val (Nv .i64 0) ?_
  refine g_nil ?_
  simp only [Act.put, List.setIfInBounds_toArray, List.set_cons_succ, List.set_cons_zero]
  go_upto_region 1 with (fail)
  refine wp_region_list (WL.out ?_)
  refine g_val (Nv .u32 0) ?_
  refine g_nil ?_
  simp only [Act.put, List.setIfInBounds_toArray, List.set_cons_succ, List.set_cons_zero]
  go_upto_region 2 with (fail)
  refine wp_region_list (WL.out ?_)
  refine g_val (Nv .i64 1) ?_
  refine g_nil ?_
  simp only [Act.put, List.setIfInBounds_toArray, List.set_cons_succ, List.set_cons_zero]
  go_wp2_with (fail)
  go_loopw [8, 9] (fun x8 x9 wr => ∃ (k b s : Nat), k ≤ 15 ∧ b = k + 1 ∧ s = t + k ∧ s ≤ m ∧ x8 = Nv .u32 (hv Y t k) ∧ x9 = .int .i64 (b : Int) ∧ r = tko l n m Y t (15 - k) k ∧ RefS u wr M' N Y m s) (fun _ x9 _ => 16 - (intOf x9).toNat)
  case atStart => exact ⟨0, 1, t, Nat.zero_le _, rfl, rfl, ht, rfl, rfl, Hr.out, HG.out⟩
  case round =>
    clear HG Hr
    obtain ⟨k, b, s, hk15, hb, hs, hsm, rfl, rfl, hr, hG⟩ := hrel
    have HG := hide hG
    have Hr := hide hr
    have Hb := hide hb
    clear hG hr hb
    by_cases hz : k < 15
    · have hb15 : b ≤ 15 := by have := Hb.out; omega
      obtain ⟨f, hf⟩ : ∃ f, 15 - k = f + 1 := ⟨15 - k - 1, by omega⟩
      have Hr2 : Hid (r = tko l n m Y t (f + 1) k) := hide (by rw [← hf]; exact Hr.out)
      obtain ⟨v, hG⟩ := HG.out
      obtain ⟨S2, c2, rfl⟩ := gr_sl hG
      have hB := gr_blk hG (j := 0) rfl
      clear hG
      go_upto_region 3 with (fail)
      refine wp_region_list (WL.out ?_)
      refine g_val (Nv .i64 b) ?_
      refine g_val (.bool true) ?_ (B.leq_int (a := b) (c := 15) (b := true) (decide_eq_true hb15) wr)
      refine g_nil ?_
      simp only [Act.put, List.setIfInBounds_toArray, List.set_cons_succ, List.set_cons_zero]
      by_cases hsh : m < s + 1
      · have hsh2 : m < t + k + 1 := by omega
        go_upto_region 5 with (fail)
        refine wp_region_list (WL.out ?_)
        refine g_val (D N) ?_
        refine g_ret 43 #[D N, Nv .i64 1] (.tuple #[Nv .u64 0, Nv .i64 120]) (RTake_more (b := 1) (by decide) hsh (by omega) hsm N wr hB) ?_
        intro w1 hbb
        refine g_val (.tuple #[Nv .u64 0, Nv .i64 120]) ?_
        refine g_val (Nv .u64 0) ?_
        refine g_val (Nv .i64 120) ?_
        refine g_val (Nv .u64 0) ?_
        refine g_val (Nv .i64 120) ?_
        refine g_nil ?_
        simp only [Act.put, List.setIfInBounds_toArray, List.set_cons_succ, List.set_cons_zero]
        replace HG := hide (HG.out.call hbb)
        clear hbb hB
        go_upto_region 6 with (fail)
        refine wp_region_list (WL.out ?_)
        refine g_val (Nv .i64 120) ?_
        refine g_val (.bool true) ?_ (B.neq_errno (a := 120) (c := 0) (b := true) (rfl) w1)
        refine g_nil ?_
        simp only [Act.put, List.setIfInBounds_toArray, List.set_cons_succ, List.set_cons_zero]
        go_upto_region 7 with (fail)
        refine wp_region_list (WL.out ?_)
        refine g_val (Nv .i64 120) ?_
        refine g_val (Nv .i64 0) ?_
        refine g_val (Nv .i64 120) ?_
        refine g_nil ?_
        simp only [Act.put, List.setIfInBounds_toArray, List.set_cons_succ, List.set_cons_zero]
        go_wp2_with (fail)
        go_ret2
        exact ⟨_, rfl, (by rw [Hr2.out, tko_short hsh2]; all_goals rfl), by rw [Hr2.out, tko_short hsh2]; exact (hs ▸ HG.out)⟩
      · have hsh2 : ¬ m < t + k + 1 := by omega
        go_upto_region 5 with (fail)
        refine wp_region_list (WL.out ?_)
        refine g_val (D N) ?_
        refine g_any 43 #[D N, Nv .i64 1] (RTake_p (bits := 1) (by decide) (by omega) (by omega) N u M' wr HG.out) ?_
        rintro _ w1 ⟨rfl, hG2⟩
        refine g_val (.tuple #[Nv .u64 (M.tk Y s 1), Nv .i64 0]) ?_
        refine g_val (Nv .u64 (M.tk Y s 1)) ?_
        refine g_val (Nv .i64 0) ?_
        refine g_val (Nv .u64 (M.tk Y s 1)) ?_
        refine g_val (Nv .i64 0) ?_
        refine g_nil ?_
        simp only [Act.put, List.setIfInBounds_toArray, List.set_cons_succ, List.set_cons_zero]
        clear HG hB
        have HG := hide hG2
        clear hG2
        have hbit : Y / 2 ^ s % 2 < 2 := Nat.mod_lt _ (by decide)
        have hvk := hv_lt Y t k
        have h2k : 2 ^ k ≤ 2 ^ 14 := Nat.pow_le_pow_right (by decide) (by omega)
        rw [M.tk_one]
        go_upto_region 6 with (fail)
        refine wp_region_list (WL.out ?_)
        refine g_val (Nv .i64 0) ?_
        refine g_val (.bool false) ?_ (B.neq_errno (a := 0) (c := 0) (b := false) (rfl) w1)
        refine g_nil ?_
        simp only [Act.put, List.setIfInBounds_toArray, List.set_cons_succ, List.set_cons_zero]
        go_upto_region 8 with (fail)
        refine wp_region_list (WL.out ?_)
        refine g_val (Nv .u32 (hv Y t k)) ?_
        refine g_val (Nv .u32 (2 * hv Y t k)) ?_ (B.mul_u32 (a := 2) (c := hv Y t k) (d := 2 * hv Y t k) rfl (by omega) w1)
        refine g_val (Nv .u64 (Y / 2 ^ s % 2)) ?_
        refine g_val (Nv .u32 (Y / 2 ^ s % 2)) ?_ (B.c_u64_u32 (a := Y / 2 ^ s % 2) (d := Y / 2 ^ s % 2) rfl (by omega) w1)
        refine g_val (Nv .u32 (hv Y t (k + 1))) ?_ (B.add_u32 (a := 2 * hv Y t k) (c := Y / 2 ^ s % 2) (d := hv Y t (k + 1)) (by rw [hv, hs]) (by rw [hv, ← hs]; omega) w1)
        refine g_val (Nv .u32 (hv Y t (k + 1))) ?_
        refine g_nil ?_
        simp only [Act.put, List.setIfInBounds_toArray, List.set_cons_succ, List.set_cons_zero]
        obtain ⟨wv, hwv⟩ : ∃ wv, Hid (hv Y t (k + 1) = wv) := ⟨_, hide rfl⟩
        rw [hwv.out]
        go_upto_region 9 with (fail)
        refine wp_region_list (WL.out ?_)
        refine g_val (Nv .i64 0) ?_
        refine g_nil ?_
        simp only [Act.put, List.setIfInBounds_toArray, List.set_cons_succ, List.set_cons_zero]
        have hlow := RefS_low HG.out
        have hO := Own.start w1
        have HO := hide hO
        clear hO
        go_wp2_with (fail)
        go_loopw [12] (fun x12 wr => ∃ i : Nat, i ≤ n ∧ x12 = .int .i64 (i : Int) ∧ (∀ j, j < i → pW l n b wv j = false) ∧ Own w1 wr []) (fun x12 _ => n - (intOf x12).toNat)
        case atStart => exact ⟨0, Nat.zero_le _, rfl, (fun j hj => absurd hj (Nat.not_lt_zero j)), HO.out⟩
        case round =>
          clear HO
          obtain ⟨i, hk9, rfl, hcnd, hO⟩ := hrel
          by_cases hzz : i < n
          · have hk0 : 0 ≤ i := Nat.zero_le _
            go_upto_region 10 with (fail)
            refine wp_region_list (WL.out ?_)
            refine g_val (Nv .i64 i) ?_
            refine g_val (.slice S n c) ?_
            refine g_val (Nv .i64 n) ?_
            refine g_val (.bool true) ?_ (B.lss_int (a := i) (c := n) (b := true) (decide_eq_true hzz) wr)
            refine g_nil ?_
            simp only [Act.put, List.setIfInBounds_toArray, List.set_cons_succ, List.set_cons_zero]
            obtain ⟨a, rfl, hc⟩ := hSl.cell hzz
            obtain ⟨e, rfl, hd⟩ := hQ.cell hzz
            have hlow2 := hlow.trans (hO.low.mono hlow.size)
            by_cases hli : l i = b
            · by_cases hwi : wd l n i = wv
              · have hfd : fd (pW l n (k + 1) (hv Y t (k + 1))) n = some i := fd_some hzz (by unfold pW; rw [hwv.out, ← Hb.out, decide_eq_true hli, decide_eq_true hwi]; rfl) (by rw [hwv.out, ← Hb.out]; exact hcnd)
                go_upto_region 12 with (fail)
                refine wp_region_list (WL.out ?_)
                refine g_val (.slice (some a) n c) ?_
                refine g_val (Nv .i64 i) ?_
                refine g_val (.pointer (some (a.add i))) ?_ (b_ixs (n := n) (c := c) hzz Try.underlying25 sz_int wr)
                refine g_la (Nv .i64 (l i)) (hc _ hlow2) agg_int ?_
                refine g_val (Nv .i64 b) ?_
                refine g_val (.bool true) ?_ (B.eql_int (a := l i) (c := b) (b := true) (decide_eq_true hli) wr)
                refine g_val (.bool true) ?_
                refine g_val (.slice (some e) n d) ?_
                refine g_val (Nv .i64 i) ?_
                refine g_val (.pointer (some (e.add i))) ?_ (b_ixs (n := n) (c := d) hzz Try.underlying23 sz_u32 wr)
                refine g_la (Nv .u32 (wd l n i)) (hd _ hlow2) agg_u32 ?_
                refine g_val (Nv .u32 wv) ?_
                refine g_val (.bool true) ?_ (B.eql_u32 (a := wd l n i) (c := wv) (b := true) (decide_eq_true hwi) wr)
                refine g_val (.bool true) ?_
                refine g_nil ?_
                simp only [Act.put, List.setIfInBounds_toArray, List.set_cons_succ, List.set_cons_zero]
                go_upto_region 13 with (fail)
                refine wp_region_list (WL.out ?_)
                refine g_val (Nv .i64 i) ?_
                refine g_val (Nv .i64 i) ?_
                refine g_val (Nv .i64 0) ?_
                refine g_nil ?_
                simp only [Act.put, List.setIfInBounds_toArray, List.set_cons_succ, List.set_cons_zero]
                replace HG := hide (HG.out.call hO.low)
                clear hO
                have hs1 : s + 1 = t + (k + 1) := by omega
                rw [hs1] at HG
                go_wp2_with (fail)
                go_ret2
                exact ⟨_, rfl, (by rw [Hr2.out, tko_found hsh2 hfd]; all_goals rfl), by rw [Hr2.out, tko_found hsh2 hfd]; exact HG.out⟩
              · have hpi : pW l n b wv i = false := by unfold pW; rw [decide_eq_false hwi, Bool.and_false]
                go_upto_region 12 with (fail)
                refine wp_region_list (WL.out ?_)
                refine g_val (.slice (some a) n c) ?_
                refine g_val (Nv .i64 i) ?_
                refine g_val (.pointer (some (a.add i))) ?_ (b_ixs (n := n) (c := c) hzz Try.underlying25 sz_int wr)
                refine g_la (Nv .i64 (l i)) (hc _ hlow2) agg_int ?_
                refine g_val (Nv .i64 b) ?_
                refine g_val (.bool true) ?_ (B.eql_int (a := l i) (c := b) (b := true) (decide_eq_true hli) wr)
                refine g_val (.bool true) ?_
                refine g_val (.slice (some e) n d) ?_
                refine g_val (Nv .i64 i) ?_
                refine g_val (.pointer (some (e.add i))) ?_ (b_ixs (n := n) (c := d) hzz Try.underlying23 sz_u32 wr)
                refine g_la (Nv .u32 (wd l n i)) (hd _ hlow2) agg_u32 ?_
                refine g_val (Nv .u32 wv) ?_
                refine g_val (.bool false) ?_ (B.eql_u32 (a := wd l n i) (c := wv) (b := false) (decide_eq_false hwi) wr)
                refine g_val (.bool false) ?_
                refine g_nil ?_
                simp only [Act.put, List.setIfInBounds_toArray, List.set_cons_succ, List.set_cons_zero]
                have HO := hide hO
                clear hO
                go_upto_region 11 with (fail)
                refine wp_region_list (WL.out ?_)
                refine g_val (Nv .i64 i) ?_
                refine g_val (Nv .i64 (i + 1)) ?_ (B.add_int (a := i) (c := 1) (d := i + 1) rfl (by omega) wr)
                refine g_val (Nv .i64 (i + 1)) ?_
                refine g_nil ?_
                simp only [Act.put, List.setIfInBounds_toArray, List.set_cons_succ, List.set_cons_zero]
                go_wp2_with (fail)
                go_roundw
                case rel => exact ⟨i + 1, hzz, rfl, (fun j hj => by rcases Nat.lt_or_eq_of_le (Nat.le_of_lt_succ hj) with h | h; exact hcnd j h; subst h; exact hpi), HO.out⟩
                case measure => show n - ((i + 1 : Nat) : Int).toNat < n - ((i : Nat) : Int).toNat; omega
            · have hpi : pW l n b wv i = false := by unfold pW; rw [decide_eq_false hli, Bool.false_and]
              go_upto_region 12 with (fail)
              refine wp_region_list (WL.out ?_)
              refine g_val (.slice (some a) n c) ?_
              refine g_val (Nv .i64 i) ?_
              refine g_val (.pointer (some (a.add i))) ?_ (b_ixs (n := n) (c := c) hzz Try.underlying25 sz_int wr)
              refine g_la (Nv .i64 (l i)) (hc _ hlow2) agg_int ?_
              refine g_val (Nv .i64 b) ?_
              refine g_val (.bool false) ?_ (B.eql_int (a := l i) (c := b) (b := false) (decide_eq_false hli) wr)
              refine g_val (.bool false) ?_
              refine g_skip ?_
              refine g_skip ?_
              refine g_skip ?_
              refine g_skip ?_
              refine g_skip ?_
              refine g_skip ?_
              refine g_val (.bool false) ?_
              refine g_nil ?_
              simp only [Act.put, List.setIfInBounds_toArray, List.set_cons_succ, List.set_cons_zero]
              have HO := hide hO
              clear hO
              go_upto_region 11 with (fail)
              refine wp_region_list (WL.out ?_)
              refine g_val (Nv .i64 i) ?_
              refine g_val (Nv .i64 (i + 1)) ?_ (B.add_int (a := i) (c := 1) (d := i + 1) rfl (by omega) wr)
              refine g_val (Nv .i64 (i + 1)) ?_
              refine g_nil ?_
              simp only [Act.put, List.setIfInBounds_toArray, List.set_cons_succ, List.set_cons_zero]
              go_wp2_with (fail)
              go_roundw
              case rel => exact ⟨i + 1, hzz, rfl, (fun j hj => by rcases Nat.lt_or_eq_of_le (Nat.le_of_lt_succ hj) with h | h; exact hcnd j h; subst h; exact hpi), HO.out⟩
              case measure => show n - ((i + 1 : Nat) : Int).toNat < n - ((i : Nat) : Int).toNat; omega
          · obtain rfl : i = n := by omega
            clear hk9
            go_upto_region 10 with (fail)
            refine wp_region_list (WL.out ?_)
            refine g_val (Nv .i64 i) ?_
            refine g_val (.slice S i c) ?_
            refine g_val (Nv .i64 i) ?_
            refine g_val (.bool false) ?_ (B.lss_int (a := i) (c := i) (b := false) (decide_eq_false hzz) wr)
            refine g_nil ?_
            simp only [Act.put, List.setIfInBounds_toArray, List.set_cons_succ, List.set_cons_zero]
            have hfd : fd (pW l i (k + 1) (hv Y t (k + 1))) i = none := fd_none (by rw [hwv.out, ← Hb.out]; exact hcnd)
            have hlow3 := hlow.trans (hO.low.mono hlow.size)
            by_cases hk0 : k = 0 ∧ room l i = 16384
            · have hb1 : b = 1 := by have := Hb.out; omega
              go_upto_region 14 with (fail)
              refine wp_region_list (WL.out ?_)
              refine g_val (Nv .i64 b) ?_
              refine g_val (.bool true) ?_ (B.eql_int (a := b) (c := 1) (b := true) (decide_eq_true hb1) wr)
              refine g_val (.bool true) ?_
              refine g_val (.slice S i c) ?_
              refine g_call hO 16 #[.slice S i c] (Nv .i64 (room l i)) (Room_c (c := c) hl15 (by omega) wr (hSl.low hlow3)) ?_
              intro w2 hb55 hO
              refine g_val (.bool true) ?_ (B.eql_int (a := room l i) (c := 16384) (b := true) (decide_eq_true hk0.2) w2)
              refine g_val (.bool true) ?_
              refine g_nil ?_
              simp only [Act.put, List.setIfInBounds_toArray, List.set_cons_succ, List.set_cons_zero]
              go_upto_region 15 with (fail)
              refine wp_region_list (WL.out ?_)
              refine g_val (Nv .i64 0) ?_
              refine g_val (Nv .i64 130) ?_
              refine g_nil ?_
              simp only [Act.put, List.setIfInBounds_toArray, List.set_cons_succ, List.set_cons_zero]
              replace HG := hide (HG.out.call hO.low)
              clear hO
              have hs1 : s + 1 = t + 1 := by omega
              rw [hs1] at HG
              go_wp2_with (fail)
              go_ret2
              exact ⟨_, rfl, (by rw [Hr2.out, tko_one hsh2 hfd hk0]; all_goals rfl), by rw [Hr2.out, tko_one hsh2 hfd hk0]; exact HG.out⟩
            · have Hr3 := hide (Hr2.out.trans (tko_next hsh2 hfd hk0))
              by_cases hb1 : b = 1
              · have hrm : room l i ≠ 16384 := fun h => hk0 ⟨by have := Hb.out; omega, h⟩
                go_upto_region 14 with (fail)
                refine wp_region_list (WL.out ?_)
                refine g_val (Nv .i64 b) ?_
                refine g_val (.bool true) ?_ (B.eql_int (a := b) (c := 1) (b := true) (decide_eq_true hb1) wr)
                refine g_val (.bool true) ?_
                refine g_val (.slice S i c) ?_
                refine g_call hO 16 #[.slice S i c] (Nv .i64 (room l i)) (Room_c (c := c) hl15 (by omega) wr (hSl.low hlow3)) ?_
                intro w2 hb55 hO
                refine g_val (.bool false) ?_ (B.eql_int (a := room l i) (c := 16384) (b := false) (decide_eq_false hrm) w2)
                refine g_val (.bool false) ?_
                refine g_nil ?_
                simp only [Act.put, List.setIfInBounds_toArray, List.set_cons_succ, List.set_cons_zero]
                replace HG := hide (HG.out.call hO.low)
                clear hO
                go_upto_region 4 with (fail)
                refine wp_region_list (WL.out ?_)
                refine g_val (Nv .i64 b) ?_
                refine g_val (Nv .i64 (b + 1)) ?_ (B.add_int (a := b) (c := 1) (d := b + 1) rfl (by omega) w2)
                refine g_val (Nv .i64 (b + 1)) ?_
                refine g_nil ?_
                simp only [Act.put, List.setIfInBounds_toArray, List.set_cons_succ, List.set_cons_zero]
                go_wp2_with (fail)
                go_roundw
                case rel => exact ⟨k + 1, b + 1, s + 1, hz, by rw [Hb.out], by omega, by omega, by rw [hwv.out], rfl, by rw [show 15 - (k + 1) = f by omega]; exact Hr3.out, HG.out⟩
                case measure => show 16 - ((b + 1 : Nat) : Int).toNat < 16 - ((b : Nat) : Int).toNat; omega
              · have hb2 := hb1
                go_upto_region 14 with (fail)
                refine wp_region_list (WL.out ?_)
                refine g_val (Nv .i64 b) ?_
                refine g_val (.bool false) ?_ (B.eql_int (a := b) (c := 1) (b := false) (decide_eq_false hb1) wr)
                refine g_val (.bool false) ?_
                refine g_skip ?_
                refine g_skip ?_
                refine g_skip ?_
                refine g_val (.bool false) ?_
                refine g_nil ?_
                simp only [Act.put, List.setIfInBounds_toArray, List.set_cons_succ, List.set_cons_zero]
                replace HG := hide (HG.out.call hO.low)
                clear hO
                go_upto_region 4 with (fail)
                refine wp_region_list (WL.out ?_)
                refine g_val (Nv .i64 b) ?_
                refine g_val (Nv .i64 (b + 1)) ?_ (B.add_int (a := b) (c := 1) (d := b + 1) rfl (by omega) wr)
                refine g_val (Nv .i64 (b + 1)) ?_
                refine g_nil ?_
                simp only [Act.put, List.setIfInBounds_toArray, List.set_cons_succ, List.set_cons_zero]
                go_wp2_with (fail)
                go_roundw
                case rel => exact ⟨k + 1, b + 1, s + 1, hz, by rw [Hb.out], by omega, by omega, by rw [hwv.out], rfl, by rw [show 15 - (k + 1) = f by omega]; exact Hr3.out, HG.out⟩
                case measure => show 16 - ((b + 1 : Nat) : Int).toNat < 16 - ((b : Nat) : Int).toNat; omega
    · obtain rfl : k = 15 := by omega
      have hb16 : ¬ b ≤ 15 := by have := Hb.out; omega
      go_upto_region 3 with (fail)
      refine wp_region_list (WL.out ?_)
      refine g_val (Nv .i64 b) ?_
      refine g_val (.bool false) ?_ (B.leq_int (a := b) (c := 15) (b := false) (decide_eq_false hb16) wr)
      refine g_nil ?_
      simp only [Act.put, List.setIfInBounds_toArray, List.set_cons_succ, List.set_cons_zero]
      go_upto_region 16 with (fail)
      refine wp_region_list (WL.out ?_)
      refine g_val (Nv .i64 0) ?_
      refine g_val (Nv .i64 130) ?_
      refine g_nil ?_
      simp only [Act.put, List.setIfInBounds_toArray, List.set_cons_succ, List.set_cons_zero]
      have Hr2 := Hr
      subst hs
      go_wp2_with (fail)
      go_ret2
      exact ⟨_, rfl, (by rw [Hr2.out]; rfl), by rw [Hr2.out]; exact HG.out⟩
end H
end Go.Proofs.Ytkljpidlfddgbaa
