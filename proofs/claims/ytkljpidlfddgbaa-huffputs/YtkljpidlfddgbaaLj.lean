/- The walk of HuffPuts. No conditions but what the arguments' kinds tell. -/
import Derived.Test.YtkljpidlfddgbaaTa
import Derived.Test.YtkljpidlfddgbaaRd
import Derived.Test.YtkljpidlfddgbaaCf
import Derived.Test.YtkljpidlfddgbaaCh
import Derived.Test.YtkljpidlfddgbaaRn
namespace Go.Proofs.Ytkljpidlfddgbaa
set_option maxRecDepth 100000
open Go.RowKit Rg B

open W R
namespace W
theorem ChB.low {w w' : World} {X : Nat} (hb : Below w.heap.size w w') : ∀ {q : Nat} {p : Option Addr}, ChB w X q p → ChB w' X q p
  | 0, _, h => h
  | _ + 1, _, ⟨b, p', e, hB, h⟩ => ⟨b, p', e, hB.call hb, ChB.low hb h⟩
theorem gr_drew {u w : World} {L : List Row} {e : TypeId} {s n : Nat} {zv : Value} {f : Nat → Value} {v : Value} (h : Gr u w L e s zv n f v) : Gr u w.drew L e s zv n f v := by
  rcases h with ⟨h0, hv, hO⟩ | ⟨g, d, hv, hO⟩
  · exact .inl ⟨h0, hv, hO.drew⟩
  · exact .inr ⟨g, d, hv, hO.drew⟩
/-- A Writer with the c bits of X, and the reference's with the n bits of Y. -/
def PutsS (u w : World) (NW NR X c Y n : Nat) : Prop := X < 2 ^ c ∧ Y < 2 ^ n ∧ ∃ p C, Chn C X (c / 2048) p ∧ RefS u w ((NW, wc p (op X c) c, 49) :: C) NR Y n 0
section
variable {u w : World} {NW NR X c Y n : Nat}
theorem PutsS.low (h : PutsS u w NW NR X c Y n) : Below u.heap.size u w := by
  obtain ⟨_, _, p, C, _, v, hG⟩ := h
  exact hG.low
theorem PutsS.drew (h : PutsS u w NW NR X c Y n) : PutsS u w.drew NW NR X c Y n := by
  obtain ⟨h1, h2, p, C, hC, v, hG⟩ := h
  exact ⟨h1, h2, p, C, hC, v, gr_drew hG⟩
theorem PutsS.call {w' : World} (h : PutsS u w NW NR X c Y n) (hb : Below w.heap.size w w') : PutsS u w' NW NR X c Y n := by
  obtain ⟨h1, h2, p, C, hC, v, hG⟩ := h
  exact ⟨h1, h2, p, C, hC, v, hG.call hb⟩
theorem PutsS.blk (h : PutsS u w NW NR X c Y n) : ∃ p S cc, Blk w NW (wc p (op X c) c) 49 ∧ ChB w X (c / 2048) p ∧ Blk w NR (rb (.slice S n cc) 0) 53 ∧ Rc w S n (bt Y) := by
  obtain ⟨h1, h2, p, C, hC, v, hG⟩ := h
  obtain ⟨S, cc, rfl⟩ := gr_sl hG
  refine ⟨p, S, cc, gr_blk hG (j := 1) rfl, hC.blk fun r hr => ?_, gr_blk hG (j := 0) rfl, gr_rc hG⟩
  obtain ⟨i, hi⟩ := List.getElem?_of_mem hr
  exact gr_blk hG (j := i + 2) (b := r.1) (c := r.2.1) (t := r.2.2) hi
end
theorem bytes_zz {X c n : Nat} {p : Option Addr} (hn : n = (c + 7) / 8) (hc : c < 2 ^ 40) (N : Nat) (w : World) (hB : Blk w N (wc p (op X c) c) 49) (hC : ChB w X (c / 2048) p) : RetZ 24 #[D N] w (fun z => .slice (some ⟨z 0, 0, none⟩) n n) (fun z => [(z 0, vals .u8 n (byt X), 5)]) := by
  refine (Bytes_c hn hc N w hB hC).mono fun e w' hh => ?_
  obtain ⟨q, he, hO⟩ := hh
  exact ⟨fun _ => q, he, hO⟩
theorem rbytes_zz {X n m t c : Nat} {S : Option Addr} (hX : X < 2 ^ n) (hm : m = (n + 7) / 8) (hn : n ≤ 2 ^ 40) (N : Nat) (w : World) (hB : Blk w N (rb (.slice S n c) t) 53) (hS : Rc w S n (bt X)) : RetZ 25 #[D N] w (fun z => .slice (some ⟨z 0, 0, none⟩) m m) (fun z => [(z 0, vals .u8 m (byt X), 5)]) := by
  refine (RBytes_c hX hm hn N w hB hS).mono fun e w' hh => ?_
  obtain ⟨q, he, hO⟩ := hh
  exact ⟨fun _ => q, he, hO⟩
end W
namespace Q
open H Z W R
theorem hb_fit {X c wv m : Nat} (hX : X < 2 ^ c) : X + hb wv m m * 2 ^ c < 2 ^ (c + m) := by
  have h3 : hb wv m m + 1 ≤ 2 ^ m := hb_lt wv m m
  have h4 := Nat.mul_le_mul_right (2 ^ c) h3
  rw [Nat.add_mul, Nat.one_mul, Nat.mul_comm (2 ^ m)] at h4
  rw [Nat.pow_add]
  omega
section
variable {u w : World} {NW NR X c Y n m i K : Nat} {nl : Nat} {z : Nat → Int}
theorem PutsS.put_y (hok : okW z nl) (hi : i < nl) (hm : m = ln z i) (h1 : 1 ≤ m) (hc : c + 15 ≤ 2 ^ 28) (hC : Cde z nl u K) (h : PutsS u w NW NR X c Y n) :
    Calls Try.prog 22 #[D K, D NW, Nv .i64 i] w fun e w' => e = .returned (Nv .i64 0) ∧ PutsS u w' NW NR (X + hb (word (ln z) nl i) m m * 2 ^ c) (c + m) Y n := by
  have hlo := h.low
  obtain ⟨h1', h2, p, C, hC', y, hG⟩ := h
  have hp : ∀ (W0 R0 : Row) (C R : List Row), (R0 :: W0 :: (C ++ R)).Perm (W0 :: (C ++ (R0 :: R))) := fun W0 R0 C R => (List.Perm.swap _ _ _).trans (List.Perm.cons _ List.perm_middle.symm)
  rcases hG with ⟨h0, hv, hO⟩ | ⟨g, d, hv, hO⟩
  · have hW : WrS u w [(NR, rb y 0, 53)] NW X c := ⟨h1', p, C, hO.perm (by have := hp (NW, wc p (op X c) c, 49) (NR, rb y 0, 53) C []; rwa [List.append_nil] at this), hC'⟩
    refine (PPut_c hok hi hm h1 (by omega) NW u _ w (hC.call hlo) hW).mono fun e w' hh => ?_
    obtain ⟨v9, rfl, rfl, h1', p', C', hO', hC'⟩ := hh
    refine ⟨rfl, h1', h2, p', C', hC', y, .inl ⟨h0, hv, hO'.perm ?_⟩⟩
    have := (hp (NW, wc p' (op (X + hb (word (ln z) nl i) m m * 2 ^ c) (c + m)) (c + m), 49) (NR, rb y 0, 53) C' []).symm
    rwa [List.append_nil] at this
  · have hW : WrS u w [(NR, rb y 0, 53), (g, cl (zc 1 (.bool false)) ((n + d) * 1) (n * 1) (bt Y), 4)] NW X c := ⟨h1', p, C, hO.perm (hp _ _ C [(g, cl (zc 1 (.bool false)) ((n + d) * 1) (n * 1) (bt Y), 4)]), hC'⟩
    refine (PPut_c hok hi hm h1 (by omega) NW u _ w (hC.call hlo) hW).mono fun e w' hh => ?_
    obtain ⟨v9, rfl, rfl, h1', p', C', hO', hC'⟩ := hh
    exact ⟨rfl, h1', h2, p', C', hC', y, .inr ⟨g, d, hv, hO'.perm (hp _ _ C' [(g, cl (zc 1 (.bool false)) ((n + d) * 1) (n * 1) (bt Y), 4)]).symm⟩⟩
theorem PutsS.put_n {s : Int} (hok : okW z nl) (hs : ¬ okS z nl s) (hC : Cde z nl u K) (h : PutsS u w NW NR X c Y n) :
    Calls Try.prog 22 #[D K, D NW, .int .i64 s] w fun e w' => e = .returned (Nv .i64 1) ∧ PutsS u w' NW NR X c Y n :=
  (PPut_bad hok hs NW w (hC.call h.low)).mono fun _ _ hh => ⟨hh.1, h.call hh.2⟩
theorem PutsS.rput_y {S : Option Addr} {cc : Nat} (hok : okW z nl) (hi : i < nl) (hm : m = ln z i) (h1 : 1 ≤ m) (hn : n + 15 ≤ 2 ^ 28) (hS : Rc u S nl (zi z)) (h : PutsS u w NW NR X c Y n) :
    Calls Try.prog 23 #[D NR, .slice S nl cc, Nv .i64 i] w fun e w' => e = .returned (Nv .i64 0) ∧ PutsS u w' NW NR X c (Y + hb (word (ln z) nl i) m m * 2 ^ n) (n + m) := by
  obtain ⟨h1', h2, p, C, hC, hR⟩ := h
  refine (HPut_c (c := cc) hok hi hm h1 h2 (by omega) NR u _ w hS hR).mono fun e w' hh => ?_
  obtain ⟨v9, rfl, rfl, hR'⟩ := hh
  exact ⟨rfl, h1', hb_fit h2, p, C, hC, hR'⟩
theorem PutsS.rput_n {S : Option Addr} {cc : Nat} {s : Int} (hs : ¬ okS z nl s) (hnl : nl ≤ 2 ^ 30) (hS : Rc u S nl (zi z)) (h : PutsS u w NW NR X c Y n) :
    Calls Try.prog 23 #[D NR, .slice S nl cc, .int .i64 s] w fun e w' => e = .returned (Nv .i64 1) ∧ PutsS u w' NW NR X c Y n :=
  (HPut_bad (c := cc) hs hnl NR w (hS.low h.low)).mono fun _ _ hh => ⟨hh.1, h.call hh.2⟩
end
section
variable {u w : World} {mr q m nr Y t s : Nat}
/-- A Reader at t and the reference's at s, of the same m bytes. -/
def TakeS (u w : World) (mr q m nr Y t s : Nat) : Prop := RefS u w [(mr, rc q m t, 92), (q, vals .u8 m (byt Y), 5)] nr Y (8 * m) s
theorem TakeS.call {w' : World} (h : TakeS u w mr q m nr Y t s) (hb : Below w.heap.size w w') : TakeS u w' mr q m nr Y t s := RefS.call h hb
theorem TakeS.low (h : TakeS u w mr q m nr Y t s) : Below u.heap.size u w := by
  obtain ⟨v, hG⟩ := h
  exact hG.low
theorem TakeS.blk (h : TakeS u w mr q m nr Y t s) : Blk w mr (rc q m t) 92 ∧ ∃ S cc, Blk w nr (rb (.slice S (8 * m) cc) s) 53 := by
  obtain ⟨v, hG⟩ := h
  obtain ⟨S, cc, rfl⟩ := gr_sl hG
  exact ⟨gr_blk hG (j := 1) rfl, S, cc, gr_blk hG (j := 0) rfl⟩
theorem TakeS.open (h : TakeS u w mr q m nr Y t s) : ∃ T, Own u w ((mr, rc q m t, 92) :: (q, vals .u8 m (byt Y), 5) :: T) ∧ ∀ w' t', Own u w' ((mr, rc q m t', 92) :: (q, vals .u8 m (byt Y), 5) :: T) → TakeS u w' mr q m nr Y t' s := by
  obtain ⟨v, hG⟩ := h
  have hp : ∀ (a b c : Row) (R : List Row), (c :: a :: b :: R).Perm (a :: b :: c :: R) := fun a b c R => (List.Perm.swap _ _ _).trans (List.Perm.cons _ (List.Perm.swap _ _ _))
  rcases hG with ⟨h0, hv, hO⟩ | ⟨g, d, hv, hO⟩
  · exact ⟨[(nr, rb v s, 53)], hO.perm (hp _ _ _ _), fun w' t' h => ⟨v, .inl ⟨h0, hv, h.perm (hp _ _ _ _).symm⟩⟩⟩
  · exact ⟨_, hO.perm (hp _ _ _ _), fun w' t' h => ⟨v, .inr ⟨g, d, hv, h.perm (hp _ _ _ _).symm⟩⟩⟩
theorem tko_le {l : Nat → Nat} {n m Y t : Nat} : ∀ (f k : Nat), (tko l n m Y t f k).2.1 = 0 → t + (tko l n m Y t f k).2.2 ≤ m
  | 0, _, h => absurd (show (130 : Nat) = 0 from h) (by decide)
  | f + 1, k, h => by
    by_cases h1 : m < t + k + 1
    · rw [tko_short h1] at h
      exact absurd (show (120 : Nat) = 0 from h) (by decide)
    · cases hf : fd (pW l n (k + 1) (hv Y t (k + 1))) n with
      | some i => rw [tko_found h1 hf]; show t + (k + 1) ≤ m; omega
      | none =>
        by_cases h2 : k = 0 ∧ room l n = 16384
        · rw [tko_one h1 hf h2] at h
          exact absurd (show (130 : Nat) = 0 from h) (by decide)
        · rw [tko_next h1 hf h2] at h ⊢
          exact tko_le f (k + 1) h
theorem TakeS.take13 {z : Nat → Int} {nl K : Nat} {r : Nat × Nat × Nat} (hok : okW z nl) (hm : m ≤ 2 ^ 30) (ht : t ≤ 8 * m) (hC : Cde z nl u K) (hr : r = tko (ln z) nl (8 * m) Y t 15 0) (h : TakeS u w mr q m nr Y t s) : RetP 29 #[D K, D mr] w fun x w' => x = .tuple #[Nv .i64 r.1, Nv .i64 r.2.1] ∧ TakeS u w' mr q m nr Y (if r.2.1 = 0 then t + r.2.2 else t) s := by
  obtain ⟨T, hO, hback⟩ := h.open
  refine (PTake_c hok (by omega) ht mr u T w hC hO r hr).mono fun e w' hh => ?_
  obtain ⟨v, he, hv, hO'⟩ := hh
  exact ⟨v, he, hv, hback _ _ hO'⟩
theorem TakeS.rtake13 {z : Nat → Int} {nl : Nat} {r : Nat × Nat × Nat} {S Q' : Option Addr} {cc d : Nat} (hok : okW z nl) (hm : m ≤ 2 ^ 27) (hs : s ≤ 8 * m) (hS : Rc u S nl (zi z)) (hQ : Rc u Q' nl (H.nw (wd (ln z) nl))) (hr : r = tko (ln z) nl (8 * m) Y s 15 0) (h : TakeS u w mr q m nr Y t s) : RetP 30 #[D nr, .slice S nl cc, .slice Q' nl d] w fun x w' => x = .tuple #[Nv .i64 r.1, Nv .i64 r.2.1] ∧ TakeS u w' mr q m nr Y t (s + r.2.2) := by
  refine (HTake_c (c := cc) (d := d) hok (by omega) hs nr u _ w hS hQ h r hr).mono fun e w' hh => ?_
  obtain ⟨v, he, hv, hO'⟩ := hh
  exact ⟨v, he, hv, hO'⟩
theorem TakeS.new {w1 : World} (h : Own u w1 [(mr, rc q m 0, 92), (q, vals .u8 m (byt Y), 5)]) (h2 : RefS w1 w [] nr Y (8 * m) 0) : TakeS u w mr q m nr Y 0 0 := by
  obtain ⟨v, hG⟩ := h2
  have hp : ∀ (L R : List Row), (L ++ R).Perm (R ++ L) := fun L R => List.perm_append_comm
  rcases hG with ⟨h0, hv, hO⟩ | ⟨g, d, hv, hO⟩
  · exact ⟨v, .inl ⟨h0, hv, (own_join h hO).perm (hp _ _)⟩⟩
  · exact ⟨v, .inr ⟨g, d, hv, (own_join h hO).perm ((hp _ _).trans (List.Perm.cons _ (hp _ _)))⟩⟩
end
theorem RNew_p {S : Option Addr} {n c : Nat} {f : Nat → Nat} (hf : ∀ i, f i < 256) (hn : n ≤ 2 ^ 26) (w : World) (hS : Rc w S n (by8 f)) : RetP 28 #[.slice S n c] w fun x w' => ∃ N, x = D N ∧ RefS w w' [] N (nb f n) (8 * n) 0 := by
  refine (RNew_c hf hn w hS).mono fun e w' hh => ?_
  obtain ⟨N, he, hO⟩ := hh
  exact ⟨_, he, N, rfl, hO⟩
set_option maxHeartbeats 16000000 in
theorem puts_walk {S T0 A0 : Option Addr} {n c n1 c1 m c2 : Nat} {z q : Nat → Int} {f : Nat → Nat} (hf : ∀ i, f i < 256) (w : World) (hS : Rc w S n (zi z)) (hT : Rc w T0 n1 (zi q)) (hA : Rc w A0 m (by8 f)) : Ret 7 #[.slice S n c, .slice T0 n1 c1, .slice A0 m c2] w (.bool true) := by
  go_enter Try.func7, Try.ntmps7
  have hO := Own.start w
  go_upto_region 0 with (fail)
  refine wp_region_list (WL.out ?_)
  refine g_val (.bool false) ?_
  refine g_nil ?_
  simp only [Act.put, List.setIfInBounds_toArray, List.set_cons_succ, List.set_cons_zero]
  go_upto_region 1 with (fail)
  refine wp_region_list (WL.out ?_)
  refine g_call hO 13 #[] (.bool true) (Awake_c w) ?_
  intro w1 hb22 hO
  refine g_val (.bool true) ?_
  refine g_nil ?_
  simp only [Act.put, List.setIfInBounds_toArray, List.set_cons_succ, List.set_cons_zero]
  by_cases hbig : 300 < n
  · have hbig' := hbig
    go_upto_region 2 with (fail)
    refine wp_region_list (WL.out ?_)
    refine g_val (.slice S n c) ?_
    refine g_val (Nv .i64 n) ?_
    refine g_val (.bool true) ?_ (B.gtr_int (a := n) (c := 300) (b := true) (decide_eq_true hbig) w1)
    refine g_val (.bool true) ?_
    refine g_skip ?_
    refine g_skip ?_
    refine g_skip ?_
    refine g_val (.bool true) ?_
    refine g_nil ?_
    simp only [Act.put, List.setIfInBounds_toArray, List.set_cons_succ, List.set_cons_zero]
    go_upto_region 3 with (fail)
    refine wp_region_list (WL.out ?_)
    refine g_val (.bool true) ?_
    refine g_val (.bool true) ?_
    refine g_nil ?_
    simp only [Act.put, List.setIfInBounds_toArray, List.set_cons_succ, List.set_cons_zero]
    have HF := hide hO.low
    clear hO
    go_wp2_with (fail)
    go_ret
    exact ⟨rfl, HF.out⟩
  · have hn : n ≤ 300 := by omega
    by_cases hbm : 300 < m
    · have hbm' := hbm
      go_upto_region 2 with (fail)
      refine wp_region_list (WL.out ?_)
      refine g_val (.slice S n c) ?_
      refine g_val (Nv .i64 n) ?_
      refine g_val (.bool false) ?_ (B.gtr_int (a := n) (c := 300) (b := false) (decide_eq_false hbig) w1)
      refine g_val (.bool false) ?_
      refine g_val (.slice A0 m c2) ?_
      refine g_val (Nv .i64 m) ?_
      refine g_val (.bool true) ?_ (B.gtr_int (a := m) (c := 300) (b := true) (decide_eq_true hbm) w1)
      refine g_val (.bool true) ?_
      refine g_nil ?_
      simp only [Act.put, List.setIfInBounds_toArray, List.set_cons_succ, List.set_cons_zero]
      go_upto_region 3 with (fail)
      refine wp_region_list (WL.out ?_)
      refine g_val (.bool true) ?_
      refine g_val (.bool true) ?_
      refine g_nil ?_
      simp only [Act.put, List.setIfInBounds_toArray, List.set_cons_succ, List.set_cons_zero]
      have HF := hide hO.low
      clear hO
      go_wp2_with (fail)
      go_ret
      exact ⟨rfl, HF.out⟩
    · have hm : m ≤ 300 := by omega
      go_upto_region 2 with (fail)
      refine wp_region_list (WL.out ?_)
      refine g_val (.slice S n c) ?_
      refine g_val (Nv .i64 n) ?_
      refine g_val (.bool false) ?_ (B.gtr_int (a := n) (c := 300) (b := false) (decide_eq_false hbig) w1)
      refine g_val (.bool false) ?_
      refine g_val (.slice A0 m c2) ?_
      refine g_val (Nv .i64 m) ?_
      refine g_val (.bool false) ?_ (B.gtr_int (a := m) (c := 300) (b := false) (decide_eq_false hbm) w1)
      refine g_val (.bool false) ?_
      refine g_nil ?_
      simp only [Act.put, List.setIfInBounds_toArray, List.set_cons_succ, List.set_cons_zero]
      clear hbig hbm
      by_cases hok : okW z n
      · have Hok := hide hok
        clear hok
        go_upto_region 4 with (fail)
        refine wp_region_list (WL.out ?_)
        refine g_val (.slice S n c) ?_
        refine g_any 21 #[.slice S n c] (PNew_y Hok.out w1 (hS.low hO.low)) ?_
        rintro _ w2 ⟨K, rfl, hC, hb5⟩
        have hO9 := hO.call hb5
        clear hO
        have hO := hO9
        clear hO9
        replace hO : Own w w2 [] := hO
        refine g_val (.tuple #[D K, Nv .i64 0]) ?_
        refine g_val (D K) ?_
        refine g_val (Nv .i64 0) ?_
        refine g_val (D K) ?_
        refine g_val (Nv .i64 0) ?_
        refine g_nil ?_
        simp only [Act.put, List.setIfInBounds_toArray, List.set_cons_succ, List.set_cons_zero]
        clear hb5
        go_upto_region 5 with (fail)
        refine wp_region_list (WL.out ?_)
        refine g_val (.slice S n c) ?_
        refine g_any 19 #[.slice S n c] (Words_yes Hok.out w2 (hS.low hO.low)) ?_
        rintro _ w3 ⟨q2, rfl, hO2⟩
        have hC9 := hC.call hO2.low
        clear hC
        have hC := hC9
        clear hC9
        have hO9 := own_join hO hO2
        clear hO hO2
        have hO := hO9
        clear hO9
        replace hO : Own w w3 [(q2, vals .u32 n (wd (ln z) n), 24)] := hO
        refine g_val (.tuple #[.slice (some (⟨q2, 0, none⟩ : Addr)) n n, Nv .i64 0]) ?_
        refine g_val (.slice (some (⟨q2, 0, none⟩ : Addr)) n n) ?_
        refine g_val (Nv .i64 0) ?_
        refine g_val (.slice (some (⟨q2, 0, none⟩ : Addr)) n n) ?_
        refine g_val (Nv .i64 0) ?_
        refine g_nil ?_
        simp only [Act.put, List.setIfInBounds_toArray, List.set_cons_succ, List.set_cons_zero]
        have hQ := rc_v32 (hO.row 0 rfl)
        have HL := hide hO.low
        clear hO
        go_upto_region 6 with (fail)
        refine wp_region_list (WL.out ?_)
        refine g_val (Nv .i64 0) ?_
        refine g_val (Nv .i64 0) ?_
        refine g_val (.bool false) ?_
        refine g_val (.bool false) ?_
        refine g_val (D K) ?_
        refine g_val (.bool false) ?_
        refine g_val (Nv .i64 0) ?_
        refine g_val (.bool false) ?_
        refine g_val (.bool false) ?_
        refine g_val (.bool false) ?_
        refine g_nil ?_
        simp only [Act.put, List.setIfInBounds_toArray, List.set_cons_succ, List.set_cons_zero]
        go_upto_region 8 with (fail)
        refine wp_region_list (WL.out ?_)
        refine g_val (Nv .i64 0) ?_
        refine g_val (.bool false) ?_
        refine g_nil ?_
        simp only [Act.put, List.setIfInBounds_toArray, List.set_cons_succ, List.set_cons_zero]
        have hO := Own.start w3
        have hSU := hS.low HL.out
        have hTU := hT.low HL.out
        have hAU := hA.low HL.out
        go_upto_region 10 with (fail)
        refine wp_region_list (WL.out ?_)
        refine g_val (A (wc none (fun _ => 0) 0)) ?_ (run_bd 49 _ rfl [] (by kernel_rfl) _ wc_zero w3)
        refine g_new hO (fun q => D q) (wc none (fun _ => 0) 0) 49 (wc_fit _ _ _) ((run_box 49 _ rfl _ (by kernel_rfl) w3)) ?_
        intro n56 w4 hb56 hO
        replace hO : Own w3 w4 [(n56, wc none (fun _ => 0) 0, 49)] := hO
        refine g_val (D n56) ?_
        refine g_nil ?_
        simp only [Act.put, List.setIfInBounds_toArray, List.set_cons_succ, List.set_cons_zero]
        go_upto_region 11 with (fail)
        refine wp_region_list (WL.out ?_)
        refine g_val (A (rb (.slice none 0 0) 0)) ?_ (run_bd 53 _ rfl [] (by kernel_rfl) _ rb_built w4)
        refine g_new hO (fun q => D q) (rb (.slice none 0 0) 0) 53 (rb_fit _ _ _ _) ((run_box 53 _ rfl _ (by kernel_rfl) w4)) ?_
        intro n58 w5 hb58 hO
        replace hO : Own w3 w5 [(n56, wc none (fun _ => 0) 0, 49), (n58, rb (.slice none 0 0) 0, 53)] := hO
        refine g_val (D n58) ?_
        refine g_nil ?_
        simp only [Act.put, List.setIfInBounds_toArray, List.set_cons_succ, List.set_cons_zero]
        have HP : Hid (PutsS w3 w5 n56 n58 0 0 0 0) := hide ⟨by decide, by decide, none, [], rfl, .slice none 0 0, .inl ⟨rfl, rfl, by
          have e : wc none (op 0 0) 0 = wc none (fun _ => 0) 0 := wc_congr fun k _ => M.byt_hi (c := 0) (by decide) (Nat.zero_le _)
          rw [e]; exact hO.perm (List.Perm.swap _ _ _)⟩⟩
        clear hO
        go_upto_region 12 with (fail)
        refine wp_region_list (WL.out ?_)
        refine g_val (Nv .i64 0) ?_
        refine g_nil ?_
        simp only [Act.put, List.setIfInBounds_toArray, List.set_cons_succ, List.set_cons_zero]
        go_wp2_with (fail)
        go_loopw [14] (fun x14 wr => ∃ (k X c : Nat), k ≤ n1 ∧ k ≤ 100 ∧ x14 = .int .i64 (k : Int) ∧ c ≤ 15 * k ∧ PutsS w3 wr n56 n58 X c X c) (fun x14 _ => 100 - (intOf x14).toNat)
        case atStart => exact ⟨0, 0, 0, Nat.zero_le _, Nat.zero_le _, rfl, Nat.le_refl _, HP.out⟩
        case round =>
          clear HP
          obtain ⟨k, X, c9, hkn, hk100, rfl, hck, hP⟩ := hrel
          have HP := hide hP
          clear hP
          by_cases hz : k < n1 ∧ k < 100
          · have hc28 : c9 + 15 ≤ 2 ^ 28 := by omega
            obtain ⟨a, rfl, hcq⟩ := hTU.cell hz.1
            go_upto_region 13 with (fail)
            refine wp_region_list (WL.out ?_)
            refine g_val (Nv .i64 k) ?_
            refine g_val (.slice (some a) n1 c1) ?_
            refine g_val (Nv .i64 n1) ?_
            refine g_val (.bool true) ?_ (B.lss_int (a := k) (c := n1) (b := true) (decide_eq_true hz.1) wr)
            refine g_val (.bool true) ?_
            refine g_val (Nv .i64 k) ?_
            refine g_val (.bool true) ?_ (B.lss_int (a := k) (c := 100) (b := true) (decide_eq_true hz.2) wr)
            refine g_val (.bool true) ?_
            refine g_nil ?_
            simp only [Act.put, List.setIfInBounds_toArray, List.set_cons_succ, List.set_cons_zero]
            obtain ⟨s, hs9⟩ : ∃ s, q k = s := ⟨_, rfl⟩
            have hcs : ∀ w', Below w3.heap.size w3 w' → w'.cell? (a.add k) = some (.int .i64 s) := fun w' h => by rw [← hs9]; exact hcq w' h
            clear hcq
            by_cases hsy : okS z n s
            · obtain ⟨_, i9, rfl, hi9, hm1⟩ := hsy
              obtain ⟨m9, hm9⟩ : ∃ m9, m9 = ln z i9 := ⟨_, rfl⟩
              rw [← hm9] at hm1
              have hm15 : m9 ≤ 15 := by rw [hm9]; exact ln_le z i9
              go_upto_region 15 with (fail)
              refine Rg.pd [6, 13] (fun _ => [(69, D K), (70, D n56), (71, .slice (some a) n1 c1), (72, Nv .i64 k), (73, .pointer (some (a.add k))), (74, Nv .i64 i9), (75, Nv .i64 0), (76, D n58), (77, .slice S n c), (78, .slice (some a) n1 c1), (79, Nv .i64 k), (80, .pointer (some (a.add k))), (81, Nv .i64 i9), (82, Nv .i64 0), (83, .bool false)]) (PI [fun wz => PutsS w3 wz n56 n58 X c9 X c9, fun wz => PutsS w3 wz n56 n58 (X + hb (word (ln z) n i9) m9 m9 * 2 ^ c9) (c9 + m9) X c9, fun wz => PutsS w3 wz n56 n58 (X + hb (word (ln z) n i9) m9 m9 * 2 ^ c9) (c9 + m9) (X + hb (word (ln z) n i9) m9 m9 * 2 ^ c9) (c9 + m9)]) (fun _ => 0) (HP.out.drew) (Rg.ac nv (Rg.ac nv (Rg.ac nv (Rg.ac nv (Rg.ac (nx (fun _ => .pointer (some (a.add k))) (fun _ w => b_ixs (n := n1) (c := c1) hz.1 Try.underlying25 sz_int w)) (Rg.ac (kca (Nv .i64 i9) (fun s _ w2 h => match s, h with | 0, h => PutsS.low h | 1, h => PutsS.low h | 2, h => PutsS.low h | _ + 3, h => h.elim) (hcs) B.agg_int) (Rg.ac (kc 0 22 (fun _ => #[D K, D n56, Nv .i64 i9]) (fun _ => Nv .i64 0) (fun _ w3 h => PutsS.put_y Hok.out hi9 hm9 hm1 hc28 hC h)) (Rg.ac nv (Rg.ac nv (Rg.ac nv (Rg.ac nv (Rg.ac (nx (fun _ => .pointer (some (a.add k))) (fun _ w => b_ixs (n := n1) (c := c1) hz.1 Try.underlying25 sz_int w)) (Rg.ac (kca (Nv .i64 i9) (fun s _ w2 h => match s, h with | 0, h => PutsS.low h | 1, h => PutsS.low h | 2, h => PutsS.low h | _ + 3, h => h.elim) (hcs) B.agg_int) (Rg.ac (kc 1 23 (fun _ => #[D n58, .slice S n c, Nv .i64 i9]) (fun _ => Nv .i64 0) (fun _ w3 h => PutsS.rput_y Hok.out hi9 hm9 hm1 hc28 hSU h)) (Rg.ac (nx (fun _ => .bool false) (fun _ w => B.neq_errno (a := 0) (c := 0) (b := false) (decide_eq_false (fun h => h rfl)) w)) Rg.an))))))))))))))) ?_
              intro ν w6 hI
              replace hI : PutsS w3 w6 n56 n58 (X + hb (word (ln z) n i9) m9 m9 * 2 ^ c9) (c9 + m9) (X + hb (word (ln z) n i9) m9 m9 * 2 ^ c9) (c9 + m9) := hI
              clear ν
              simp only [Rg.putL, Act.put, List.setIfInBounds_toArray, List.set_cons_succ, List.set_cons_zero]
              have HI := hide hI
              clear hI HP
              go_upto_region 14 with (fail)
              refine wp_region_list (WL.out ?_)
              refine g_val (Nv .i64 k) ?_
              refine g_val (Nv .i64 (k + 1)) ?_ (B.add_int (a := k) (c := 1) (d := k + 1) rfl (by omega) w6)
              refine g_val (Nv .i64 (k + 1)) ?_
              refine g_nil ?_
              simp only [Act.put, List.setIfInBounds_toArray, List.set_cons_succ, List.set_cons_zero]
              go_wp2_with (fail)
              go_roundw
              case rel => exact ⟨k + 1, (X + hb (word (ln z) n i9) m9 m9 * 2 ^ c9), (c9 + m9), by omega, by omega, rfl, by omega, HI.out⟩
              case measure => show 100 - ((k + 1 : Nat) : Int).toNat < 100 - ((k : Nat) : Int).toNat; omega
            · have Hsy := hide hsy
              clear hsy
              go_upto_region 15 with (fail)
              refine Rg.pd [6, 13] (fun _ => [(69, D K), (70, D n56), (71, .slice (some a) n1 c1), (72, Nv .i64 k), (73, .pointer (some (a.add k))), (74, .int .i64 s), (75, Nv .i64 1), (76, D n58), (77, .slice S n c), (78, .slice (some a) n1 c1), (79, Nv .i64 k), (80, .pointer (some (a.add k))), (81, .int .i64 s), (82, Nv .i64 1), (83, .bool false)]) (PI [fun wz => PutsS w3 wz n56 n58 X c9 X c9, fun wz => PutsS w3 wz n56 n58 X c9 X c9, fun wz => PutsS w3 wz n56 n58 X c9 X c9]) (fun _ => 0) (HP.out.drew) (Rg.ac nv (Rg.ac nv (Rg.ac nv (Rg.ac nv (Rg.ac (nx (fun _ => .pointer (some (a.add k))) (fun _ w => b_ixs (n := n1) (c := c1) hz.1 Try.underlying25 sz_int w)) (Rg.ac (kca (.int .i64 s) (fun s _ w2 h => match s, h with | 0, h => PutsS.low h | 1, h => PutsS.low h | 2, h => PutsS.low h | _ + 3, h => h.elim) (hcs) B.agg_int) (Rg.ac (kc 0 22 (fun _ => #[D K, D n56, .int .i64 s]) (fun _ => Nv .i64 1) (fun _ w3 h => PutsS.put_n Hok.out Hsy.out hC h)) (Rg.ac nv (Rg.ac nv (Rg.ac nv (Rg.ac nv (Rg.ac (nx (fun _ => .pointer (some (a.add k))) (fun _ w => b_ixs (n := n1) (c := c1) hz.1 Try.underlying25 sz_int w)) (Rg.ac (kca (.int .i64 s) (fun s _ w2 h => match s, h with | 0, h => PutsS.low h | 1, h => PutsS.low h | 2, h => PutsS.low h | _ + 3, h => h.elim) (hcs) B.agg_int) (Rg.ac (kc 1 23 (fun _ => #[D n58, .slice S n c, .int .i64 s]) (fun _ => Nv .i64 1) (fun _ w3 h => PutsS.rput_n Hsy.out (by omega) hSU h)) (Rg.ac (nx (fun _ => .bool false) (fun _ w => B.neq_errno (a := 1) (c := 1) (b := false) (decide_eq_false (fun h => h rfl)) w)) Rg.an))))))))))))))) ?_
              intro ν w6 hI
              replace hI : PutsS w3 w6 n56 n58 X c9 X c9 := hI
              clear ν
              simp only [Rg.putL, Act.put, List.setIfInBounds_toArray, List.set_cons_succ, List.set_cons_zero]
              have HI := hide hI
              clear hI HP
              go_upto_region 14 with (fail)
              refine wp_region_list (WL.out ?_)
              refine g_val (Nv .i64 k) ?_
              refine g_val (Nv .i64 (k + 1)) ?_ (B.add_int (a := k) (c := 1) (d := k + 1) rfl (by omega) w6)
              refine g_val (Nv .i64 (k + 1)) ?_
              refine g_nil ?_
              simp only [Act.put, List.setIfInBounds_toArray, List.set_cons_succ, List.set_cons_zero]
              go_wp2_with (fail)
              go_roundw
              case rel => exact ⟨k + 1, X, c9, by omega, by omega, rfl, by omega, HI.out⟩
              case measure => show 100 - ((k + 1 : Nat) : Int).toNat < 100 - ((k : Nat) : Int).toNat; omega
          · have hc40 : c9 < 2 ^ 40 := by omega
            go_upto_region 13 with (fail)
            refine reg_ways (fun x : Value × Value × Value × Value => Fr [.slice S n c, .slice T0 n1 c1, .slice A0 m c2, U, U, U, u6, .bool true, D K, Nv .i64 0, .slice (some (⟨q2, 0, none⟩ : Addr)) n n, Nv .i64 0, D n56, D n58, Nv .i64 k, U, U, U, U, U, U, U, .bool true, .slice S n c, Nv .i64 n, .bool false, .bool false, .slice A0 m c2, Nv .i64 m, .bool false, .bool false, U, .tuple #[D K, Nv .i64 0], .slice S n c, .tuple #[D K, Nv .i64 0], D K, Nv .i64 0, .tuple #[.slice (some (⟨q2, 0, none⟩ : Addr)) n n, Nv .i64 0], .slice S n c, .tuple #[.slice (some (⟨q2, 0, none⟩ : Addr)) n n, Nv .i64 0], .slice (some (⟨q2, 0, none⟩ : Addr)) n n, Nv .i64 0, Nv .i64 0, Nv .i64 0, .bool false, .bool false, D K, .bool false, Nv .i64 0, .bool false, .bool false, .bool false, Nv .i64 0, .bool false, U, A (wc none (fun _ => 0) 0), D n56, A (rb (.slice none 0 0) 0), D n58, Nv .i64 k, .slice T0 n1 c1, Nv .i64 n1, x.1, x.2.1, x.2.2.1, x.2.2.2, .bool false, u67, u68, u69, u70, u71, u72, u73, u74, u75, u76, u77, u78, u79, u80, u81, u82, u83, U, U, U, U, U, U, U, U, U, U, U, U, U, U, U, U, U, U, U, U, U, U, U, U, U, U, U, U, U, U, U, U, U, U, U, U, U, U, U, U, U, U, U, U, U, U, U, U, U]) ?_ ?_
            · intro H
              by_cases hn9 : k < n1
              · refine wp_region_list (WL.out ?_)
                refine g_val (Nv .i64 k) ?_
                refine g_val (.slice T0 n1 c1) ?_
                refine g_val (Nv .i64 n1) ?_
                refine g_val (.bool true) ?_ (B.lss_int (a := k) (c := n1) (b := true) (decide_eq_true hn9) wr)
                refine g_val (.bool true) ?_
                refine g_val (Nv .i64 k) ?_
                refine g_val (.bool false) ?_ (B.lss_int (a := k) (c := 100) (b := false) (decide_eq_false (by omega)) wr)
                refine g_val (.bool false) ?_
                refine g_nil ?_
                simp only [Act.put, List.setIfInBounds_toArray, List.set_cons_succ, List.set_cons_zero]
                exact H (.bool true, .bool true, Nv .i64 k, .bool false)
              · refine wp_region_list (WL.out ?_)
                refine g_val (Nv .i64 k) ?_
                refine g_val (.slice T0 n1 c1) ?_
                refine g_val (Nv .i64 n1) ?_
                refine g_val (.bool false) ?_ (B.lss_int (a := k) (c := n1) (b := false) (decide_eq_false hn9) wr)
                refine g_val (.bool false) ?_
                refine g_skip ?_
                refine g_skip ?_
                refine g_val (.bool false) ?_
                refine g_nil ?_
                simp only [Act.put, List.setIfInBounds_toArray, List.set_cons_succ, List.set_cons_zero]
                exact H (.bool false, .bool false, U, U)
            rintro ⟨x62, x63, x64, x65⟩
            dsimp only
            obtain ⟨nb9, hnb⟩ : ∃ nb9, nb9 = (c9 + 7) / 8 := ⟨_, rfl⟩
            have Hnb := hide hnb
            clear hnb hz hkn
            have hXc := HP.out.1
            have hlow := HP.out.low
            have HL1 := hide (HL.out.trans (hlow.mono HL.out.size))
            have hCW1 := hC.call hlow
            have hSW := hSU.low hlow
            have hQW := hQ.low hlow
            have hAW := hAU.low hlow
            obtain ⟨p, S2, cc, hBW, hCH, hBR, hSR⟩ := HP.out.blk
            clear HP hlow hTU hAU hSU hQ hC HL
            obtain ⟨wu, hwu⟩ : ∃ wu, wu = wr := ⟨_, rfl⟩
            subst hwu
            have hO := Own.start wu
            go_upto_region 17 with (fail)
            refine Rg.pd [1, 4, 9] (fun ν => [(84, D n56), (85, .slice (some ⟨(ν 1010), 0, none⟩) nb9 nb9), (86, .string (sk nb9 (byt X))), (87, D n58), (88, .slice (some ⟨(ν 1040), 0, none⟩) nb9 nb9), (89, .string (sk nb9 (byt X))), (90, .bool false), (91, .bool false), (92, D n56), (93, Nv .i64 c9), (94, D n58), (95, D n58), (96, D n58), (97, .slice S2 c9 cc), (98, Nv .i64 c9), (99, .bool false), (100, .bool false)]) (OI wu (fun s ν => [[], [((ν 1010), vals .u8 nb9 (byt X), 5)], [((ν 1010), vals .u8 nb9 (byt X), 5), ((ν 1040), vals .u8 nb9 (byt X), 5)], [((ν 1010), vals .u8 nb9 (byt X), 5), ((ν 1040), vals .u8 nb9 (byt X), 5)]].getD s [])) (fun _ => 0) hO.drew (Rg.ac nv (Rg.ac (sz 0 1010 24 (fun _ => #[D n56]) (fun z => .slice (some ⟨(z 0), 0, none⟩) nb9 nb9) (fun z => [(z 0, vals .u8 nb9 (byt X), 5)]) (fun ν w hO => bytes_zz (p := p) Hnb.out hc40 _ w (hBW.call hO.low) (hCH.low hO.low))) (Rg.ac (nss 1 3 0 nb9 nb9 (fun ν => (ν 1010)) (byt X) (fun i => M.byt_lt _ i) (at2 1 3 (fun _ => by kernel_rfl) (at2 2 3 (fun _ => by kernel_rfl) (at1 3 fun _ => by kernel_rfl)))) (Rg.ac nv (Rg.ac (sz 1 1040 25 (fun _ => #[D n58]) (fun z => .slice (some ⟨(z 0), 0, none⟩) nb9 nb9) (fun z => [(z 0, vals .u8 nb9 (byt X), 5)]) (fun ν w hO => rbytes_zz (S := S2) (c := cc) hXc Hnb.out (Nat.le_of_lt hc40) _ w (hBR.call hO.low) (hSR.low hO.low))) (Rg.ac (nss 2 3 1 nb9 nb9 (fun ν => (ν 1040)) (byt X) (fun i => M.byt_lt _ i) (at2 2 3 (fun _ => by kernel_rfl) (at1 3 fun _ => by kernel_rfl))) (Rg.ac (nx (fun _ => .bool false) (fun _ w => b_sne (s := sk nb9 (byt X)) (t := sk nb9 (byt X)) (b := true) (by simp) w)) (Rg.ac nv (Rg.ac nv (Rg.ac (sq 2 26 (fun _ => #[D n56]) (fun _ => Nv .i64 c9) (fun ν w hO => Count_c _ w (hBW.call hO.low))) (Rg.ac nv (Rg.ac nv (Rg.ac nv (Rg.ac (nca (.slice S2 c9 cc) (fun w' h => ((hBR.call h).cell 0).trans (rb_0 _ _)) B.agg_sb) (Rg.ac nv (Rg.ac (nx (fun _ => .bool false) (fun _ w => B.neq_int (a := c9) (c := c9) (b := false) (decide_eq_false (fun h => h rfl)) w)) (Rg.ac nv Rg.an))))))))))))))))) ?_
            intro ν w6 hO
            replace hO : Own wu w6 [((ν 1010), vals .u8 nb9 (byt X), 5), ((ν 1040), vals .u8 nb9 (byt X), 5)] := hO
            simp only [Rg.putL, Act.put, List.setIfInBounds_toArray, List.set_cons_succ, List.set_cons_zero]
            generalize ν 1010 = n85_0 at hO ⊢
            generalize ν 1040 = n88_0 at hO ⊢
            clear ν
            clear hBW hCH hBR hSR
            have hSX := hSW.low hO.low
            have hQX := hQW.low hO.low
            have hAX := hAW.low hO.low
            have hCX := hCW1.call hO.low
            have HL2 := hide (HL1.out.trans (hO.low.mono HL1.out.size))
            clear hO hSW hQW hAW hCW1 HL1
            have hO := Own.start w6
            have hm40 : m ≤ 2 ^ 40 := by omega
            have hm26 : m ≤ 2 ^ 26 := by omega
            go_upto_region 19 with (fail)
            refine wp_region_list (WL.out ?_)
            refine g_val (.slice A0 m c2) ?_
            refine g_any (P := fun v w' => ∃ N q, v = D N ∧ Own w6 w' [(N, rc q m 0, 92), (q, vals .u8 m f, 5)]) 27 #[.slice A0 m c2] (Calls.mono (New_c hm40 w6 hAX) fun e w' hh => by obtain ⟨N, q, he, h9⟩ := hh; exact ⟨_, he, N, q, rfl, h9⟩) ?_
            rintro _ w7 ⟨mr, qr, rfl, hN⟩
            clear hO
            refine g_val (D mr) ?_
            refine g_nil ?_
            simp only [Act.put, List.setIfInBounds_toArray, List.set_cons_succ, List.set_cons_zero]
            rw [vals_congr .u8 m f (byt (nb f m)) fun i hi => (M.byt_nb f hf m i hi).symm] at hN
            go_upto_region 20 with (fail)
            refine wp_region_list (WL.out ?_)
            refine g_val (.slice A0 m c2) ?_
            refine g_any 28 #[.slice A0 m c2] (RNew_p (f := f) (c := c2) hf hm26 w7 (hAX.low hN.low)) ?_
            rintro _ w8 ⟨nr, rfl, hR⟩
            refine g_val (D nr) ?_
            refine g_nil ?_
            simp only [Act.put, List.setIfInBounds_toArray, List.set_cons_succ, List.set_cons_zero]
            obtain ⟨Y, hY⟩ : ∃ Y, nb f m = Y := ⟨_, rfl⟩
            rw [hY] at hN hR
            have HT := hide (TakeS.new hN hR)
            clear hN hR hY hAX
            go_upto_region 21 with (fail)
            refine wp_region_list (WL.out ?_)
            refine g_val (Nv .i64 0) ?_
            refine g_nil ?_
            simp only [Act.put, List.setIfInBounds_toArray, List.set_cons_succ, List.set_cons_zero]
            go_wp2_with (fail)
            go_loopw [17] (fun x17 wr => ∃ (k t : Nat), k ≤ 100 ∧ x17 = .int .i64 (k : Int) ∧ t ≤ 8 * m ∧ TakeS w6 wr mr qr m nr Y t t) (fun x17 _ => 100 - (intOf x17).toNat)
            case atStart => exact ⟨0, 0, Nat.zero_le _, rfl, Nat.zero_le _, HT.out⟩
            case round =>
              clear HT
              obtain ⟨k, t, hk100, rfl, ht, hTk⟩ := hrel
              have HT := hide hTk
              clear hTk
              by_cases hz : k < 100
              · obtain ⟨⟨r1, r2, r3⟩, hr⟩ : ∃ r, r = tko (ln z) n (8 * m) Y t 15 0 := ⟨_, rfl⟩
                have Hr := hide hr
                have hle : r2 = 0 → t + r3 ≤ 8 * m := fun h => by have h9 := tko_le (l := ln z) (n := n) (m := 8 * m) (Y := Y) (t := t) 15 0; rw [← hr] at h9; exact h9 h
                clear hr
                go_upto_region 22 with (fail)
                refine wp_region_list (WL.out ?_)
                refine g_val (Nv .i64 k) ?_
                refine g_val (.bool true) ?_ (B.lss_int (a := k) (c := 100) (b := true) (decide_eq_true hz) wr)
                refine g_nil ?_
                simp only [Act.put, List.setIfInBounds_toArray, List.set_cons_succ, List.set_cons_zero]
                go_upto_region 24 with (fail)
                refine wp_region_list (WL.out ?_)
                refine g_val (D K) ?_
                refine g_val (D mr) ?_
                refine g_any 29 #[D K, D mr] (TakeS.take13 Hok.out (by omega) ht hCX Hr.out HT.out) ?_
                rintro _ w9 ⟨rfl, hT2⟩
                clear HT
                have HT := hide hT2
                clear hT2
                refine g_val (.tuple #[Nv .i64 r1, Nv .i64 r2]) ?_
                refine g_val (Nv .i64 r1) ?_
                refine g_val (Nv .i64 r2) ?_
                refine g_val (Nv .i64 r1) ?_
                refine g_val (Nv .i64 r2) ?_
                refine g_nil ?_
                simp only [Act.put, List.setIfInBounds_toArray, List.set_cons_succ, List.set_cons_zero]
                go_upto_region 25 with (fail)
                refine wp_region_list (WL.out ?_)
                refine g_val (D nr) ?_
                refine g_val (.slice S n c) ?_
                refine g_val (.slice (some (⟨q2, 0, none⟩ : Addr)) n n) ?_
                refine g_any 30 #[D nr, .slice S n c, .slice (some (⟨q2, 0, none⟩ : Addr)) n n] (TakeS.rtake13 Hok.out (by omega) ht hSX hQX Hr.out HT.out) ?_
                rintro _ w10 ⟨rfl, hT2⟩
                clear HT
                have HT := hide hT2
                clear hT2
                refine g_val (.tuple #[Nv .i64 r1, Nv .i64 r2]) ?_
                refine g_val (Nv .i64 r1) ?_
                refine g_val (Nv .i64 r2) ?_
                refine g_val (Nv .i64 r1) ?_
                refine g_val (Nv .i64 r2) ?_
                refine g_nil ?_
                simp only [Act.put, List.setIfInBounds_toArray, List.set_cons_succ, List.set_cons_zero]
                go_upto_region 26 with (fail)
                refine wp_region_list (WL.out ?_)
                refine g_val (Nv .i64 r1) ?_
                refine g_val (Nv .i64 r1) ?_
                refine g_val (.bool false) ?_ (B.neq_int (a := r1) (c := r1) (b := false) (decide_eq_false (fun h => h rfl)) w10)
                refine g_val (.bool false) ?_
                refine g_val (Nv .i64 r2) ?_
                refine g_val (Nv .i64 r2) ?_
                refine g_val (.bool false) ?_ (B.neq_errno (a := r2) (c := r2) (b := false) (decide_eq_false (fun h => h rfl)) w10)
                refine g_val (.bool false) ?_
                refine g_nil ?_
                simp only [Act.put, List.setIfInBounds_toArray, List.set_cons_succ, List.set_cons_zero]
                by_cases h0 : r2 = 0
                · have hle0 := hle h0
                  replace HT : Hid (TakeS w6 w10 mr qr m nr Y (t + r3) (t + r3)) := hide (by have h9 := HT.out; rwa [show (if (r1, r2, r3).2.1 = 0 then t + (r1, r2, r3).2.2 else t) = t + r3 from if_pos h0] at h9)
                  go_upto_region 28 with (fail)
                  refine wp_region_list (WL.out ?_)
                  refine g_val (Nv .i64 r2) ?_
                  refine g_val (.bool false) ?_ (B.neq_errno (a := r2) (c := 0) (b := false) (decide_eq_false (fun h => h h0)) w10)
                  refine g_nil ?_
                  simp only [Act.put, List.setIfInBounds_toArray, List.set_cons_succ, List.set_cons_zero]
                  go_upto_region 23 with (fail)
                  refine wp_region_list (WL.out ?_)
                  refine g_val (Nv .i64 k) ?_
                  refine g_val (Nv .i64 (k + 1)) ?_ (B.add_int (a := k) (c := 1) (d := k + 1) rfl (by omega) w10)
                  refine g_val (Nv .i64 (k + 1)) ?_
                  refine g_nil ?_
                  simp only [Act.put, List.setIfInBounds_toArray, List.set_cons_succ, List.set_cons_zero]
                  go_wp2_with (fail)
                  go_roundw
                  case rel => exact ⟨k + 1, t + r3, hz, rfl, hle0, HT.out⟩
                  case measure => show 100 - ((k + 1 : Nat) : Int).toNat < 100 - ((k : Nat) : Int).toNat; omega
                · have h0' := h0
                  go_upto_region 28 with (fail)
                  refine wp_region_list (WL.out ?_)
                  refine g_val (Nv .i64 r2) ?_
                  refine g_val (.bool true) ?_ (B.neq_errno (a := r2) (c := 0) (b := true) (decide_eq_true h0) w10)
                  refine g_nil ?_
                  simp only [Act.put, List.setIfInBounds_toArray, List.set_cons_succ, List.set_cons_zero]
                  have HF := hide (HL2.out.trans (HT.out.low.mono HL2.out.size))
                  clear HT
                  go_upto_region 29 with (fail)
                  refine wp_region_list (WL.out ?_)
                  refine g_val (.bool true) ?_
                  refine g_val (.bool true) ?_
                  refine g_nil ?_
                  simp only [Act.put, List.setIfInBounds_toArray, List.set_cons_succ, List.set_cons_zero]
                  go_wp2_with (fail)
                  go_ret
                  exact ⟨rfl, HF.out⟩
              · have hz' := hz
                go_upto_region 22 with (fail)
                refine wp_region_list (WL.out ?_)
                refine g_val (Nv .i64 k) ?_
                refine g_val (.bool false) ?_ (B.lss_int (a := k) (c := 100) (b := false) (decide_eq_false hz) wr)
                refine g_nil ?_
                simp only [Act.put, List.setIfInBounds_toArray, List.set_cons_succ, List.set_cons_zero]
                have HF := hide (HL2.out.trans (HT.out.low.mono HL2.out.size))
                clear HT
                go_upto_region 29 with (fail)
                refine wp_region_list (WL.out ?_)
                refine g_val (.bool true) ?_
                refine g_val (.bool true) ?_
                refine g_nil ?_
                simp only [Act.put, List.setIfInBounds_toArray, List.set_cons_succ, List.set_cons_zero]
                go_wp2_with (fail)
                go_ret
                exact ⟨rfl, HF.out⟩
      · have Hok := hide hok
        clear hok
        go_upto_region 4 with (fail)
        refine wp_region_list (WL.out ?_)
        refine g_val (.slice S n c) ?_
        refine g_call hO 21 #[.slice S n c] (.tuple #[.pointer none, Nv .i64 130]) (PNew_n (by omega) Hok.out w1 (hS.low hO.low)) ?_
        intro w2 hb34 hO
        refine g_val (.tuple #[.pointer none, Nv .i64 130]) ?_
        refine g_val (.pointer none) ?_
        refine g_val (Nv .i64 130) ?_
        refine g_val (.pointer none) ?_
        refine g_val (Nv .i64 130) ?_
        refine g_nil ?_
        simp only [Act.put, List.setIfInBounds_toArray, List.set_cons_succ, List.set_cons_zero]
        go_upto_region 5 with (fail)
        refine wp_region_list (WL.out ?_)
        refine g_val (.slice S n c) ?_
        refine g_call hO 19 #[.slice S n c] (.tuple #[.slice none 0 0, Nv .i64 130]) (Words_no (by omega) Hok.out w2 (hS.low hO.low)) ?_
        intro w3 hb39 hO
        refine g_val (.tuple #[.slice none 0 0, Nv .i64 130]) ?_
        refine g_val (.slice none 0 0) ?_
        refine g_val (Nv .i64 130) ?_
        refine g_val (.slice none 0 0) ?_
        refine g_val (Nv .i64 130) ?_
        refine g_nil ?_
        simp only [Act.put, List.setIfInBounds_toArray, List.set_cons_succ, List.set_cons_zero]
        go_upto_region 6 with (fail)
        refine wp_region_list (WL.out ?_)
        refine g_val (Nv .i64 130) ?_
        refine g_val (Nv .i64 130) ?_
        refine g_val (.bool false) ?_
        refine g_val (.bool false) ?_
        refine g_val (.pointer none) ?_
        refine g_val (.bool true) ?_
        refine g_val (Nv .i64 130) ?_
        refine g_val (.bool true) ?_
        refine g_val (.bool false) ?_
        refine g_val (.bool false) ?_
        refine g_nil ?_
        simp only [Act.put, List.setIfInBounds_toArray, List.set_cons_succ, List.set_cons_zero]
        go_upto_region 8 with (fail)
        refine wp_region_list (WL.out ?_)
        refine g_val (Nv .i64 130) ?_
        refine g_val (.bool true) ?_
        refine g_nil ?_
        simp only [Act.put, List.setIfInBounds_toArray, List.set_cons_succ, List.set_cons_zero]
        go_upto_region 9 with (fail)
        refine wp_region_list (WL.out ?_)
        refine g_val (.bool true) ?_
        refine g_val (.bool true) ?_
        refine g_nil ?_
        simp only [Act.put, List.setIfInBounds_toArray, List.set_cons_succ, List.set_cons_zero]
        have HF := hide hO.low
        clear hO
        go_wp2_with (fail)
        go_ret
        exact ⟨rfl, HF.out⟩
end Q
end Go.Proofs.Ytkljpidlfddgbaa
