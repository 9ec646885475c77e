/- What SHA-512 is, on whole numbers; no program. -/
import Derived.Test.YtjnjedannpnjiaaDoorAa
namespace Go.Proofs.YtjnjedannpnjiaaDoor
open Go.RowKit

def rotr (x n : Nat) : Nat := x * 2 ^ (64 - n) % 2 ^ 64 ||| x / 2 ^ n
def sg0 (x : Nat) : Nat := rotr x 1 ^^^ rotr x 8 ^^^ x / 2 ^ 7
def sg1 (x : Nat) : Nat := rotr x 19 ^^^ rotr x 61 ^^^ x / 2 ^ 6
def bs0 (x : Nat) : Nat := rotr x 28 ^^^ rotr x 34 ^^^ rotr x 39
def bs1 (x : Nat) : Nat := rotr x 14 ^^^ rotr x 18 ^^^ rotr x 41
def chs (e f g : Nat) : Nat := (e &&& f) ^^^ ((2 ^ 64 - 1 - e) &&& g)
def maj (a b c : Nat) : Nat := (a &&& b) ^^^ (a &&& c) ^^^ (b &&& c)
theorem rotr_lt (x n : Nat) (hx : x < 2 ^ 64) : rotr x n < 2 ^ 64 := by
  unfold rotr
  exact Nat.or_lt_two_pow (Nat.mod_lt _ (by omega)) (Nat.lt_of_le_of_lt (Nat.div_le_self _ _) hx)
theorem div_lt64 (x n : Nat) (hx : x < 2 ^ 64) : x / 2 ^ n < 2 ^ 64 := Nat.lt_of_le_of_lt (Nat.div_le_self _ _) hx
theorem sg0_lt (x : Nat) (hx : x < 2 ^ 64) : sg0 x < 2 ^ 64 := Nat.xor_lt_two_pow (Nat.xor_lt_two_pow (rotr_lt _ _ hx) (rotr_lt _ _ hx)) (div_lt64 _ _ hx)
theorem sg1_lt (x : Nat) (hx : x < 2 ^ 64) : sg1 x < 2 ^ 64 := Nat.xor_lt_two_pow (Nat.xor_lt_two_pow (rotr_lt _ _ hx) (rotr_lt _ _ hx)) (div_lt64 _ _ hx)
theorem bs0_lt (x : Nat) (hx : x < 2 ^ 64) : bs0 x < 2 ^ 64 := Nat.xor_lt_two_pow (Nat.xor_lt_two_pow (rotr_lt _ _ hx) (rotr_lt _ _ hx)) (rotr_lt _ _ hx)
theorem bs1_lt (x : Nat) (hx : x < 2 ^ 64) : bs1 x < 2 ^ 64 := Nat.xor_lt_two_pow (Nat.xor_lt_two_pow (rotr_lt _ _ hx) (rotr_lt _ _ hx)) (rotr_lt _ _ hx)
theorem and_lt64 (x y : Nat) (hx : x < 2 ^ 64) : x &&& y < 2 ^ 64 := Nat.lt_of_le_of_lt Nat.and_le_left hx
theorem chs_lt (e f g : Nat) (he : e < 2 ^ 64) : chs e f g < 2 ^ 64 := Nat.xor_lt_two_pow (and_lt64 _ _ he) (and_lt64 _ _ (by omega))
theorem maj_lt (a b c : Nat) (ha : a < 2 ^ 64) (hb : b < 2 ^ 64) : maj a b c < 2 ^ 64 := Nat.xor_lt_two_pow (Nat.xor_lt_two_pow (and_lt64 _ _ ha) (and_lt64 _ _ ha)) (and_lt64 _ _ hb)

/-- The number that k bytes from place o on are, the highest first. -/
def be (f : Nat → Nat) (o : Nat) : Nat → Nat
  | 0 => 0
  | k + 1 => be f o k * 256 + f (o + k)
theorem be_lt (f : Nat → Nat) (hf : ∀ i, f i < 256) (o : Nat) : ∀ k, be f o k < 2 ^ (8 * k)
  | 0 => by simp [be]
  | k + 1 => by
    have := be_lt f hf o k
    have := hf (o + k)
    rw [be, show 8 * (k + 1) = 8 * k + 8 by omega, Nat.pow_add]
    omega
theorem be_congr (f g : Nat → Nat) (o : Nat) : ∀ k, (∀ j, j < k → f (o + j) = g (o + j)) → be f o k = be g o k
  | 0, _ => rfl
  | k + 1, h => by rw [be, be, be_congr f g o k (fun j hj => h j (by omega)), h k (by omega)]

def nxt (l : List Nat) : Nat := (l.getD 15 0 + l.getD 6 0 + sg0 (l.getD 14 0) + sg1 (l.getD 1 0)) % 2 ^ 64
/-- A block's words up to t, the last first. -/
def wl (f : Nat → Nat) : Nat → List Nat
  | 0 => [be f 0 8]
  | t + 1 => (if t + 1 < 16 then be f (8 * (t + 1)) 8 else nxt (wl f t)) :: wl f t
/-- A block's words. -/
def wt (f : Nat → Nat) (t : Nat) : Nat := (wl f t).headD 0
theorem wl_get (f : Nat → Nat) : ∀ t i, i ≤ t → (wl f t).getD i 0 = wt f (t - i)
  | 0, i, h => by
    obtain rfl : i = 0 := by omega
    rfl
  | t + 1, 0, _ => rfl
  | t + 1, i + 1, h => by
    rw [show t + 1 - (i + 1) = t - i by omega, ← wl_get f t i (by omega)]
    rfl
theorem wt_low (f : Nat → Nat) (t : Nat) (h : t < 16) : wt f t = be f (8 * t) 8 := by
  rcases t with _ | t
  · rfl
  · unfold wt wl
    rw [if_pos h]; rfl
theorem nxt_eq (l : List Nat) (a b c d : Nat) (h1 : l.getD 15 0 = a) (h2 : l.getD 6 0 = b) (h3 : l.getD 14 0 = c) (h4 : l.getD 1 0 = d) : nxt l = (a + b + sg0 c + sg1 d) % 2 ^ 64 := by
  subst h1 h2 h3 h4; rfl
theorem wt_succ (f : Nat → Nat) (s : Nat) (h : 15 ≤ s) : wt f (s + 1) = nxt (wl f s) := by
  show (if s + 1 < 16 then be f (8 * (s + 1)) 8 else nxt (wl f s)) = nxt (wl f s)
  rw [if_neg (by omega)]
theorem wt_next (f : Nat → Nat) (t : Nat) (h : 16 ≤ t) : wt f t = (wt f (t - 16) + wt f (t - 7) + sg0 (wt f (t - 15)) + sg1 (wt f (t - 2))) % 2 ^ 64 := by
  have e : wt f t = nxt (wl f (t - 1)) := by
    have := wt_succ f (t - 1) (by omega)
    rwa [Nat.sub_add_cancel (by omega)] at this
  rw [e]
  exact nxt_eq _ _ _ _ _ ((wl_get f (t - 1) 15 (by omega)).trans (congrArg _ (by omega))) ((wl_get f (t - 1) 6 (by omega)).trans (congrArg _ (by omega))) ((wl_get f (t - 1) 14 (by omega)).trans (congrArg _ (by omega))) ((wl_get f (t - 1) 1 (by omega)).trans (congrArg _ (by omega)))
theorem wt_lt (f : Nat → Nat) (hf : ∀ i, f i < 256) (t : Nat) : wt f t < 2 ^ 64 := by
  by_cases h : t < 16
  · rw [wt_low f t h]; exact be_lt f hf _ 8
  · rw [wt_next f t (by omega)]; exact Nat.mod_lt _ (by omega)
theorem wl_congr (f g : Nat → Nat) (h : ∀ j, j < 128 → f j = g j) : ∀ t, wl f t = wl g t
  | 0 => by rw [wl, wl, be_congr f g 0 8 fun j hj => h _ (by omega)]
  | t + 1 => by
    rw [wl, wl, wl_congr f g h t]
    by_cases ht : t + 1 < 16
    · rw [if_pos ht, if_pos ht, be_congr f g _ 8 fun j hj => h _ (by omega)]
    · rw [if_neg ht, if_neg ht]
theorem wt_congr (f g : Nat → Nat) (h : ∀ j, j < 128 → f j = g j) (t : Nat) : wt f t = wt g t := by unfold wt; rw [wl_congr f g h]

/-- The constants. -/
def kL : List Nat := [
  4794697086780616226, 8158064640168781261, 13096744586834688815, 16840607885511220156,
  4131703408338449720, 6480981068601479193, 10538285296894168987, 12329834152419229976,
  15566598209576043074, 1334009975649890238, 2608012711638119052, 6128411473006802146,
  8268148722764581231, 9286055187155687089, 11230858885718282805, 13951009754708518548,
  16472876342353939154, 17275323862435702243, 1135362057144423861, 2597628984639134821,
  3308224258029322869, 5365058923640841347, 6679025012923562964, 8573033837759648693,
  10970295158949994411, 12119686244451234320, 12683024718118986047, 13788192230050041572,
  14330467153632333762, 15395433587784984357, 489312712824947311, 1452737877330783856,
  2861767655752347644, 3322285676063803686, 5560940570517711597, 5996557281743188959,
  7280758554555802590, 8532644243296465576, 9350256976987008742, 10552545826968843579,
  11727347734174303076, 12113106623233404929, 14000437183269869457, 14369950271660146224,
  15101387698204529176, 15463397548674623760, 17586052441742319658, 1182934255886127544,
  1847814050463011016, 2177327727835720531, 2830643537854262169, 3796741975233480872,
  4115178125766777443, 5681478168544905931, 6601373596472566643, 7507060721942968483,
  8399075790359081724, 8693463985226723168, 9568029438360202098, 10144078919501101548,
  10430055236837252648, 11840083180663258601, 13761210420658862357, 14299343276471374635,
  14566680578165727644, 15097957966210449927, 16922976911328602910, 17689382322260857208,
  500013540394364858, 748580250866718886, 1242879168328830382, 1977374033974150939,
  2944078676154940804, 3659926193048069267, 4368137639120453308, 4836135668995329356,
  5532061633213252278, 6448918945643986474, 6902733635092675308, 7801388544844847127]
def kc (t : Nat) : Nat := kL.getD t 0
def hL : List Nat := [
  7640891576956012808, 13503953896175478587, 4354685564936845355, 11912009170470909681,
  5840696475078001361, 11170449401992604703, 2270897969802886507, 6620516959819538809]
def hc (i : Nat) : Nat := hL.getD i 0
theorem list_lt (l : List Nat) (hl : l.all (fun x => decide (x < 2 ^ 64)) = true) (t : Nat) : l.getD t 0 < 2 ^ 64 := by
  rw [List.getD_eq_getElem?_getD]
  cases h : l[t]? with
  | none => simp
  | some x => simpa using List.all_eq_true.1 hl x (List.mem_of_getElem? h)
theorem kc_lt (t : Nat) : kc t < 2 ^ 64 := list_lt kL (by decide +kernel) t
theorem hc_lt (t : Nat) : hc t < 2 ^ 64 := list_lt hL (by decide +kernel) t

structure V where
  a : Nat
  b : Nat
  c : Nat
  d : Nat
  e : Nat
  f : Nat
  g : Nat
  h : Nat
structure V.ok (v : V) : Prop where
  a : v.a < 2 ^ 64
  b : v.b < 2 ^ 64
  c : v.c < 2 ^ 64
  d : v.d < 2 ^ 64
  e : v.e < 2 ^ 64
  f : v.f < 2 ^ 64
  g : v.g < 2 ^ 64
  h : v.h < 2 ^ 64
def V.at (v : V) (i : Nat) : Nat := if i = 0 then v.a else if i = 1 then v.b else if i = 2 then v.c else if i = 3 then v.d else if i = 4 then v.e else if i = 5 then v.f else if i = 6 then v.g else v.h
def vx (k w : Nat) (v : V) : Nat := (v.h + bs1 v.e + chs v.e v.f v.g + k + w) % 2 ^ 64
def vy (v : V) : Nat := (bs0 v.a + maj v.a v.b v.c) % 2 ^ 64
def vstep (k w : Nat) (v : V) : V := ⟨(vx k w v + vy v) % 2 ^ 64, v.a, v.b, v.c, (v.d + vx k w v) % 2 ^ 64, v.e, v.f, v.g⟩
def rnd (W : Nat → Nat) (v : V) : Nat → V
  | 0 => v
  | t + 1 => vstep (kc t) (W t) (rnd W v t)
theorem rnd_ok (W : Nat → Nat) (v : V) (hv : v.ok) : ∀ t, (rnd W v t).ok
  | 0 => hv
  | t + 1 => by
    have h := rnd_ok W v hv t
    exact ⟨Nat.mod_lt _ (by omega), h.a, h.b, h.c, Nat.mod_lt _ (by omega), h.e, h.f, h.g⟩
theorem rnd_congr (W X : Nat → Nat) (v : V) : ∀ t, (∀ j, j < t → W j = X j) → rnd W v t = rnd X v t
  | 0, _ => rfl
  | t + 1, h => by rw [rnd, rnd, rnd_congr W X v t (fun j hj => h j (by omega)), h t (by omega)]
/-- Eight words as a to h. -/
def vof (H : Nat → Nat) : V := ⟨H 0, H 1, H 2, H 3, H 4, H 5, H 6, H 7⟩
theorem vof_ok (H : Nat → Nat) (h : ∀ i, H i < 2 ^ 64) : (vof H).ok := ⟨h _, h _, h _, h _, h _, h _, h _, h _⟩
theorem V.at_lt (v : V) (h : v.ok) (i : Nat) : v.at i < 2 ^ 64 := by
  unfold V.at
  obtain ⟨_, _, _, _, _, _, _, _⟩ := h
  repeat' split
  all_goals assumption
/-- What a block raises the words by. -/
def out (H f : Nat → Nat) (i : Nat) : Nat := (rnd (wt f) (vof H) 80).at i
theorem out_lt (H f : Nat → Nat) (h : ∀ i, H i < 2 ^ 64) (i : Nat) : out H f i < 2 ^ 64 := V.at_lt _ (rnd_ok _ _ (vof_ok H h) 80) i
theorem out_congr (H f g : Nat → Nat) (h : ∀ j, j < 128 → f j = g j) (i : Nat) : out H f i = out H g i := by
  unfold out; rw [rnd_congr (wt f) (wt g) _ 80 fun j _ => wt_congr f g h j]
theorem out_congr' (H G f : Nat → Nat) (h : ∀ j, j < 8 → H j = G j) (i : Nat) : out H f i = out G f i := by
  unfold out vof; rw [h 0 (by omega), h 1 (by omega), h 2 (by omega), h 3 (by omega), h 4 (by omega), h 5 (by omega), h 6 (by omega), h 7 (by omega)]
/-- Block k of a text. -/
def bk (m : List Nat) (k j : Nat) : Nat := m.getD (128 * k + j) 0
/-- The eight words behind k blocks of a text. -/
def hs (m : List Nat) : Nat → Nat → Nat
  | 0 => hc
  | k + 1 => fun i => (hs m k i + out (hs m k) (bk m k) i) % 2 ^ 64
theorem hs_lt (m : List Nat) : ∀ k i, hs m k i < 2 ^ 64
  | 0, i => hc_lt i
  | k + 1, i => Nat.mod_lt _ (by omega)
theorem getD_app (m l : List Nat) (i : Nat) (h : i < m.length) : (m ++ l).getD i 0 = m.getD i 0 := by
  rw [List.getD_eq_getElem?_getD, List.getD_eq_getElem?_getD, List.getElem?_append_left h]
theorem getD_app2 (m l : List Nat) (i : Nat) : (m ++ l).getD (m.length + i) 0 = l.getD i 0 := by
  rw [List.getD_eq_getElem?_getD, List.getD_eq_getElem?_getD, List.getElem?_append_right (by omega), Nat.add_sub_cancel_left]
theorem hs_app (m l : List Nat) : ∀ k, 128 * k ≤ m.length → hs (m ++ l) k = hs m k
  | 0, _ => rfl
  | k + 1, h => by
    funext i
    show (hs (m ++ l) k i + out (hs (m ++ l) k) (bk (m ++ l) k) i) % 2 ^ 64 = (hs m k i + out (hs m k) (bk m k) i) % 2 ^ 64
    rw [hs_app m l k (by omega), out_congr _ (bk (m ++ l) k) (bk m k) fun j hj => getD_app m l _ (by omega)]
/-- What is laid behind a text of n bytes. -/
def pz (n : Nat) : Nat := (239 - n % 128) % 128
def pd (n : Nat) : List Nat := 128 :: (List.replicate (pz n + 8) 0 ++ (List.range 8).map fun j => (8 * n) / 2 ^ (56 - 8 * j) % 256)
theorem pd_len (n : Nat) : (pd n).length = 1 + pz n + 16 := by unfold pd; simp; omega
theorem pd_mod (n : Nat) : (n + (1 + pz n + 16)) % 128 = 0 := by unfold pz; omega
/-- The digest. -/
def dg (m : List Nat) (j : Nat) : Nat := hs (m ++ pd m.length) ((m.length + (1 + pz m.length + 16)) / 128) (j / 8) / 2 ^ (56 - 8 * (j % 8)) % 256
theorem dg_lt (m : List Nat) (j : Nat) : dg m j < 256 := Nat.mod_lt _ (by omega)
theorem dg_abc : dg [97, 98, 99] 0 = 221 ∧ dg [97, 98, 99] 1 = 175 ∧ dg [97, 98, 99] 2 = 53 ∧ dg [97, 98, 99] 3 = 161 ∧ dg [97, 98, 99] 63 = 159 := by decide +kernel
end Go.Proofs.YtjnjedannpnjiaaDoor
