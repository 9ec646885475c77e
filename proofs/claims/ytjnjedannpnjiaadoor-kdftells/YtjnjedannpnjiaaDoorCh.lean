/- Walks: the method Sum. -/
import Derived.Test.YtjnjedannpnjiaaDoorCg
namespace Go.Proofs.YtjnjedannpnjiaaDoor
open Go.RowKit

theorem zero24 (w : World) : (zeroValue 27).run Tryd.prog w = .ok (.agg (vals .u8 64 (fun _ => 0))) w := by kernel_rfl
theorem zero50 (w : World) : (zeroValue 55).run Tryd.prog w = .ok (.agg (vals .u8 144 (fun _ => 0))) w := by kernel_rfl
theorem putWord_at (b o n len cap x : Nat) (f : Nat → Nat) (t : TypeId) (args : Array Value) (w : World) (h : args = #[.slice (some ⟨b, o, none⟩) len cap, .int .u64 x]) (hB : Blk w b (vals .u8 n f) t) (ho : o + 8 ≤ n) (hl : 8 ≤ len) (hx : x < 2 ^ 64) :
    Calls Tryd.prog 29 args w fun e w' => e = .returned (.tuple #[]) ∧ Blk w' b (vals .u8 n (lay f o x 8)) t ∧ Sto b w w' := by
  subst h; exact putWord_any b o n len cap x f t w hB ho hl hx
/-- The bytes of the end. -/
def e0 (j : Nat) : Nat := if j = 0 then 128 else 0
theorem pz_lt (n : Nat) : pz n < 128 := by unfold pz; omega
def eg (n : Nat) : Nat → Nat := lay (lay e0 (1 + pz n) 0 8) (1 + pz n + 8) (8 * n) 8
theorem wb_zero (j : Nat) : wb 0 j = 0 := by unfold wb; rw [Nat.zero_div]
theorem pd_get (n i x : Nat) (h : (pd n)[i]? = some x) : eg n i = x := by
  unfold pd at h
  unfold eg lay
  rcases i with _ | i
  · rw [if_neg (by omega), if_neg (by omega)]
    simpa [e0] using h
  · rw [List.getElem?_cons_succ] at h
    by_cases h1 : i < pz n + 8
    · rw [List.getElem?_append_left (by simpa using h1), List.getElem?_replicate, if_pos h1] at h
      rw [if_neg (by omega)]
      obtain rfl := Option.some.inj h
      split
      · exact wb_zero _
      · simp [e0]
    · rw [List.getElem?_append_right (by simpa using h1), List.length_replicate, List.getElem?_map] at h
      by_cases h2 : i - (pz n + 8) < 8
      · rw [List.getElem?_range h2] at h
        obtain rfl := Option.some.inj h
        rw [if_pos (by omega), show i + 1 - (1 + pz n + 8) = i - (pz n + 8) by omega]
        rfl
      · rw [List.getElem?_eq_none (by simpa using h2)] at h
        cases h
theorem pd_lt (n x : Nat) (h : x ∈ pd n) : x < 256 := by
  unfold pd at h
  rcases List.mem_cons.1 h with rfl | h
  · omega
  · rcases List.mem_append.1 h with h | h
    · have := List.eq_of_mem_replicate h; omega
    · obtain ⟨j, _, rfl⟩ := List.mem_map.1 h
      exact Nat.mod_lt _ (by omega)
/-- The digest so far. -/
def dk (r : Nat → Nat) (k j : Nat) : Nat := if j < 8 * k then wb (hd r (j / 8)) (j % 8) else 0
theorem dk_next (r : Nat → Nat) (k j : Nat) : lay (dk r k) (8 * k) (hd r k) 8 j = dk r (k + 1) j := by
  unfold lay dk
  by_cases h1 : 8 * k ≤ j ∧ j < 8 * k + 8
  · rw [if_pos h1, if_pos (by omega), show j / 8 = k by omega, show j % 8 = j - 8 * k by omega]
  · rw [if_neg h1]
    by_cases h2 : j < 8 * k
    · rw [if_pos h2, if_pos (by omega)]
    · rw [if_neg h2, if_neg (by omega)]
theorem dg_of {r f : Nat → Nat} {n : Nat} {m : List Nat} (h : Rep r f n (m ++ pd m.length)) (j : Nat) (hj : j < 64) : dk r 8 j = dg m j := by
  unfold dk dg
  rw [if_pos (by omega), h.head (j / 8) (by omega), h.len, List.length_append, pd_len]
  rfl
set_option maxRecDepth 100000 in
set_option maxHeartbeats 2000000 in
theorem sum_any (r f : Nat → Nat) (n : Nat) (m : List Nat) (w : World) (hG : Glob w) (hR : Rep r f n m) (hs : n < 2 ^ 60) :
    Calls Tryd.prog 25 #[.agg (stc r f n)] w fun e w' => e = .returned (.agg (vals .u8 64 (dg m))) ∧ Below w.heap.size w w' := by
  have HG := hide hG
  have HR := hide hR
  have Hs := hide hs
  have hz1 := zero24
  have hz2 := zero50
  clear hG hR hs
  go_enter Tryd.func25, Tryd.ntmps25
  go_upto_region 2 with (fail)
  have B1 := hide (((Blk.new w (stc r f n) 47).alloc (.cells (vals .u8 64 (fun _ => 0)) 27)).alloc (.cells (vals .u8 144 (fun _ => 0)) 55))
  have B2 := hide ((Blk.new' (w.alloc (.cells (stc r f n) 47)) (w.heap.size + 1) (by simp) (vals .u8 64 (fun _ => 0)) 27).alloc (.cells (vals .u8 144 (fun _ => 0)) 55))
  have B3 := hide (Blk.new' ((w.alloc (.cells (stc r f n) 47)).alloc (.cells (vals .u8 64 (fun _ => 0)) 27)) (w.heap.size + 1 + 1) (by simp) (vals .u8 144 (fun _ => 0)) 55)
  have L1 : Hid (Below w.heap.size w (((w.alloc (.cells (stc r f n) 47)).alloc (.cells (vals .u8 64 (fun _ => 0)) 27)).alloc (.cells (vals .u8 144 (fun _ => 0)) 55))) := hide ((((Below.refl _ w).alloc (Nat.le_refl _) _).alloc (by simp) _).alloc (by simp; omega) _)
  clear hz1 hz2
  generalize (((w.alloc (.cells (stc r f n) 47)).alloc (.cells (vals .u8 64 (fun _ => 0)) 27)).alloc (.cells (vals .u8 144 (fun _ => 0)) 55)) = w1 at *
  have c0 := B3.out.cell 0
  rw [vals_get _ _ _ _ (by omega)] at c0
  have fr0 := B3.out.frozen 0
  go_upto_region 3 with (fail)
  have B4 := hide (B1.out.setOther (b' := w.heap.size + 1 + 1) 0 (.int .u8 128) (by omega))
  have B5 := hide (B2.out.setOther (b' := w.heap.size + 1 + 1) 0 (.int .u8 128) (by omega))
  have B6 : Hid (Blk (w1.setCell ⟨w.heap.size + 1 + 1, 0, none⟩ (.int .u8 128)) (w.heap.size + 1 + 1) (vals .u8 144 e0) 55) := hide ((B3.out.set 0 (.int .u8 128)).cast (by rw [show (128 : Int) = ((128 : Nat) : Int) from rfl, vals_set]; rfl))
  have L2 := hide (L1.out.setCell (p := ⟨w.heap.size + 1 + 1, 0, none⟩) (by show w.heap.size ≤ w.heap.size + 1 + 1; omega) (.int .u8 128))
  clear c0 fr0 B1 B2 B3 L1
  generalize w1.setCell ⟨w.heap.size + 1 + 1, 0, none⟩ (.int .u8 128) = w2 at *
  obtain ⟨z, hz⟩ : ∃ z, z = pz n := ⟨_, rfl⟩
  obtain ⟨y, hy⟩ : ∃ y, y = n % 128 := ⟨_, rfl⟩
  obtain ⟨b, hb⟩ : ∃ b, b = 1 + z := ⟨_, rfl⟩
  have hc := B4.out.cell 136
  rw [stc_long] at hc
  have hr1 : (n : Int).tmod 128 = (y : Int) := by rw [hy]; exact rem128 n
  have hr2 : (n : Int) % 128 = (y : Int) := by omega
  have hr3 : IntKind.u64.wrap (239 - (y : Int)) = ((239 - y : Nat) : Int) := by rw [wrap_u64']; omega
  have hr4 : ((239 - y : Nat) : Int).tmod 128 = (z : Int) := by rw [rem128, hz, pz, hy]
  have hr5 : ((239 - y : Nat) : Int) % 128 = (z : Int) := by rw [hz, pz, ← hy]; omega
  have hr6 : IntKind.u64.wrap (1 + (z : Int)) = (b : Int) := by rw [wrap_u64', hz]; have := pz_lt n; omega
  have Hz := hide hz
  have Hy := hide hy
  have Hb := hide hb
  clear hz hy hb
  obtain ⟨x, hx⟩ : ∃ x, x = 239 - y := ⟨_, rfl⟩
  rw [← hx] at hr3 hr4 hr5
  clear hx
  go_upto_region 5 with (fail)
  clear hr1 hr2 hr3 hr4 hr5 hr6
  have Hbb : Hid (1 ≤ b ∧ b ≤ 128) := hide (by have := Hb.out; have := Hz.out; have := pz_lt n; omega)
  have hb0 : (0 : Int) ≤ (b : Int) := by omega
  have hb1 : (b : Int) ≤ 144 := by have := Hbb.out; omega
  have hb2 : ¬ 144 = b := by have := Hbb.out; omega
  have hsh : (n : Int) / 2305843009213693952 = 0 := by have := Hs.out; omega
  go_region_held3 (fun w' => w'.cell? ⟨w.heap.size, 136, none⟩ = some (.int .u64 n)) (first | exact hc | exact (S7.out.other _ _ _ (by omega) B4.out.drew).cell 136 ▸ stc_long r f n) ((go_at_call 29; refine (putWord_at (w.heap.size + 1 + 1) b 144 (144 - b) (144 - b) 0 e0 55 _ _ (by rfl) B6.out.drew (by have := Hbb.out; omega) (by have := Hbb.out; omega) (by omega)).mono ?_; rintro e w3 ⟨rfl, B7, S7'⟩; have S7 := hide S7'; have HB7 := hide B7; clear B7 S7'))
  have B8 := hide (S7.out.other _ _ _ (by omega) B4.out.drew)
  have B9 := hide (S7.out.other _ _ _ (by omega) B5.out.drew)
  have L3 := hide (S7.out.low _ _ L2.out.drew (by omega))
  clear S7 B4 B5 B6 L2 hc hsh
  have hc := B8.out.cell 136
  rw [stc_long] at hc
  obtain ⟨b8, hb8⟩ : ∃ b8, b8 = b + 8 := ⟨_, rfl⟩
  obtain ⟨n8, hn8⟩ : ∃ n8, n8 = 8 * n := ⟨_, rfl⟩
  have hsh : IntKind.u64.wrap ((n : Int) * 8) = (n8 : Int) := by have := Hs.out; rw [wrap_u64']; omega
  have hw8 : IntKind.u64.wrap ((b : Int) + 8) = (b8 : Int) := by have := Hbb.out; rw [wrap_u64']; omega
  have hb30 : (0 : Int) ≤ (b8 : Int) := by omega
  have hb31 : (b8 : Int) ≤ 144 := by have := Hbb.out; omega
  have hb32 : ¬ 144 = b8 := by have := Hbb.out; omega
  have Hb8 := hide hb8
  have Hn8 := hide hn8
  clear hb8 hn8
  go_wp2
  go_region_held3 (fun w' => w'.cell? ⟨w.heap.size, 136, none⟩ = some (.int .u64 n)) (first | exact hc | exact (S7.out.other _ _ _ (by omega) B8.out.drew).cell 136 ▸ stc_long r f n) ((go_at_call 29; refine (putWord_at (w.heap.size + 1 + 1) b8 144 (144 - b8) (144 - b8) n8 (lay e0 b 0 8) 55 _ _ (by rfl) HB7.out.drew (by have := Hbb.out; have := Hb8.out; omega) (by have := Hbb.out; have := Hb8.out; omega) (by have := Hn8.out; have := Hs.out; omega)).mono ?_; rintro e w4 ⟨rfl, B7, S7'⟩; have S7 := hide S7'; have HB10 := hide B7; clear B7 S7'))
  have B11 := hide (S7.out.other _ _ _ (by omega) B8.out.drew)
  have B12 := hide (S7.out.other _ _ _ (by omega) B9.out.drew)
  have L4 := hide (S7.out.low _ _ L3.out.drew (by omega))
  clear S7 B8 B9 HB7 L3 hc hsh hw8 hb30 hb31 hb32 hb0 hb1 hb2
  have B13 : Hid (Blk w4 (w.heap.size + 1 + 1) (vals .u8 144 (eg n)) 55) := hide (HB10.out.cast (by unfold eg; rw [Hn8.out, Hb8.out, Hb.out, Hz.out]))
  clear HB10
  obtain ⟨len, hlen⟩ : ∃ len, len = (pd n).length := ⟨_, rfl⟩
  have hle : IntKind.u64.wrap ((b : Int) + 16) = (len : Int) := by rw [hlen, pd_len, wrap_u64']; have := Hb.out; have := Hz.out; have := Hbb.out; omega
  have hl0 : (0 : Int) ≤ (len : Int) := by omega
  have hl1 : (len : Int) ≤ 144 := by rw [hlen, pd_len]; have := Hb.out; have := Hz.out; have := Hbb.out; omega
  have Hlen := hide hlen
  have HlN : Hid (len ≤ 144) := hide (by omega)
  clear hlen
  have HRd : Hid (Rds w4 (some ⟨w.heap.size + 1 + 1, 0, none⟩) (pd n)) := hide (Or.inr ⟨_, rfl, B13.out.lt, fun i x hx => by
    have h1 : i < len := by rw [Hlen.out]; exact (List.getElem?_eq_some_iff.1 hx).1
    rw [Addr.add_mid, Nat.zero_add, B13.out.cell i, vals_get _ _ _ _ (by have := HlN.out; omega), pd_get n i x hx]⟩)
  go_wp2
  refine wp_region_held_drew (S := fun _ => True) (by kernel_rfl) trivial (fun hHeld => ?_)
  refine wpAnyH_take (i := 1) (oi := { dst := some 30, op := Op.move (Operand.tmp 5), type := 44, pos := "sha.go:75", after := #[], guard := none }) (v := .int .u64 b) rfl (by kernel_rfl) (by kernel_rfl) (by kernel_rfl) (fun _ _ _ h => h) (Or.inl ⟨by rfl, fun w hSw => by go_simp⟩) hHeld ?_
  try simp only [Act.put, List.setIfInBounds_toArray, List.set_cons_zero, List.set_cons_succ]
  refine wpAnyH_take (i := 2) (oi := { dst := some 31, op := Op.binOp BinOp.add 44 (Operand.tmp 30) (Operand.const (Value.int IntKind.u64 16)) 44, type := 44, pos := "sha.go:75", after := #[{ on := 1, ground := Ground.data }], guard := none }) (v := .int .u64 len) rfl (by kernel_rfl) (by kernel_rfl) (by kernel_rfl) (fun _ _ _ h => h) (Or.inl ⟨by rfl, fun w hSw => by go_simp⟩) hHeld ?_
  try simp only [Act.put, List.setIfInBounds_toArray, List.set_cons_zero, List.set_cons_succ]
  refine wpAnyH_take (i := 3) (oi := { dst := some 32, op := Op.slice 55 (Operand.tmp 3) none (some (Operand.tmp 31)) none, type := 23, pos := "sha.go:75", after := #[{ on := 2, ground := Ground.data }], guard := none }) (v := .slice (some ⟨w.heap.size + 1 + 1, 0, none⟩) len 144) rfl (by kernel_rfl) (by kernel_rfl) (by kernel_rfl) (fun _ _ _ h => h) (Or.inl ⟨by rfl, fun w hSw => by go_simp⟩) hHeld ?_
  try simp only [Act.put, List.setIfInBounds_toArray, List.set_cons_zero, List.set_cons_succ]
  refine wpAnyH_ready (rs := [0]) (by kernel_rfl) (by simp) ?_
  refine AllReadyH.cons (o := { dst := some 29, op := Op.load 47 (Operand.tmp 1), type := 47, pos := "sha.go:75", after := #[], guard := none }) rfl (fun K hK => ?_) AllReadyH.nil
  rw [if_pos (by rfl)]
  refine wp_load_row 47 _ rfl w.heap.size rfl 47 _ (0, 0) _ B11.out.drew Tryd.underlying47 rfl (by rw [stc_size]; exact cells31) ?_
  refine hK.out _ _ trivial (fun hHeld => ?_)
  clear hK K
  try simp only [Act.put, List.setIfInBounds_toArray, List.set_cons_zero, List.set_cons_succ]
  refine wpAnyH_ready (rs := [4]) (by kernel_rfl) (by simp) ?_
  refine AllReadyH.cons (o := { dst := some 33, op := Op.call { callee := Callee.value (Operand.func 24), args := #[Operand.tmp 29, Operand.tmp 32], argTypes := #[47, 23] }, type := 47, pos := "sha.go:75", after := #[{ on := 0, ground := Ground.data }, { on := 3, ground := Ground.data }], guard := none }) rfl (fun K hK => ?_) AllReadyH.nil
  go_simp
  refine (write_at r f n m (pd n) (some ⟨w.heap.size + 1 + 1, 0, none⟩) 144 _ _ (by rw [← Hlen.out]) ((HG.out.low L4.out).drew) HR.out (pd_lt n) (HRd.out.low (Below.refl _ w4).drew) (by rw [← Hlen.out]; exact HlN.out) (by rw [← Hlen.out]; have := HlN.out; have := Hs.out; omega)).mono ?_
  rintro e w5 ⟨r2, f2, n2, rfl, hR2, hb5⟩
  have B14 := hide (B11.out.drew.call hb5)
  have B15 := hide (B12.out.drew.call hb5)
  have L5 := hide (L4.out.drew.trans (hb5.mono L4.out.size))
  have HR2 := hide hR2
  clear hb5 hR2
  dsimp only
  refine hK.out _ _ trivial (fun hHeld => ?_)
  clear hK K
  try simp only [Act.put, List.setIfInBounds_toArray, List.set_cons_zero, List.set_cons_succ]
  refine wpAnyH_ready (rs := [5]) (by kernel_rfl) (by simp) ?_
  refine AllReadyH.cons (o := { dst := none, op := Op.store 47 (Operand.tmp 1) (Operand.tmp 33), type := 0, pos := "sha.go:75", after := #[{ on := 4, ground := Ground.data }, { on := 4, ground := Ground.chain }, { on := 0, ground := Ground.phase }, { on := 1, ground := Ground.phase }, { on := 2, ground := Ground.phase }, { on := 3, ground := Ground.phase }, { on := 4, ground := Ground.phase }], guard := none }) rfl (fun K hK => ?_) AllReadyH.nil
  rw [if_pos (by rfl)]
  refine wp_store_row 47 _ _ rfl w.heap.size (stc r2 f2 n2) rfl rfl 47 _ B14.out (by rw [stc_size]; exact cells31) (by rw [stc_size, stc_size]) (stc_one _ _ _) ?_
  refine hK.out _ _ trivial (fun hHeld => ?_)
  clear hK K
  simp only [Act.put]
  refine wpAnyH_done (by kernel_rfl) ?_ _
  have B16 := hide (B14.out.row (stc r2 f2 n2))
  have B17 := hide (B15.out.rowOther (b' := w.heap.size) (stc r2 f2 n2) (by omega))
  have L6 := hide (Below.row L5.out (Nat.le_refl _) (stc r2 f2 n2))
  clear B11 B12 B13 B14 B15 L4 L5 HRd hle hl0 hl1
  generalize w5.setRow w.heap.size (stc r2 f2 n2) = w6 at *
  have hz1 := zero24
  go_upto_region 9 with (fail)
  clear hz1
  have B18 := hide (Blk.new w6 (vals .u8 64 (fun _ => 0)) 27)
  have B19 := hide (B16.out.alloc (.cells (vals .u8 64 (fun _ => 0)) 27))
  have B20 := hide (B17.out.alloc (.cells (vals .u8 64 (fun _ => 0)) 27))
  have L7 := hide (L6.out.alloc L6.out.size (.cells (vals .u8 64 (fun _ => 0)) 27))
  have Hd1 : Hid (w.heap.size < w6.heap.size ∧ w.heap.size + 1 < w6.heap.size) := hide ⟨B16.out.lt, B17.out.lt⟩
  clear B16 B17 L6
  generalize w6.alloc (.cells (vals .u8 64 (fun _ => 0)) 27) = w7 at *
  generalize w6.heap.size = bd at *
  go_wp2
  go_loopw [34] (fun i wr => ∃ k : Nat, k ≤ 8 ∧ i = .int .i64 k ∧ Blk wr bd (vals .u8 64 (dk r2 k)) 27 ∧ Blk wr w.heap.size (stc r2 f2 n2) 47 ∧ Blk wr (w.heap.size + 1) (vals .u8 64 (fun _ => 0)) 27 ∧ Below w.heap.size w wr) (fun i _ => 8 - (intOf i).toNat)
  case atStart => exact ⟨0, by omega, rfl, B18.out.cast (vals_congr _ _ _ _ fun j _ => by simp [dk]), B19.out, B20.out, L7.out⟩
  case round =>
    clear B18 B19 B20 L7
    obtain ⟨k, hk, rfl, Bd, Bs, Bz, L⟩ := hrel
    by_cases hlt : k < 8
    · have c0 := (HG.out.low L).cell0 k
      rw [arr_get _ _ _ hlt] at c0
      have cr := Bs.cell k
      rw [stc_r _ _ _ _ hlt] at cr
      have HBd := hide Bd
      have HBs := hide Bs
      have HBz := hide Bz
      have HL := hide L
      clear Bd Bs Bz L
      have hk0 : (0 : Int) ≤ (k : Int) := by omega
      have hk8 : (k : Int) < 8 := by omega
      have hm : IntKind.i64.wrap (8 * (k : Int)) = 8 * (k : Int) := wrap_i64_small' _ (by omega) (by omega)
      have hm0 : (0 : Int) ≤ 8 * (k : Int) := by omega
      have hm1 : 8 * (k : Int) ≤ 64 := by omega
      have hm2 : (8 * (k : Int)).toNat = 8 * k := by omega
      have hm3 : ¬ 64 = 8 * k := by omega
      have hw := hd_int r2 k
      obtain ⟨hk', ehk⟩ : ∃ h, h = hd r2 k := ⟨_, rfl⟩
      rw [← ehk] at hw
      have Hh := hide ehk
      have Hhl : Hid (hk' < 2 ^ 64) := hide (by rw [ehk]; exact hd_lt r2 k)
      clear ehk
      go_wp2
      go_region_held3 (fun w' => w'.cell? ⟨0, k, none⟩ = some (.int .u64 (hc k : Nat)) ∧ w'.cell? ⟨w.heap.size, k, none⟩ = some (.int .u64 (r2 k : Nat))) (first | exact ⟨c0, cr⟩ | exact ⟨((HG.out.low (S7.out.low _ _ HL.out.drew (Nat.le_of_lt Hd1.out.1))).cell0 k).trans (arr_get _ _ _ hlt), ((S7.out.other _ _ _ (Nat.ne_of_gt Hd1.out.1) HBs.out.drew).cell k).trans (stc_r _ _ _ _ hlt)⟩) ((go_at_call 29; refine (putWord_at bd (8 * k) 64 (64 - 8 * k) (64 - 8 * k) hk' (dk r2 k) 27 _ _ (by rfl) HBd.out.drew (by omega) (by omega) Hhl.out).mono ?_; rintro e w3 ⟨rfl, B7, S7'⟩; have S7 := hide S7'; have HB7 := hide B7; clear B7 S7'))
      go_wp2
      go_roundw
      case rel =>
        refine ⟨k + 1, by omega, by go_num, HB7.out.cast ?_, S7.out.other _ _ _ (Nat.ne_of_gt Hd1.out.1) HBs.out.drew, S7.out.other _ _ _ (Nat.ne_of_gt Hd1.out.2) HBz.out.drew, S7.out.low _ _ HL.out.drew (Nat.le_of_lt Hd1.out.1)⟩
        rw [Hh.out]
        exact vals_congr _ _ _ _ fun j _ => dk_next r2 k j
      case measure => simp [intOf]; omega
    · have e4 : k = 8 := by omega
      subst e4
      have hmn : n = m.length := HR.out.len
      have HB := hide (Bd.cast (vals_congr _ 64 _ (dg m) fun j hj => dg_of (by have := HR2.out; rwa [hmn] at this) j hj))
      have HBz := hide Bz
      have HL := hide L
      clear Bd Bs Bz L hmn
      go_wp2_with (first
        | (refine wpList_load_row rfl 27 _ rfl bd rfl 27 _ (0, 0) _ HB.out Tryd.underlying27 rfl (by rw [vals_size]; exact cells24) ?_)
        | (refine wpList_store_row rfl 27 _ _ rfl (w.heap.size + 1) (vals .u8 64 (dg m)) rfl rfl 27 _ HBz.out (by rw [vals_size]; exact cells24) (by rw [vals_size, vals_size]) (vals_one _ _ _) ?_))
      refine bodyPost_ret (v := .agg (vals .u8 64 (dg m))) (results_cell_row Tryd.results25 _ _ (w.heap.size + 1) 27 _ (0, 0) _ rfl (HBz.out.row _) Tryd.underlying27 rfl (by rw [vals_size]; exact cells24)) rfl ⟨rfl, ?_⟩
      exact Below.row HL.out (by omega) _
theorem sum_at (r f : Nat → Nat) (n : Nat) (m : List Nat) (args : Array Value) (w : World) (h : args = #[.agg (stc r f n)]) (hG : Glob w) (hR : Rep r f n m) (hs : n < 2 ^ 60) :
    Calls Tryd.prog 25 args w fun e w' => e = .returned (.agg (vals .u8 64 (dg m))) ∧ Below w.heap.size w w' := by
  subst h; exact sum_any r f n m w hG hR hs
end Go.Proofs.YtjnjedannpnjiaaDoor
