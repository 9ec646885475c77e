/- What is sealed is opened; the walk of awake. The variables places and kept as they are laid; no other condition but those that each names. -/
import Derived.Test.YtanahjoiilfcbaaDoorZe
namespace Go.Proofs.YtanahjoiilfcbaaDoor.E
set_option maxRecDepth 100000
open Go.RowKit Rg

theorem sld_fst (key nonce : Nat → Nat) (m : Nat) (h : Nat → Nat) (n : Nat) (f : Nat → Nat) (i : Nat) (hi : i < n) : sld key nonce m h n f i = C.sx key 1 nonce f i := by
  unfold sld cat; rw [if_pos hi]
theorem sld_snd (key nonce : Nat → Nat) (m : Nat) (h : Nat → Nat) (n : Nat) (f : Nat → Nat) (i : Nat) : sld key nonce m h n f (n + i) = tga key nonce m h n (C.sx key 1 nonce f) i := by
  unfold sld cat; rw [if_neg (by omega), Nat.add_sub_cancel_left]
theorem ok_iff (key nonce : Nat → Nat) (m : Nat) (h : Nat → Nat) (n : Nat) (f : Nat → Nat) : okO key nonce m h (n + 16) f = true ↔ ∀ i, i < 16 → tga key nonce m h n f i = f (n + i) := by
  unfold okO
  rw [decide_eq_true (show 16 ≤ n + 16 by omega), Bool.true_and, Nat.add_sub_cancel, decide_eq_true_iff]
  exact df_zero _ _ _
theorem ok_sealed (key nonce : Nat → Nat) (m : Nat) (h : Nat → Nat) (n : Nat) (f : Nat → Nat) : okO key nonce m h (n + 16) (sld key nonce m h n f) = true := by
  rw [ok_iff]
  intro i _
  rw [sld_snd, tga_congr key nonce m h (sld_fst key nonce m h n f)]
theorem sx_sealed (key nonce : Nat → Nat) (m : Nat) (h : Nat → Nat) (n : Nat) (f : Nat → Nat) (i : Nat) (hi : i < n) : C.sx key 1 nonce (sld key nonce m h n f) i = f i := by
  have e := C.sx_twice key 1 nonce f i
  have e2 := sld_fst key nonce m h n f i hi
  unfold C.sx at *
  rw [e2]; exact e
theorem open_sealed (key nonce : Nat → Nat) (hk : ∀ i, key i < 256) (hn : ∀ i, nonce i < 256) (T : Option Addr) (n cn : Nat) (f : Nat → Nat) (hf : ∀ i, f i < 256) (B : Option Addr) (m cm : Nat) (h : Nat → Nat) (hh : ∀ i, h i < 256) (hn2 : n ≤ 1984) (hm2 : m ≤ 2000) (hcn : n + 16 ≤ cn) (hcm : m ≤ cm) (w : World) (hG0 : Gl w 0 (vals .i64 32 C.pl)) (hG1 : Gl w 1 (vals .u64 2 kp)) (hT : Rd w T (n + 16) (sld key nonce m h n f)) (hB : Rd w B m h) :
    RetV 12 #[A (vals .u8 32 key), A (vals .u8 12 nonce), .slice T (n + 16) cn, .slice B m cm] w (fun s => .tuple #[s, .int .i64 0]) n f := by
  have e := open_c key nonce hk hn T (n + 16) cn (sld key nonce m h n f) (seal_lt hf) B m cm h hh (by omega) hm2 hcn hcm w hG0 hG1 hT hB
  rw [ok_sealed] at e
  unfold opN opE at e
  rw [show (bif true then n + 16 - 16 else 0) = n from Nat.add_sub_cancel ..] at e
  refine Calls.mono e fun r w' hh => ?_
  obtain ⟨S, c, h1, h2, h3, h4⟩ := hh
  exact ⟨S, c, h1, h2, h3, h4.congr fun i hi => sx_sealed key nonce m h n f i hi⟩
section
variable {ρ : Operand → Value} {o : Oper} {x y : Operand}
theorem b_strf {A : Option Addr} {n c : Nat} {f : Nat → Nat} (w : World) (hA : Rd w A n f) (hf : ∀ i, f i < 256) (ho : o.op = .convert 25 9 x := by rfl) (hx : ρ x = .slice A n c := by kernel_rfl) : (execOp ρ o).run Tryd.prog w = .ok (.value (.string (C.sk (C.li n f)))) w :=
  C.b_str w (rds_of hA) (C.li_lt n f hf) (C.li_len n f) ho hx
end
section
variable {o o2 : Oper} {a : Act} {u w : World} {L : List Row} {Q : Exit → Act → World → Prop} {ops : Array Oper} {rest : List Oper}
theorem g_lt (hO : Own u w L) (n : Nat) (f : Nat → Nat) {x : Operand} (h : ∀ q w', Below w.heap.size w w' → Own u w' L → Rd w' (some ⟨q, 0, none⟩) n f → WL ops Q rest ((a.put o.dst (.slice (some ⟨q, 0, none⟩) n n)).put o2.dst (.slice (some ⟨q, 0, none⟩) n n)) w') (hrun : (execOp a.eval o).run Tryd.prog w = .ok (.value (.slice (some ⟨w.heap.size, 0, none⟩) n n)) (w.alloc (.cells (vals .u8 n f) 5)) := by kernel_rfl) (ho2 : o2.op = .convert 25 25 x := by rfl) (hx : ∀ q, (a.put o.dst (.slice (some ⟨q, 0, none⟩) n n)).eval x = .slice (some ⟨q, 0, none⟩) n n := by intro q; kernel_rfl)
    (hg : Region.wanted o (yielded ops a.tmps) = true := by kernel_rfl) (hg2 : ∀ q, Region.wanted o2 (yielded ops (a.put o.dst (.slice (some ⟨q, 0, none⟩) n n)).tmps) = true := by intro q; kernel_rfl) : WL ops Q (o :: o2 :: rest) a w :=
  g_lit (Own.start w) n f (fun q w' hO' hC => h q w' hO'.low (hO.call hO'.low) (rd_cel hC)) hrun ho2 hx hg hg2
end
theorem b_seq {ρ : Operand → Value} {o : Oper} {x y : Operand} {s t : ByteArray} (h : s = t) (w : World) (ho : o.op = .binOp .eql 9 x y 9 := by rfl) (hx : ρ x = .string s := by kernel_rfl) (hy : ρ y = .string t := by kernel_rfl) : (execOp ρ o).run Tryd.prog w = .ok (.value (.bool true)) w := by
  subst h
  unfold execOp
  simp only [ho, hx, hy]
  go_simp
def k7 (i : Nat) : Nat := if i = 0 then 7 else 0
def n5 (i : Nat) : Nat := if i = 0 then 5 else 0
def abc : Nat → Nat := ge [97, 98, 99]
def dd : Nat → Nat := ge [100]
theorem k7_lt (i : Nat) : k7 i < 256 := by unfold k7; split <;> decide
theorem n5_lt (i : Nat) : n5 i < 256 := by unfold n5; split <;> decide
theorem abc_lt (i : Nat) : abc i < 256 := ge_lt (by decide) i
theorem dd_lt (i : Nat) : dd i < 256 := ge_lt (by decide) i
theorem bd_k7 : Tryd.prog.built 23 [(0, .int .u8 7)] = some (vals .u8 32 k7) := by kernel_rfl
theorem bd_n5 : Tryd.prog.built 24 [(0, .int .u8 5)] = some (vals .u8 12 n5) := by kernel_rfl
theorem abc_str : C.sk (C.li 3 abc) = { data := #[97, 98, 99] } := by decide +kernel
set_option maxHeartbeats 8000000 in
theorem awake_c (w : World) (hG0 : Gl w 0 (vals .i64 32 C.pl)) (hG1 : Gl w 1 (vals .u64 2 kp)) : Ret 9 #[] w (.bool true) := by
  obtain ⟨K, hK⟩ : ∃ K, Hid (k7 = K) := ⟨_, hide rfl⟩
  obtain ⟨N, hN⟩ : ∃ N, Hid (n5 = N) := ⟨_, hide rfl⟩
  obtain ⟨Z, hZ⟩ : ∃ Z, Hid (sld k7 n5 1 dd 3 abc = Z) := ⟨_, hide rfl⟩
  have HS : Hid (∀ q r w', Below w.heap.size w w' → Rd w' (some ⟨q, 0, none⟩) 3 abc → Rd w' (some ⟨r, 0, none⟩) 1 dd → RetW 10 #[A (vals .u8 32 K), A (vals .u8 12 N), .slice (some ⟨q, 0, none⟩) 3 3, .slice (some ⟨r, 0, none⟩) 1 1] w' (fun s => .tuple #[s, .int .i64 0]) 19 Z) := hide fun q r w' hb h1 h2 => by
    rw [← hK.out, ← hN.out, ← hZ.out]
    exact seal_c k7 n5 k7_lt n5_lt _ 3 3 abc abc_lt _ 1 1 dd dd_lt (by decide) (by decide) (by decide) w' (hG0.low hb) (hG1.low hb) h1 h2
  have HP : Hid (∀ q d r w', Below w.heap.size w w' → Rd w' (some ⟨q, 0, none⟩) 19 Z → Rd w' (some ⟨r, 0, none⟩) 1 dd → RetV 12 #[A (vals .u8 32 K), A (vals .u8 12 N), .slice (some ⟨q, 0, none⟩) 19 (19 + d), .slice (some ⟨r, 0, none⟩) 1 1] w' (fun s => .tuple #[s, .int .i64 0]) 3 abc) := hide fun q d r w' hb h1 h2 => by
    rw [← hK.out, ← hN.out]
    rw [← hZ.out] at h1
    exact open_sealed k7 n5 k7_lt n5_lt _ 3 (19 + d) abc abc_lt _ 1 1 dd dd_lt (by decide) (by decide) (Nat.le_add_right _ _) (by decide) w' (hG0.low hb) (hG1.low hb) h1 h2
  have HE : Hid (∀ w', RetV 12 #[A (vals .u8 32 K), A (vals .u8 12 N), .slice none 0 0, .slice none 0 0] w' (fun s => .tuple #[s, .int .i64 110]) 0 (fun _ => 0)) := hide fun w' => by
    have e := open_lt K N none 0 0 (fun _ => 0) none 0 0 w' (by decide)
    refine Calls.mono e fun r w'' hh => ?_
    obtain ⟨S, c, h1, h2, h3, _⟩ := hh
    exact ⟨S, c, h1, h2, h3, .inl rfl⟩
  have HBK : Hid (Tryd.prog.built 23 [(0, .int .u8 7)] = some (vals .u8 32 K)) := hide (hK.out ▸ bd_k7)
  have HBN : Hid (Tryd.prog.built 24 [(0, .int .u8 5)] = some (vals .u8 12 N)) := hide (hN.out ▸ bd_n5)
  clear hK hN hZ hG0 hG1
  go_enter Tryd.func9, Tryd.ntmps9
  have hO := Own.start w
  go_upto_region 0 with (fail)
  refine wp_region_list (WL.out ?_)
  refine g_val (.bool false) ?_
  refine g_nil ?_
  simp only [Act.put, List.setIfInBounds_toArray, List.set_cons_zero]
  go_upto_region 1 with (fail)
  refine wp_region_list (WL.out ?_)
  refine g_val (A (vals .u8 32 K)) ?_ (run_bd 23 _ rfl [(0, Nv .u8 7)] (by kernel_rfl) _ HBK.out w)
  refine g_new hO D (vals .u8 32 (fun _ => 0)) 23 (fit_b32 _) (al_b32 rfl w) ?_
  intro n1 w1 _ hO
  replace hO : Own w w1 [(n1, vals .u8 32 (fun _ => 0), 23)] := hO
  refine g_st hO 0 (e := vals .u8 32 K) rfl (fit_b32 _) ?_
  intro w2 hO
  replace hO : Own w w2 [(n1, vals .u8 32 K, 23)] := hO
  refine g_nil ?_
  simp only [Act.put, List.setIfInBounds_toArray, List.set_cons_succ, List.set_cons_zero]
  go_upto_region 2 with (fail)
  refine wp_region_list (WL.out ?_)
  refine g_ld hO 0 rfl Tryd.underlying23 ?_
  refine g_val (A (vals .u8 12 N)) ?_ (run_bd 24 _ rfl [(0, Nv .u8 5)] (by kernel_rfl) _ HBN.out w2)
  refine g_lt hO 3 abc ?_
  intro q1 w3 hbq1 hO hq1
  refine g_lt hO 1 dd ?_
  intro q2 w4 hbq2 hO hq2
  refine g_w hO 10 #[A (vals .u8 32 K), A (vals .u8 12 N), .slice (some ⟨q1, 0, none⟩) 3 3, .slice (some ⟨q2, 0, none⟩) 1 1] (fun s => .tuple #[s, .int .i64 0]) 19 Z (HS.out q1 q2 w4 hO.low (hq1.low hbq2) hq2) ?_
  intro n16 d16 w5 hb16 hO
  replace hO : Own w w5 [(n1, vals .u8 32 K, 23), (n16, vals .u8 (19 + d16) (C.mx Z 19), 5)] := hO
  refine g_val (.tuple #[.slice (some ⟨n16, 0, none⟩) 19 (19 + d16), .int .i64 0]) ?_
  refine g_val (.slice (some ⟨n16, 0, none⟩) 19 (19 + d16)) ?_
  refine g_val (.int .i64 0) ?_
  refine g_val (.slice (some ⟨n16, 0, none⟩) 19 (19 + d16)) ?_
  refine g_val (.int .i64 0) ?_
  refine g_nil ?_
  simp only [Act.put, List.setIfInBounds_toArray, List.set_cons_succ, List.set_cons_zero]
  clear hb16 hq1 hq2 hbq1 hbq2
  go_upto_region 3 with (fail)
  refine wp_region_list (WL.out ?_)
  refine g_ld hO 0 rfl Tryd.underlying23 ?_
  refine g_val (A (vals .u8 12 N)) ?_ (run_bd 24 _ rfl [(0, Nv .u8 5)] (by kernel_rfl) _ HBN.out w5)
  refine g_val (.slice (some ⟨n16, 0, none⟩) 19 (19 + d16)) ?_
  refine g_lt hO 1 dd ?_
  intro q3 w6 hbq3 hO hq3
  refine g_v hO 12 #[A (vals .u8 32 K), A (vals .u8 12 N), .slice (some ⟨n16, 0, none⟩) 19 (19 + d16), .slice (some ⟨q3, 0, none⟩) 1 1] (fun s => .tuple #[s, .int .i64 0]) 3 abc (HP.out n16 d16 q3 w6 hO.low (rd_blk (hO.row 1 rfl) (Nat.le_add_right _ _)) hq3) ?_
  intro S25 c25 w7 hb25 hO hn25 hR25
  refine g_val (.tuple #[.slice S25 3 c25, .int .i64 0]) ?_
  refine g_val (.slice S25 3 c25) ?_
  refine g_val (.int .i64 0) ?_
  refine g_val (.slice S25 3 c25) ?_
  refine g_val (.int .i64 0) ?_
  refine g_nil ?_
  simp only [Act.put, List.setIfInBounds_toArray, List.set_cons_succ, List.set_cons_zero]
  clear hb25 hn25 hq3 hbq3
  go_upto_region 4 with (fail)
  refine wp_region_list (WL.out ?_)
  refine g_ld hO 0 rfl Tryd.underlying23 ?_
  refine g_val (A (vals .u8 12 N)) ?_ (run_bd 24 _ rfl [(0, Nv .u8 5)] (by kernel_rfl) _ HBN.out w7)
  refine g_v hO 12 #[A (vals .u8 32 K), A (vals .u8 12 N), .slice none 0 0, .slice none 0 0] (fun s => .tuple #[s, .int .i64 110]) 0 (fun _ => 0) (HE.out w7) ?_
  intro S31 c31 w8 hb31 hO hn31 hR31
  refine g_val (.tuple #[.slice S31 0 c31, .int .i64 110]) ?_
  refine g_val (.slice S31 0 c31) ?_
  refine g_val (.int .i64 110) ?_
  refine g_val (.slice S31 0 c31) ?_
  refine g_val (.int .i64 110) ?_
  refine g_nil ?_
  simp only [Act.put, List.setIfInBounds_toArray, List.set_cons_succ, List.set_cons_zero]
  replace hR25 := hR25.low hb31
  clear hb31 hn31 hR31
  go_upto_region 5 with (fail)
  refine wp_region_list (WL.out ?_)
  refine g_val (.slice (some ⟨n16, 0, none⟩) 19 (19 + d16)) ?_
  refine g_val (Nv .i64 19) ?_
  refine g_val (.bool true) ?_
  refine g_val (.bool true) ?_
  refine g_val (.int .i64 0) ?_
  refine g_val (.bool true) ?_
  refine g_val (.bool true) ?_
  refine g_val (.bool true) ?_
  refine g_val (.slice S25 3 c25) ?_
  refine g_val (.string (C.sk (C.li 3 abc))) ?_ (b_strf (c := c25) w8 hR25 abc_lt)
  refine g_val (.bool true) ?_ (b_seq abc_str w8)
  refine g_val (.bool true) ?_
  refine g_val (.bool true) ?_
  refine g_val (.int .i64 0) ?_
  refine g_val (.bool true) ?_
  refine g_val (.bool true) ?_
  refine g_val (.bool true) ?_
  refine g_val (.int .i64 110) ?_
  refine g_val (.bool true) ?_
  refine g_val (.bool true) ?_
  refine g_val (.bool true) ?_
  refine g_nil ?_
  simp only [Act.put, List.setIfInBounds_toArray, List.set_cons_succ, List.set_cons_zero]
  have HL := hide hO.low
  clear hO hR25 HS HP HE HBK HBN
  go_wp2_with (fail)
  go_ret
  exact ⟨rfl, HL.out⟩
end Go.Proofs.YtanahjoiilfcbaaDoor.E
