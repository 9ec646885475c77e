/- Walks: Sum. -/
import Derived.Test.YtjnjedannpnjiaaDoorCh
namespace Go.Proofs.YtjnjedannpnjiaaDoor
open Go.RowKit

/-- A part: where it lies, its bytes, its capacity. -/
abbrev Pt := Option Addr × List Nat × Nat
def Prt (w : World) (P : Option Addr) (ps : List Pt) : Prop := ps = [] ∨ ∃ a, P = some a ∧ a.block < w.heap.size ∧ ∀ (i : Nat) (q : Pt), ps[i]? = some q → w.cell? (a.add i) = some (.slice q.1 q.2.1.length q.2.2)
def PtOk (w : World) (ps : List Pt) : Prop := ∀ q ∈ ps, Rds w q.1 q.2.1 ∧ q.2.1.length ≤ q.2.2 ∧ ∀ x ∈ q.2.1, x < 256
/-- All the bytes. -/
def cat (ps : List Pt) : List Nat := ps.flatMap (·.2.1)
theorem add_block (a : Addr) (i : Nat) : (a.add i).block = a.block := by unfold Addr.add; split <;> rfl
theorem Prt.low {w w' : World} {A : Option Addr} {l : List Pt} (h : Prt w A l) (hb : Below w.heap.size w w') : Prt w' A l := by
  rcases h with h | ⟨a, ha, hlt, hc⟩
  · exact Or.inl h
  · refine Or.inr ⟨a, ha, Nat.lt_of_lt_of_le hlt hb.size, fun i x hx => ?_⟩
    rw [hb.cell (p := a.add i) (by rw [add_block]; exact hlt)]
    exact hc i x hx
theorem PtOk.low {w w' : World} {l : List Pt} (h : PtOk w l) (hb : Below w.heap.size w w') : PtOk w' l := fun q hq => ⟨(h q hq).1.low hb, (h q hq).2⟩
theorem cat_succ (ps : List Pt) (k : Nat) (q : Pt) (h : ps[k]? = some q) : cat (ps.take (k + 1)) = cat (ps.take k) ++ q.2.1 := by
  unfold cat
  rw [List.take_add_one, h]
  simp
theorem cat_len (ps : List Pt) (k : Nat) (q : Pt) (h : ps[k]? = some q) : (cat (ps.take k)).length + q.2.1.length ≤ (cat ps).length := by
  have e : cat ps = cat (ps.take (k + 1)) ++ cat (ps.drop (k + 1)) := by
    unfold cat; rw [← List.flatMap_append, List.take_append_drop]
  rw [e, cat_succ ps k q h]
  simp only [List.length_append]; omega
set_option maxRecDepth 100000 in
set_option maxHeartbeats 1000000 in
theorem all_any (P : Option Addr) (ps : List Pt) (pcap : Nat) (w : World) (hG : Glob w) (hP : Prt w P ps) (hO : PtOk w ps) (hs : (cat ps).length < 2 ^ 60) (hp : ps.length < 2 ^ 62) :
    Calls Tryd.prog 22 #[.slice P ps.length pcap] w fun e w' => e = .returned (.agg (vals .u8 64 (dg (cat ps)))) ∧ Below w.heap.size w w' := by
  have HG := hide hG
  have HP := hide hP
  have HO := hide hO
  have Hs := hide hs
  have Hp := hide hp
  have hz1 := zero24
  have hz2 := zero31
  clear hG hP hO hs hp
  have B0 := hide (Blk.new w (vals .u8 64 (fun _ => 0)) 27)
  have L0 := hide ((Below.refl w.heap.size w).alloc (Nat.le_refl _) (.cells (vals .u8 64 (fun _ => 0)) 27))
  go_enter Tryd.func22, Tryd.ntmps22
  go_wp2_with (first
    | (go_at_call 23; refine (new_any _).mono ?_; rintro e k1 ⟨rfl, hb⟩; have B1 := hide (B0.out.call hb); have L1 := hide (L0.out.trans (hb.mono L0.out.size)); clear hb; dsimp only)
    | (refine wpList_store_abs rfl 47 _ _ rfl k1.heap.size (stc (fun _ => 0) (fun _ => 0) 0) rfl rfl 47 _ (Blk.new k1 _ _) (by rw [stc_size]; exact cells31) (by simp only [stc_size]) (stc_one _ _ _) ?_; intro k2 Bn Sn; have B2 := hide (Sn.other _ _ _ (Nat.ne_of_gt B1.out.lt) (B1.out.alloc _)); have L2 := hide (Sn.low _ _ (L1.out.alloc L1.out.size _) L1.out.size); have Hlt := hide B1.out.lt; have B3 := hide Bn; clear Bn Sn B1 L1))
  clear hz1 hz2 B0 L0
  generalize k1.heap.size = bs at *
  go_loopw [9] (fun i wr => ∃ (k : Nat) (r f : Nat → Nat) (n : Nat), k ≤ ps.length ∧ i = .int .i64 k ∧ Rep r f n (cat (ps.take k)) ∧ Blk wr bs (stc r f n) 47 ∧ Blk wr w.heap.size (vals .u8 64 (fun _ => 0)) 27 ∧ Below w.heap.size w wr) (fun i _ => ps.length - (intOf i).toNat)
  case atStart => exact ⟨0, _, _, 0, by omega, rfl, rep_none, B3.out, B2.out, L2.out⟩
  case round =>
    clear B3 B2 L2
    obtain ⟨k, r, f, n, hk, rfl, hR, Bs, Bz, L⟩ := hrel
    have HR := hide hR
    have HBs := hide Bs
    have HBz := hide Bz
    have HL := hide L
    clear hR Bs Bz L
    by_cases hlt : k < ps.length
    · obtain ⟨q, hq⟩ : ∃ q, ps[k]? = some q := ⟨_, List.getElem?_eq_getElem hlt⟩
      obtain ⟨a, rfl, hab, hac⟩ : ∃ a, P = some a ∧ a.block < w.heap.size ∧ ∀ (i : Nat) (q : Pt), ps[i]? = some q → w.cell? (a.add i) = some (.slice q.1 q.2.1.length q.2.2) := by
        rcases HP.out with h | h
        · rw [h] at hlt; simp at hlt
        · exact h
      have hcell : wr.cell? (a.add k) = some (.slice q.1 q.2.1.length q.2.2) := by
        rw [HL.out.cell (p := a.add k) (by rw [add_block]; exact hab)]; exact hac k q hq
      obtain ⟨pa, hpa⟩ : ∃ pa, pa = a.add k := ⟨_, rfl⟩
      obtain ⟨A, l, cp⟩ := q
      have hO := HO.out _ (List.mem_of_getElem? hq)
      have HO' := hide hO
      have Hq := hide hq
      dsimp only at hcell HO'
      clear hac hab hO hq
      have hk0 : (0 : Int) ≤ (k : Int) := by omega
      have hkl : (k : Int) < (ps.length : Int) := by omega
      have Hsz : Hid (n + l.length < 2 ^ 61) := hide (by have h1 := cat_len ps k _ Hq.out; have := HR.out.len; have := Hs.out; dsimp only at h1; omega)
      have Hct : Hid (cat (ps.take (k + 1)) = cat (ps.take k) ++ l) := hide (cat_succ ps k _ Hq.out)
      have hkm : IntKind.i64.wrap ((k : Int) + 1) = (k : Int) + 1 := by
        have := Hp.out
        simp [IntKind.wrap, IntKind.bits, IntKind.signed]; omega
      go_wp2_with (first
        | (refine wpList_load_row rfl 47 _ rfl bs rfl 47 _ (0, 0) _ HBs.out Tryd.underlying47 rfl (by rw [stc_size]; exact cells31) ?_)
        | (go_at_call 24; refine (write_at r f n (cat (ps.take k)) l A cp _ _ rfl (HG.out.low HL.out) HR.out HO'.out.2.2 (HO'.out.1.low HL.out) HO'.out.2.1 Hsz.out).mono ?_; rintro e w4 ⟨r2, f2, n2, rfl, hR2, hb⟩; have B5 := hide (HBs.out.call hb); have B6 := hide (HBz.out.call hb); have L5 := hide (HL.out.trans (hb.mono HL.out.size)); have HR2 := hide hR2; clear hb hR2; dsimp only)
        | (refine wpList_store_row rfl 47 _ _ rfl bs (stc r2 f2 n2) rfl rfl 47 _ B5.out (by rw [stc_size]; exact cells31) (by rw [stc_size, stc_size]) (stc_one _ _ _) ?_))
      go_roundw
      case rel => exact ⟨k + 1, r2, f2, n2, by omega, by go_num, by rw [Hct.out]; exact HR2.out, B5.out.row _, B6.out.rowOther _ (Nat.ne_of_gt Hlt.out), Below.row L5.out (Nat.le_of_lt Hlt.out) _⟩
      case measure => simp [intOf]; omega
    · have e4 : k = ps.length := by omega
      subst e4
      have Hall : Hid (cat (ps.take ps.length) = cat ps) := hide (by rw [List.take_length])
      have HRa : Hid (Rep r f n (cat ps)) := hide (by rw [← Hall.out]; exact HR.out)
      have Hsz : Hid (n < 2 ^ 60) := hide (by have := HRa.out.len; have := Hs.out; omega)
      go_wp2_with (first
        | (refine wpList_load_row rfl 47 _ rfl bs rfl 47 _ (0, 0) _ HBs.out Tryd.underlying47 rfl (by rw [stc_size]; exact cells31) ?_)
        | (go_at_call 25; refine (sum_at r f n (cat ps) _ _ rfl (HG.out.low HL.out) HRa.out Hsz.out).mono ?_; rintro e w4 ⟨rfl, hb⟩; have B6 := hide (HBz.out.call hb); have L5 := hide (HL.out.trans (hb.mono HL.out.size)); clear hb; dsimp only)
        | (refine wpList_store_row rfl 27 _ _ rfl w.heap.size (vals .u8 64 (dg (cat ps))) rfl rfl 27 _ B6.out (by rw [vals_size]; exact cells24) (by rw [vals_size, vals_size]) (vals_one _ _ _) ?_))
      refine bodyPost_ret (v := .agg (vals .u8 64 (dg (cat ps)))) (results_cell_row Tryd.results22 _ _ w.heap.size 27 _ (0, 0) _ rfl (B6.out.row _) Tryd.underlying27 rfl (by rw [vals_size]; exact cells24)) rfl ⟨rfl, ?_⟩
      exact Below.row L5.out (Nat.le_refl _) _
theorem all_at (P : Option Addr) (ps : List Pt) (pcap : Nat) (args : Array Value) (w : World) (h : args = #[.slice P ps.length pcap]) (hG : Glob w) (hP : Prt w P ps) (hO : PtOk w ps) (hs : (cat ps).length < 2 ^ 60) (hp : ps.length < 2 ^ 62) :
    Calls Tryd.prog 22 args w fun e w' => e = .returned (.agg (vals .u8 64 (dg (cat ps)))) ∧ Below w.heap.size w w' := by
  subst h; exact all_any P ps pcap w hG hP hO hs hp
end Go.Proofs.YtjnjedannpnjiaaDoor
