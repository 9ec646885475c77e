/- MacSame's walk. -/
import Derived.Test.YtaegklfomecmfaaDoorMp
import Derived.Test.YtaegklfomecmfaaDoorKe
import Derived.Laws.IdiomStrings
namespace Go.Proofs.YtaegklfomecmfaaDoor
open Go.RowKit

/-- A list's bytes as a string. -/
def sk (k : List Nat) : ByteArray := ⟨(k.map UInt8.ofNat).toArray⟩
theorem conv_str (w : World) (A : Option Addr) (k : List Nat) (ca : Nat) (hA : Rds w A k) (hk : ∀ x ∈ k, x < 256) : (convert 22 9 (.slice A k.length ca)).run Tryd.prog w = .ok (.string (sk k)) w := by
  have h9 : Tryd.prog.underlying 9 = some .string := by kernel_rfl
  cases A with
  | none =>
    rcases hA with rfl | ⟨a, ha, _⟩
    · rw [run_convert_bytes_nil w 22 5 Tryd.underlying22 Tryd.underlying5 _ _ 9 h9]; rfl
    · cases ha
  | some a =>
    have hc : ∀ j (hj : j < (k.map UInt8.ofNat).length), w.cell? (a.add j) = some (.int .u8 ((k.map UInt8.ofNat)[j].toNat : Int)) := by
      intro j hj
      rw [List.length_map] at hj
      obtain ⟨a', ha, _, hc⟩ := rds_some hA hj
      obtain rfl := Option.some.inj ha
      rw [hc, List.getElem_map, List.getD_eq_getElem?_getD, List.getElem?_eq_getElem hj, Option.getD_some]
      have := hk k[j] (List.getElem_mem hj)
      rw [UInt8.toNat_ofNat', Nat.mod_eq_of_lt this]
    have := run_convert_bytes_back (P := Tryd.prog) w 22 9 5 a ca (k.map UInt8.ofNat) Tryd.underlying22 Tryd.underlying5 h9 hc
    rw [List.length_map] at this
    exact this
theorem map_inj : ∀ (k l : List Nat), (∀ x ∈ k, x < 256) → (∀ x ∈ l, x < 256) → k.map UInt8.ofNat = l.map UInt8.ofNat → k = l
  | [], [], _, _, _ => rfl
  | [], _ :: _, _, _, h => by cases h
  | _ :: _, [], _, _, h => by cases h
  | a :: k, b :: l, hk, hl, h => by
    rw [List.map_cons, List.map_cons] at h
    injection h with h1 h2
    have h3 := congrArg UInt8.toNat h1
    rw [UInt8.toNat_ofNat', UInt8.toNat_ofNat', Nat.mod_eq_of_lt (hk a (List.mem_cons_self ..)), Nat.mod_eq_of_lt (hl b (List.mem_cons_self ..))] at h3
    rw [h3, map_inj k l (fun x hx => hk x (List.mem_cons_of_mem _ hx)) (fun x hx => hl x (List.mem_cons_of_mem _ hx)) h2]
theorem sk_eq (k l : List Nat) (hk : ∀ x ∈ k, x < 256) (hl : ∀ x ∈ l, x < 256) : ((sk k).toList == (sk l).toList) = decide (k = l) := by
  rw [ByteArray.toList_eq, ByteArray.toList_eq]
  have e : ∀ t, (sk t).data.toList = t.map UInt8.ofNat := fun t => by unfold sk; simp
  rw [e, e]
  by_cases h : k = l
  · subst h; simp
  · rw [decide_eq_false h, beq_eq_false_iff_ne]
    exact fun e => h (map_inj k l hk hl e)
theorem same_r (h0 : SameOk) (A B : Option Addr) (k l : List Nat) (ca cb : Nat) (r : Bool) (args : Array Value) (w : World) (hr : decide (k = l) = r) (h : args = #[.slice A k.length ca, .slice B l.length cb]) (hA : Rds w A k) (hca : k.length ≤ ca) (hk : ∀ x ∈ k, x < 256) (hB : Rds w B l) (hcb : l.length ≤ cb) (hl : ∀ x ∈ l, x < 256) (hs : k.length < 2 ^ 62) :
    Calls Tryd.prog 11 args w fun e w' => e = .returned (.bool r) ∧ Below w.heap.size w w' := by
  rw [← hr]; exact h0 A k ca B l cb args w h hA hca hk hB hcb hl hs
/-- append to an empty literal. -/
theorem app_new (w : World) (g : Nat) (A : Option Addr) (k : List Nat) (ca : Nat) (hA : Rds w A k) (h0 : 0 < k.length) (hl : k.length ≤ 2 ^ 47) :
    ∃ (c : Nat) (cells : Array Value), (∀ ty, (Builtin.append_ #[22, 22] ty #[.slice (some ⟨g, 0, none⟩) 0 0, .slice A k.length ca]).run Tryd.prog w = .ok (.slice (some ⟨w.heap.size, 0, none⟩) k.length c) (w.drew.alloc (.cells cells 5))) ∧ k.length ≤ c ∧ ∀ (i : Nat) (x : Nat), k[i]? = some x → cells[i]? = some (.int .u8 (x : Nat)) := by
  have h : ((Tryd.prog.info? 5).map fun i => (decide (i.size = 1), decide (i.bytes = 1))) = some (true, true) := by kernel_rfl
  have hz : ((Tryd.prog.info? 5).bind (·.zero)) = some (.int .u8 0) := by kernel_rfl
  cases hi : Tryd.prog.info? 5 with
  | none => rw [hi] at h; cases h
  | some i =>
    rw [hi] at h hz
    simp at h
    have hold : (Builtin.firstCells i.size 0 (.slice (some ⟨g, 0, none⟩) 0 0)).run Tryd.prog w.drew = .ok ([] : List Value).toArray w.drew := run_firstCells_some w.drew i.size 0 ⟨g, 0, none⟩ 0 0 [] (by simp) (fun j y hy => by cases hy)
    have hb : (bv8 k).length = k.length := bv8_len k
    have hs := src_rds ca hA
    have hr := fun ty => run_append_grow_src (P := Tryd.prog) w 22 22 ty 5 i (.int .u8 0) Tryd.underlying22 hi hz (some ⟨g, 0, none⟩) 0 0 [] hold (.slice A k.length ca) (bv8 k).length (bv8 k) (by rw [h.1]; exact hs) (by omega) (by omega) (growslice_fits (by omega) (by rw [h.2]; omega))
    rw [hb, Nat.zero_add] at hr
    refine ⟨_, _, hr, grownCap_ge w k.length 0 5, fun j x hx => ?_⟩
    have hjl := (List.getElem?_eq_some_iff.1 hx).1
    rw [Array.getElem?_append_left (by simpa [bv8_len] using hjl), List.getElem?_toArray, List.nil_append]
    unfold bv8
    rw [List.getElem?_map, hx]; rfl
theorem set_same (k : List Nat) (p y : Nat) (hp : p < k.length) : decide (k = k.set p (k.getD p 0 ^^^ y)) = decide (y = 0) := by
  have hg : k[p]? = some (k.getD p 0) := by rw [List.getD_eq_getElem?_getD, List.getElem?_eq_getElem hp]; rfl
  by_cases h : y = 0
  · rw [decide_eq_true h, decide_eq_true_iff, h, Nat.xor_zero]
    apply List.ext_getElem?
    intro i
    rw [List.getElem?_set]
    by_cases hi : p = i
    · subst hi; rw [if_pos rfl, if_pos hp]; exact hg
    · rw [if_neg hi]
  · rw [decide_eq_false h, decide_eq_false_iff_not]
    intro e
    have := congrArg (fun t => t[p]?) e
    simp only [List.getElem?_set, if_pos hp, if_true] at this
    rw [hg] at this
    have h2 := Option.some.inj this
    apply h
    have h3 : k.getD p 0 ^^^ k.getD p 0 = k.getD p 0 ^^^ (k.getD p 0 ^^^ y) := by rw [← h2]
    rw [Nat.xor_self, ← Nat.xor_assoc, Nat.xor_self, Nat.zero_xor] at h3
    exact h3.symm
def msOp0 : Oper := { dst := some 12, op := Op.move (Operand.tmp 0), type := 22, pos := "law.go:56", after := #[], guard := none }
def msOp1 : Oper := { dst := some 13, op := Op.move (Operand.tmp 1), type := 22, pos := "law.go:56", after := #[], guard := none }
def msOp2 : Oper := { dst := some 14, op := Op.call { callee := Callee.value (Operand.func 11), args := #[Operand.tmp 12, Operand.tmp 13], argTypes := #[22, 22] }, type := 4, pos := "law.go:56", after := #[{ on := 0, ground := Ground.data }, { on := 1, ground := Ground.data }], guard := none }
def msOp3 : Oper := { dst := some 15, op := Op.move (Operand.tmp 0), type := 22, pos := "law.go:56", after := #[], guard := none }
def msOp4 : Oper := { dst := some 16, op := Op.convert 22 9 (Operand.tmp 15), type := 9, pos := "law.go:56", after := #[{ on := 3, ground := Ground.data }], guard := none }
def msOp5 : Oper := { dst := some 17, op := Op.move (Operand.tmp 1), type := 22, pos := "law.go:56", after := #[], guard := none }
def msOp6 : Oper := { dst := some 18, op := Op.convert 22 9 (Operand.tmp 17), type := 9, pos := "law.go:56", after := #[{ on := 5, ground := Ground.data }], guard := none }
def msOp7 : Oper := { dst := some 19, op := Op.binOp BinOp.eql 9 (Operand.tmp 16) (Operand.tmp 18) 9, type := 4, pos := "law.go:56", after := #[{ on := 4, ground := Ground.data }, { on := 6, ground := Ground.data }], guard := none }
def msOp8 : Oper := { dst := some 20, op := Op.binOp BinOp.neq 4 (Operand.tmp 14) (Operand.tmp 19) 4, type := 4, pos := "law.go:56", after := #[{ on := 2, ground := Ground.data }, { on := 7, ground := Ground.data }], guard := none }
def msOps : Array Oper := #[msOp0, msOp1, msOp2, msOp3, msOp4, msOp5, msOp6, msOp7, msOp8]
set_option maxRecDepth 100000 in
set_option maxHeartbeats 1000000 in
theorem ms_0 (Q : Exit → Act → World → Prop) (hQ : ∀ c a w n v, Q (.panic c) (a.put (some n) v) w → Q (.panic c) a w) (u : World) (z2 z3 z4 z5 z6 z7 z8 z9 z10 z11 z12 z13 z14 z15 z16 z17 z18 z19 z20 z21 z22 z23 z24 z25 z26 z27 z28 z29 z30 z31 z32 z33 z34 z35 z36 z37 z38 z39 z40 z41 z42 z43 z44 z45 z46 z47 z48 z49 z50 z51 z52 z53 z54 z55 z56 z57 z58 z59 z60 z61 z62 z63 z64 z65 z66 z67 z68 z69 z70 : Value) (h0 : SameOk) (A B : Option Addr) (k l : List Nat) (ca cb : Nat) (r : Bool) (hr : decide (k = l) = r) (hstr : ((sk k).toList == (sk l).toList) = r) (HA : Rds u A k) (Hca : k.length ≤ ca) (Hk : ∀ x ∈ k, x < 256) (HB : Rds u B l) (Hcb : l.length ≤ cb) (Hl : ∀ x ∈ l, x < 256) (hsk : k.length < 2 ^ 62) (H : ∀ (w : World), Below u.heap.size u w → Q .normal { tmps := List.toArray ((.slice A k.length ca) :: (.slice B l.length cb) :: z2 :: z3 :: z4 :: z5 :: z6 :: z7 :: z8 :: z9 :: z10 :: z11 :: (.slice A k.length ca) :: (.slice B l.length cb) :: (.bool r) :: (.slice A k.length ca) :: (.string (sk k)) :: (.slice B l.length cb) :: (.string (sk l)) :: (.bool r) :: (.bool false) :: z21 :: z22 :: z23 :: z24 :: z25 :: z26 :: z27 :: z28 :: z29 :: z30 :: z31 :: z32 :: z33 :: z34 :: z35 :: z36 :: z37 :: z38 :: z39 :: z40 :: z41 :: z42 :: z43 :: z44 :: z45 :: z46 :: z47 :: z48 :: z49 :: z50 :: z51 :: z52 :: z53 :: z54 :: z55 :: z56 :: z57 :: z58 :: z59 :: z60 :: z61 :: z62 :: z63 :: z64 :: z65 :: z66 :: z67 :: z68 :: z69 :: z70 :: []), defers := [] } w) (w : World) (hS : Below u.heap.size u w) :
    wpAnyH Tryd.prog .any msOps Q (fun w' => Below u.heap.size u w') 0 (List.toArray (true :: true :: true :: true :: true :: true :: true :: true :: true :: [])) { tmps := List.toArray ((.slice A k.length ca) :: (.slice B l.length cb) :: z2 :: z3 :: z4 :: z5 :: z6 :: z7 :: z8 :: z9 :: z10 :: z11 :: (.slice A k.length ca) :: (.slice B l.length cb) :: (.bool r) :: (.slice A k.length ca) :: (.string (sk k)) :: (.slice B l.length cb) :: (.string (sk l)) :: (.bool r) :: (.bool false) :: z21 :: z22 :: z23 :: z24 :: z25 :: z26 :: z27 :: z28 :: z29 :: z30 :: z31 :: z32 :: z33 :: z34 :: z35 :: z36 :: z37 :: z38 :: z39 :: z40 :: z41 :: z42 :: z43 :: z44 :: z45 :: z46 :: z47 :: z48 :: z49 :: z50 :: z51 :: z52 :: z53 :: z54 :: z55 :: z56 :: z57 :: z58 :: z59 :: z60 :: z61 :: z62 :: z63 :: z64 :: z65 :: z66 :: z67 :: z68 :: z69 :: z70 :: []), defers := [] } w := by
  have _ := hQ
  have _ := u
  have _ := z2
  have _ := z3
  have _ := z4
  have _ := z5
  have _ := z6
  have _ := z7
  have _ := z8
  have _ := z9
  have _ := z10
  have _ := z11
  have _ := z12
  have _ := z13
  have _ := z14
  have _ := z15
  have _ := z16
  have _ := z17
  have _ := z18
  have _ := z19
  have _ := z20
  have _ := z21
  have _ := z22
  have _ := z23
  have _ := z24
  have _ := z25
  have _ := z26
  have _ := z27
  have _ := z28
  have _ := z29
  have _ := z30
  have _ := z31
  have _ := z32
  have _ := z33
  have _ := z34
  have _ := z35
  have _ := z36
  have _ := z37
  have _ := z38
  have _ := z39
  have _ := z40
  have _ := z41
  have _ := z42
  have _ := z43
  have _ := z44
  have _ := z45
  have _ := z46
  have _ := z47
  have _ := z48
  have _ := z49
  have _ := z50
  have _ := z51
  have _ := z52
  have _ := z53
  have _ := z54
  have _ := z55
  have _ := z56
  have _ := z57
  have _ := z58
  have _ := z59
  have _ := z60
  have _ := z61
  have _ := z62
  have _ := z63
  have _ := z64
  have _ := z65
  have _ := z66
  have _ := z67
  have _ := z68
  have _ := z69
  have _ := z70
  have _ := h0
  have _ := A
  have _ := B
  have _ := k
  have _ := l
  have _ := ca
  have _ := cb
  have _ := r
  have _ := hr
  have _ := hstr
  have _ := HA
  have _ := Hca
  have _ := Hk
  have _ := HB
  have _ := Hcb
  have _ := Hl
  have _ := hsk
  exact wpAnyH_done (by kernel_rfl) (H  w hS ) _
set_option maxRecDepth 100000 in
set_option maxHeartbeats 1000000 in
theorem ms_1 (Q : Exit → Act → World → Prop) (hQ : ∀ c a w n v, Q (.panic c) (a.put (some n) v) w → Q (.panic c) a w) (u : World) (z2 z3 z4 z5 z6 z7 z8 z9 z10 z11 z12 z13 z14 z15 z16 z17 z18 z19 z20 z21 z22 z23 z24 z25 z26 z27 z28 z29 z30 z31 z32 z33 z34 z35 z36 z37 z38 z39 z40 z41 z42 z43 z44 z45 z46 z47 z48 z49 z50 z51 z52 z53 z54 z55 z56 z57 z58 z59 z60 z61 z62 z63 z64 z65 z66 z67 z68 z69 z70 : Value) (h0 : SameOk) (A B : Option Addr) (k l : List Nat) (ca cb : Nat) (r : Bool) (hr : decide (k = l) = r) (hstr : ((sk k).toList == (sk l).toList) = r) (HA : Rds u A k) (Hca : k.length ≤ ca) (Hk : ∀ x ∈ k, x < 256) (HB : Rds u B l) (Hcb : l.length ≤ cb) (Hl : ∀ x ∈ l, x < 256) (hsk : k.length < 2 ^ 62) (H : ∀ (w : World), Below u.heap.size u w → Q .normal { tmps := List.toArray ((.slice A k.length ca) :: (.slice B l.length cb) :: z2 :: z3 :: z4 :: z5 :: z6 :: z7 :: z8 :: z9 :: z10 :: z11 :: (.slice A k.length ca) :: (.slice B l.length cb) :: (.bool r) :: (.slice A k.length ca) :: (.string (sk k)) :: (.slice B l.length cb) :: (.string (sk l)) :: (.bool r) :: (.bool false) :: z21 :: z22 :: z23 :: z24 :: z25 :: z26 :: z27 :: z28 :: z29 :: z30 :: z31 :: z32 :: z33 :: z34 :: z35 :: z36 :: z37 :: z38 :: z39 :: z40 :: z41 :: z42 :: z43 :: z44 :: z45 :: z46 :: z47 :: z48 :: z49 :: z50 :: z51 :: z52 :: z53 :: z54 :: z55 :: z56 :: z57 :: z58 :: z59 :: z60 :: z61 :: z62 :: z63 :: z64 :: z65 :: z66 :: z67 :: z68 :: z69 :: z70 :: []), defers := [] } w) (w : World) (hS : Below u.heap.size u w) :
    wpAnyH Tryd.prog .any msOps Q (fun w' => Below u.heap.size u w') 2 (List.toArray (true :: true :: false :: true :: true :: true :: true :: true :: false :: [])) { tmps := List.toArray ((.slice A k.length ca) :: (.slice B l.length cb) :: z2 :: z3 :: z4 :: z5 :: z6 :: z7 :: z8 :: z9 :: z10 :: z11 :: (.slice A k.length ca) :: (.slice B l.length cb) :: z14 :: (.slice A k.length ca) :: (.string (sk k)) :: (.slice B l.length cb) :: (.string (sk l)) :: (.bool r) :: z20 :: z21 :: z22 :: z23 :: z24 :: z25 :: z26 :: z27 :: z28 :: z29 :: z30 :: z31 :: z32 :: z33 :: z34 :: z35 :: z36 :: z37 :: z38 :: z39 :: z40 :: z41 :: z42 :: z43 :: z44 :: z45 :: z46 :: z47 :: z48 :: z49 :: z50 :: z51 :: z52 :: z53 :: z54 :: z55 :: z56 :: z57 :: z58 :: z59 :: z60 :: z61 :: z62 :: z63 :: z64 :: z65 :: z66 :: z67 :: z68 :: z69 :: z70 :: []), defers := [] } w := by
  refine wpAnyH_ready (rs := [2]) (by kernel_rfl) (by simp) ?_
  refine AllReadyH.cons (o := msOp2) rfl (fun K hK => ?_) AllReadyH.nil
  unfold msOp2
  go_simp
  refine (same_r h0 A B k l ca cb r _ w hr (by rfl) (HA.low hS) Hca Hk (HB.low hS) Hcb Hl hsk).mono ?_
  rintro e x ⟨rfl, hb⟩
  dsimp only
  have hS' := keepCall hb rfl hS
  refine hK.out _ _ hS' (fun _ => ?_)
  clear hK K
  simp only [List.setIfInBounds_toArray, List.set_cons_zero, List.set_cons_succ]
  refine wpAnyH_take (i := 8) (oi := msOp8) (v := .bool false) rfl (by kernel_rfl) (by kernel_rfl) (by kernel_rfl) (fun _ _ _ => hQ _ _ _ _ _) (Or.inl ⟨by rfl, fun w hSw => by unfold msOp8; go_simp⟩) hS' ?_
  try simp only [msOp8, Act.put, List.setIfInBounds_toArray, List.set_cons_zero, List.set_cons_succ]
  exact ms_0 Q hQ u z2 z3 z4 z5 z6 z7 z8 z9 z10 z11 z12 z13 z14 z15 z16 z17 z18 z19 z20 z21 z22 z23 z24 z25 z26 z27 z28 z29 z30 z31 z32 z33 z34 z35 z36 z37 z38 z39 z40 z41 z42 z43 z44 z45 z46 z47 z48 z49 z50 z51 z52 z53 z54 z55 z56 z57 z58 z59 z60 z61 z62 z63 z64 z65 z66 z67 z68 z69 z70 h0 A B k l ca cb r hr hstr HA Hca Hk HB Hcb Hl hsk H  x hS' 
set_option maxRecDepth 100000 in
set_option maxHeartbeats 1000000 in
theorem ms_region (Q : Exit → Act → World → Prop) (hQ : ∀ c a w n v, Q (.panic c) (a.put (some n) v) w → Q (.panic c) a w) (u : World) (z2 z3 z4 z5 z6 z7 z8 z9 z10 z11 z12 z13 z14 z15 z16 z17 z18 z19 z20 z21 z22 z23 z24 z25 z26 z27 z28 z29 z30 z31 z32 z33 z34 z35 z36 z37 z38 z39 z40 z41 z42 z43 z44 z45 z46 z47 z48 z49 z50 z51 z52 z53 z54 z55 z56 z57 z58 z59 z60 z61 z62 z63 z64 z65 z66 z67 z68 z69 z70 : Value) (h0 : SameOk) (A B : Option Addr) (k l : List Nat) (ca cb : Nat) (r : Bool) (hr : decide (k = l) = r) (hstr : ((sk k).toList == (sk l).toList) = r) (HA : Rds u A k) (Hca : k.length ≤ ca) (Hk : ∀ x ∈ k, x < 256) (HB : Rds u B l) (Hcb : l.length ≤ cb) (Hl : ∀ x ∈ l, x < 256) (hsk : k.length < 2 ^ 62) (H : ∀ (w : World), Below u.heap.size u w → Q .normal { tmps := List.toArray ((.slice A k.length ca) :: (.slice B l.length cb) :: z2 :: z3 :: z4 :: z5 :: z6 :: z7 :: z8 :: z9 :: z10 :: z11 :: (.slice A k.length ca) :: (.slice B l.length cb) :: (.bool r) :: (.slice A k.length ca) :: (.string (sk k)) :: (.slice B l.length cb) :: (.string (sk l)) :: (.bool r) :: (.bool false) :: z21 :: z22 :: z23 :: z24 :: z25 :: z26 :: z27 :: z28 :: z29 :: z30 :: z31 :: z32 :: z33 :: z34 :: z35 :: z36 :: z37 :: z38 :: z39 :: z40 :: z41 :: z42 :: z43 :: z44 :: z45 :: z46 :: z47 :: z48 :: z49 :: z50 :: z51 :: z52 :: z53 :: z54 :: z55 :: z56 :: z57 :: z58 :: z59 :: z60 :: z61 :: z62 :: z63 :: z64 :: z65 :: z66 :: z67 :: z68 :: z69 :: z70 :: []), defers := [] } w) :
    (Code.region 2 msOps true).wp Tryd.prog Q { tmps := List.toArray ((.slice A k.length ca) :: (.slice B l.length cb) :: z2 :: z3 :: z4 :: z5 :: z6 :: z7 :: z8 :: z9 :: z10 :: z11 :: z12 :: z13 :: z14 :: z15 :: z16 :: z17 :: z18 :: z19 :: z20 :: z21 :: z22 :: z23 :: z24 :: z25 :: z26 :: z27 :: z28 :: z29 :: z30 :: z31 :: z32 :: z33 :: z34 :: z35 :: z36 :: z37 :: z38 :: z39 :: z40 :: z41 :: z42 :: z43 :: z44 :: z45 :: z46 :: z47 :: z48 :: z49 :: z50 :: z51 :: z52 :: z53 :: z54 :: z55 :: z56 :: z57 :: z58 :: z59 :: z60 :: z61 :: z62 :: z63 :: z64 :: z65 :: z66 :: z67 :: z68 :: z69 :: z70 :: []), defers := [] } u := by
  refine wp_region_held_drew (S := (fun w' => Below u.heap.size u w')) (by kernel_rfl) (Below.refl _ _).drew (fun hS => ?_)
  refine wpAnyH_take (i := 0) (oi := msOp0) (v := .slice A k.length ca) rfl (by kernel_rfl) (by kernel_rfl) (by kernel_rfl) (fun _ _ _ => hQ _ _ _ _ _) (Or.inl ⟨by rfl, fun w hSw => by unfold msOp0; go_simp⟩) hS ?_
  try simp only [msOp0, Act.put, List.setIfInBounds_toArray, List.set_cons_zero, List.set_cons_succ]
  refine wpAnyH_take (i := 1) (oi := msOp1) (v := .slice B l.length cb) rfl (by kernel_rfl) (by kernel_rfl) (by kernel_rfl) (fun _ _ _ => hQ _ _ _ _ _) (Or.inl ⟨by rfl, fun w hSw => by unfold msOp1; go_simp⟩) hS ?_
  try simp only [msOp1, Act.put, List.setIfInBounds_toArray, List.set_cons_zero, List.set_cons_succ]
  refine wpAnyH_take (i := 3) (oi := msOp3) (v := .slice A k.length ca) rfl (by kernel_rfl) (by kernel_rfl) (by kernel_rfl) (fun _ _ _ => hQ _ _ _ _ _) (Or.inl ⟨by rfl, fun w hSw => by unfold msOp3; go_simp⟩) hS ?_
  try simp only [msOp3, Act.put, List.setIfInBounds_toArray, List.set_cons_zero, List.set_cons_succ]
  refine wpAnyH_take (i := 4) (oi := msOp4) (v := .string (sk k)) rfl (by kernel_rfl) (by kernel_rfl) (by kernel_rfl) (fun _ _ _ => hQ _ _ _ _ _) (Or.inl ⟨by rfl, fun w hSw => by have hc := conv_str w A k ca (HA.low hSw) Hk; unfold msOp4; go_simp⟩) hS ?_
  try simp only [msOp4, Act.put, List.setIfInBounds_toArray, List.set_cons_zero, List.set_cons_succ]
  refine wpAnyH_take (i := 5) (oi := msOp5) (v := .slice B l.length cb) rfl (by kernel_rfl) (by kernel_rfl) (by kernel_rfl) (fun _ _ _ => hQ _ _ _ _ _) (Or.inl ⟨by rfl, fun w hSw => by unfold msOp5; go_simp⟩) hS ?_
  try simp only [msOp5, Act.put, List.setIfInBounds_toArray, List.set_cons_zero, List.set_cons_succ]
  refine wpAnyH_take (i := 6) (oi := msOp6) (v := .string (sk l)) rfl (by kernel_rfl) (by kernel_rfl) (by kernel_rfl) (fun _ _ _ => hQ _ _ _ _ _) (Or.inl ⟨by rfl, fun w hSw => by have hc := conv_str w B l cb (HB.low hSw) Hl; unfold msOp6; go_simp⟩) hS ?_
  try simp only [msOp6, Act.put, List.setIfInBounds_toArray, List.set_cons_zero, List.set_cons_succ]
  refine wpAnyH_take (i := 7) (oi := msOp7) (v := .bool r) rfl (by kernel_rfl) (by kernel_rfl) (by kernel_rfl) (fun _ _ _ => hQ _ _ _ _ _) (Or.inl ⟨by rfl, fun w hSw => by have hc := hstr; unfold msOp7; go_simp⟩) hS ?_
  try simp only [msOp7, Act.put, List.setIfInBounds_toArray, List.set_cons_zero, List.set_cons_succ]
  exact ms_1 Q hQ u z2 z3 z4 z5 z6 z7 z8 z9 z10 z11 z12 z13 z14 z15 z16 z17 z18 z19 z20 z21 z22 z23 z24 z25 z26 z27 z28 z29 z30 z31 z32 z33 z34 z35 z36 z37 z38 z39 z40 z41 z42 z43 z44 z45 z46 z47 z48 z49 z50 z51 z52 z53 z54 z55 z56 z57 z58 z59 z60 z61 z62 z63 z64 z65 z66 z67 z68 z69 z70 h0 A B k l ca cb r hr hstr HA Hca Hk HB Hcb Hl hsk H u.drew hS
def mxOp0 : Oper := { dst := some 37, op := Op.move (Operand.tmp 10), type := 22, pos := "law.go:66", after := #[], guard := none }
def mxOp1 : Oper := { dst := some 38, op := Op.move (Operand.tmp 2), type := 3, pos := "law.go:66", after := #[], guard := none }
def mxOp2 : Oper := { dst := some 39, op := Op.move (Operand.tmp 0), type := 22, pos := "law.go:66", after := #[], guard := none }
def mxOp3 : Oper := { dst := some 40, op := Op.call { callee := Callee.builtin Builtin.len, args := #[Operand.tmp 39], argTypes := #[22] }, type := 3, pos := "law.go:66", after := #[{ on := 2, ground := Ground.data }], guard := none }
def mxOp4 : Oper := { dst := some 41, op := Op.binOp BinOp.rem 3 (Operand.tmp 38) (Operand.tmp 40) 3, type := 3, pos := "law.go:66", after := #[{ on := 1, ground := Ground.data }, { on := 3, ground := Ground.data }], guard := none }
def mxOp5 : Oper := { dst := some 42, op := Op.move (Operand.tmp 10), type := 22, pos := "law.go:66", after := #[], guard := none }
def mxOp6 : Oper := { dst := some 43, op := Op.move (Operand.tmp 2), type := 3, pos := "law.go:66", after := #[], guard := none }
def mxOp7 : Oper := { dst := some 44, op := Op.move (Operand.tmp 0), type := 22, pos := "law.go:66", after := #[], guard := none }
def mxOp8 : Oper := { dst := some 45, op := Op.call { callee := Callee.builtin Builtin.len, args := #[Operand.tmp 44], argTypes := #[22] }, type := 3, pos := "law.go:66", after := #[{ on := 7, ground := Ground.data }], guard := none }
def mxOp9 : Oper := { dst := some 46, op := Op.binOp BinOp.rem 3 (Operand.tmp 43) (Operand.tmp 45) 3, type := 3, pos := "law.go:66", after := #[{ on := 6, ground := Ground.data }, { on := 8, ground := Ground.data }], guard := none }
def mxOp10 : Oper := { dst := some 47, op := Op.indexAddr 22 (Operand.tmp 42) (Operand.tmp 46), type := 0, pos := "law.go:66", after := #[{ on := 5, ground := Ground.data }, { on := 9, ground := Ground.data }], guard := none }
def mxOp11 : Oper := { dst := some 48, op := Op.load 5 (Operand.tmp 47), type := 5, pos := "law.go:66", after := #[{ on := 10, ground := Ground.data }], guard := none }
def mxOp12 : Oper := { dst := some 49, op := Op.move (Operand.tmp 3), type := 5, pos := "law.go:66", after := #[], guard := none }
def mxOp13 : Oper := { dst := some 50, op := Op.binOp BinOp.xor 5 (Operand.tmp 48) (Operand.tmp 49) 5, type := 5, pos := "law.go:66", after := #[{ on := 11, ground := Ground.data }, { on := 12, ground := Ground.data }], guard := none }
def mxOp14 : Oper := { dst := some 51, op := Op.indexAddr 22 (Operand.tmp 37) (Operand.tmp 41), type := 0, pos := "law.go:66", after := #[{ on := 0, ground := Ground.data }, { on := 4, ground := Ground.data }, { on := 0, ground := Ground.phase }, { on := 1, ground := Ground.phase }, { on := 2, ground := Ground.phase }, { on := 3, ground := Ground.phase }, { on := 4, ground := Ground.phase }, { on := 5, ground := Ground.phase }, { on := 6, ground := Ground.phase }, { on := 7, ground := Ground.phase }, { on := 8, ground := Ground.phase }, { on := 9, ground := Ground.phase }, { on := 10, ground := Ground.phase }, { on := 11, ground := Ground.phase }, { on := 12, ground := Ground.phase }, { on := 13, ground := Ground.phase }], guard := none }
def mxOp15 : Oper := { dst := none, op := Op.store 5 (Operand.tmp 51) (Operand.tmp 50), type := 0, pos := "law.go:66", after := #[{ on := 14, ground := Ground.data }, { on := 13, ground := Ground.data }, { on := 0, ground := Ground.phase }, { on := 1, ground := Ground.phase }, { on := 2, ground := Ground.phase }, { on := 3, ground := Ground.phase }, { on := 4, ground := Ground.phase }, { on := 5, ground := Ground.phase }, { on := 6, ground := Ground.phase }, { on := 7, ground := Ground.phase }, { on := 8, ground := Ground.phase }, { on := 9, ground := Ground.phase }, { on := 10, ground := Ground.phase }, { on := 11, ground := Ground.phase }, { on := 12, ground := Ground.phase }, { on := 13, ground := Ground.phase }], guard := none }
def mxOps : Array Oper := #[mxOp0, mxOp1, mxOp2, mxOp3, mxOp4, mxOp5, mxOp6, mxOp7, mxOp8, mxOp9, mxOp10, mxOp11, mxOp12, mxOp13, mxOp14, mxOp15]
set_option maxRecDepth 100000 in
set_option maxHeartbeats 1000000 in
theorem mx_region (Q : Exit → Act → World → Prop) (hQ : ∀ c a w n v, Q (.panic c) (a.put (some n) v) w → Q (.panic c) a w) (u : World) (z1 z4 z5 z6 z7 z8 z9 z11 z12 z13 z14 z15 z16 z17 z18 z19 z20 z21 z22 z23 z24 z25 z26 z27 z28 z29 z30 z31 z32 z33 z34 z35 z36 z37 z38 z39 z40 z41 z42 z43 z44 z45 z46 z47 z48 z49 z50 z51 z52 z53 z54 z55 z56 z57 z58 z59 z60 z61 z62 z63 z64 z65 z66 z67 z68 z69 z70 : Value) (A : Option Addr) (k : List Nat) (ca gc cc m p x y v : Nat)
    (hm1 : (m : Int).tmod (k.length : Int) = (p : Int)) (hkn : ¬ k = []) (hp0 : (0 : Int) ≤ (p : Int)) (hp1 : (p : Int) < (k.length : Int)) (hx : u.cell? ⟨gc, p, none⟩ = some (.int .u8 (x : Int))) (hf : u.frozen? ⟨gc, p, none⟩ = false) (hv : bits .xor .u8 (x : Int) (y : Int) = (v : Int))
    (H : Q .normal { tmps := List.toArray ((.slice A k.length ca) :: z1 :: (.int .i64 (m : Int)) :: (.int .u8 (y : Int)) :: z4 :: z5 :: z6 :: z7 :: z8 :: z9 :: (.slice (some ⟨gc, 0, none⟩) k.length cc) :: z11 :: z12 :: z13 :: z14 :: z15 :: z16 :: z17 :: z18 :: z19 :: z20 :: z21 :: z22 :: z23 :: z24 :: z25 :: z26 :: z27 :: z28 :: z29 :: z30 :: z31 :: z32 :: z33 :: z34 :: z35 :: z36 :: (.slice (some ⟨gc, 0, none⟩) k.length cc) :: (.int .i64 (m : Int)) :: (.slice A k.length ca) :: (.int .i64 (k.length : Int)) :: (.int .i64 (p : Int)) :: (.slice (some ⟨gc, 0, none⟩) k.length cc) :: (.int .i64 (m : Int)) :: (.slice A k.length ca) :: (.int .i64 (k.length : Int)) :: (.int .i64 (p : Int)) :: (.pointer (some ⟨gc, p, none⟩)) :: (.int .u8 (x : Int)) :: (.int .u8 (y : Int)) :: (.int .u8 (v : Int)) :: (.pointer (some ⟨gc, p, none⟩)) :: z52 :: z53 :: z54 :: z55 :: z56 :: z57 :: z58 :: z59 :: z60 :: z61 :: z62 :: z63 :: z64 :: z65 :: z66 :: z67 :: z68 :: z69 :: z70 :: []), defers := [] } (u.drew.setCell ⟨gc, p, none⟩ (.int .u8 (v : Int)))) :
    (Code.region 9 mxOps true).wp Tryd.prog Q { tmps := List.toArray ((.slice A k.length ca) :: z1 :: (.int .i64 (m : Int)) :: (.int .u8 (y : Int)) :: z4 :: z5 :: z6 :: z7 :: z8 :: z9 :: (.slice (some ⟨gc, 0, none⟩) k.length cc) :: z11 :: z12 :: z13 :: z14 :: z15 :: z16 :: z17 :: z18 :: z19 :: z20 :: z21 :: z22 :: z23 :: z24 :: z25 :: z26 :: z27 :: z28 :: z29 :: z30 :: z31 :: z32 :: z33 :: z34 :: z35 :: z36 :: z37 :: z38 :: z39 :: z40 :: z41 :: z42 :: z43 :: z44 :: z45 :: z46 :: z47 :: z48 :: z49 :: z50 :: z51 :: z52 :: z53 :: z54 :: z55 :: z56 :: z57 :: z58 :: z59 :: z60 :: z61 :: z62 :: z63 :: z64 :: z65 :: z66 :: z67 :: z68 :: z69 :: z70 :: []), defers := [] } u := by
  refine wp_region_held_drew (S := fun _ => True) (by kernel_rfl) trivial (fun hS => ?_)
  refine wpAnyH_take (i := 0) (oi := mxOp0) (v := .slice (some ⟨gc, 0, none⟩) k.length cc) rfl (by kernel_rfl) (by kernel_rfl) (by kernel_rfl) (fun _ _ _ => hQ _ _ _ _ _) (Or.inl ⟨by rfl, fun w hSw => by unfold mxOp0; go_simp⟩) trivial ?_
  simp only [mxOp0, Act.put, List.setIfInBounds_toArray, List.set_cons_zero, List.set_cons_succ]
  refine wpAnyH_take (i := 1) (oi := mxOp1) (v := .int .i64 (m : Int)) rfl (by kernel_rfl) (by kernel_rfl) (by kernel_rfl) (fun _ _ _ => hQ _ _ _ _ _) (Or.inl ⟨by rfl, fun w hSw => by unfold mxOp1; go_simp⟩) trivial ?_
  simp only [mxOp1, Act.put, List.setIfInBounds_toArray, List.set_cons_zero, List.set_cons_succ]
  refine wpAnyH_take (i := 2) (oi := mxOp2) (v := .slice A k.length ca) rfl (by kernel_rfl) (by kernel_rfl) (by kernel_rfl) (fun _ _ _ => hQ _ _ _ _ _) (Or.inl ⟨by rfl, fun w hSw => by unfold mxOp2; go_simp⟩) trivial ?_
  simp only [mxOp2, Act.put, List.setIfInBounds_toArray, List.set_cons_zero, List.set_cons_succ]
  refine wpAnyH_take (i := 3) (oi := mxOp3) (v := .int .i64 (k.length : Int)) rfl (by kernel_rfl) (by kernel_rfl) (by kernel_rfl) (fun _ _ _ => hQ _ _ _ _ _) (Or.inl ⟨by rfl, fun w hSw => by unfold mxOp3; go_simp⟩) trivial ?_
  simp only [mxOp3, Act.put, List.setIfInBounds_toArray, List.set_cons_zero, List.set_cons_succ]
  refine wpAnyH_take (i := 4) (oi := mxOp4) (v := .int .i64 (p : Int)) rfl (by kernel_rfl) (by kernel_rfl) (by kernel_rfl) (fun _ _ _ => hQ _ _ _ _ _) (Or.inl ⟨by rfl, fun w hSw => by unfold mxOp4; go_simp⟩) trivial ?_
  simp only [mxOp4, Act.put, List.setIfInBounds_toArray, List.set_cons_zero, List.set_cons_succ]
  refine wpAnyH_take (i := 5) (oi := mxOp5) (v := .slice (some ⟨gc, 0, none⟩) k.length cc) rfl (by kernel_rfl) (by kernel_rfl) (by kernel_rfl) (fun _ _ _ => hQ _ _ _ _ _) (Or.inl ⟨by rfl, fun w hSw => by unfold mxOp5; go_simp⟩) trivial ?_
  simp only [mxOp5, Act.put, List.setIfInBounds_toArray, List.set_cons_zero, List.set_cons_succ]
  refine wpAnyH_take (i := 6) (oi := mxOp6) (v := .int .i64 (m : Int)) rfl (by kernel_rfl) (by kernel_rfl) (by kernel_rfl) (fun _ _ _ => hQ _ _ _ _ _) (Or.inl ⟨by rfl, fun w hSw => by unfold mxOp6; go_simp⟩) trivial ?_
  simp only [mxOp6, Act.put, List.setIfInBounds_toArray, List.set_cons_zero, List.set_cons_succ]
  refine wpAnyH_take (i := 7) (oi := mxOp7) (v := .slice A k.length ca) rfl (by kernel_rfl) (by kernel_rfl) (by kernel_rfl) (fun _ _ _ => hQ _ _ _ _ _) (Or.inl ⟨by rfl, fun w hSw => by unfold mxOp7; go_simp⟩) trivial ?_
  simp only [mxOp7, Act.put, List.setIfInBounds_toArray, List.set_cons_zero, List.set_cons_succ]
  refine wpAnyH_take (i := 8) (oi := mxOp8) (v := .int .i64 (k.length : Int)) rfl (by kernel_rfl) (by kernel_rfl) (by kernel_rfl) (fun _ _ _ => hQ _ _ _ _ _) (Or.inl ⟨by rfl, fun w hSw => by unfold mxOp8; go_simp⟩) trivial ?_
  simp only [mxOp8, Act.put, List.setIfInBounds_toArray, List.set_cons_zero, List.set_cons_succ]
  refine wpAnyH_take (i := 9) (oi := mxOp9) (v := .int .i64 (p : Int)) rfl (by kernel_rfl) (by kernel_rfl) (by kernel_rfl) (fun _ _ _ => hQ _ _ _ _ _) (Or.inl ⟨by rfl, fun w hSw => by unfold mxOp9; go_simp⟩) trivial ?_
  simp only [mxOp9, Act.put, List.setIfInBounds_toArray, List.set_cons_zero, List.set_cons_succ]
  refine wpAnyH_take (i := 10) (oi := mxOp10) (v := .pointer (some ⟨gc, p, none⟩)) rfl (by kernel_rfl) (by kernel_rfl) (by kernel_rfl) (fun _ _ _ => hQ _ _ _ _ _) (Or.inl ⟨by rfl, fun w hSw => by unfold mxOp10; go_simp⟩) trivial ?_
  simp only [mxOp10, Act.put, List.setIfInBounds_toArray, List.set_cons_zero, List.set_cons_succ]
  refine wpAnyH_take (i := 12) (oi := mxOp12) (v := .int .u8 (y : Int)) rfl (by kernel_rfl) (by kernel_rfl) (by kernel_rfl) (fun _ _ _ => hQ _ _ _ _ _) (Or.inl ⟨by rfl, fun w hSw => by unfold mxOp12; go_simp⟩) trivial ?_
  simp only [mxOp12, Act.put, List.setIfInBounds_toArray, List.set_cons_zero, List.set_cons_succ]
  refine wpAnyH_ready (rs := [11]) (by kernel_rfl) (by simp) ?_
  refine AllReadyH.cons (o := mxOp11) rfl (fun K hK => ?_) AllReadyH.nil
  have hx' : u.drew.cell? ⟨gc, p, none⟩ = some (.int .u8 (x : Int)) := hx
  have hf' : u.drew.frozen? ⟨gc, p, none⟩ = false := hf
  unfold mxOp11
  go_simp
  refine hK.out _ _ trivial (fun _ => ?_)
  clear hK K
  try simp only [Act.put, List.setIfInBounds_toArray, List.set_cons_zero, List.set_cons_succ]
  refine wpAnyH_take (i := 13) (oi := mxOp13) (v := .int .u8 (v : Int)) rfl (by kernel_rfl) (by kernel_rfl) (by kernel_rfl) (fun _ _ _ => hQ _ _ _ _ _) (Or.inl ⟨by rfl, fun w hSw => by unfold mxOp13; go_simp⟩) trivial ?_
  simp only [mxOp13, Act.put, List.setIfInBounds_toArray, List.set_cons_zero, List.set_cons_succ]
  refine wpAnyH_take (i := 14) (oi := mxOp14) (v := .pointer (some ⟨gc, p, none⟩)) rfl (by kernel_rfl) (by kernel_rfl) (by kernel_rfl) (fun _ _ _ => hQ _ _ _ _ _) (Or.inl ⟨by rfl, fun w hSw => by unfold mxOp14; go_simp⟩) trivial ?_
  simp only [mxOp14, Act.put, List.setIfInBounds_toArray, List.set_cons_zero, List.set_cons_succ]
  refine wpAnyH_ready (rs := [15]) (by kernel_rfl) (by simp) ?_
  refine AllReadyH.cons (o := mxOp15) rfl (fun K hK => ?_) AllReadyH.nil
  unfold mxOp15
  go_simp
  refine hK.out _ _ trivial (fun _ => ?_)
  clear hK K
  try simp only [Act.put, List.setIfInBounds_toArray, List.set_cons_zero, List.set_cons_succ]
  exact wpAnyH_done (by kernel_rfl) H _
theorem rds_fill {w : World} {b : Nat} {c : Array Value} {t : TypeId} (h : Blk w b c t) (k : List Nat) (p v : Nat) (hp : p < k.length) (hc : ∀ (i : Nat) (x : Nat), k[i]? = some x → c[i]? = some (.int .u8 (x : Nat))) : Rds (w.setCell ⟨b, p, none⟩ (.int .u8 (v : Nat))) (some ⟨b, 0, none⟩) (k.set p v) :=
  rds_blk (h.set p (.int .u8 (v : Nat))) _ fun i x hx => by
    have hpc : p < c.size := by
      have := hc p (k[p]) (List.getElem?_eq_getElem hp)
      exact (Array.getElem?_eq_some_iff.1 this).1
    rw [List.getElem?_set] at hx
    rw [Array.getElem?_setIfInBounds]
    by_cases hi : p = i
    · subst hi
      rw [if_pos rfl, if_pos hp] at hx
      rw [if_pos rfl, if_pos hpc, Option.some.inj hx]
    · rw [if_neg hi] at hx
      rw [if_neg hi]; exact hc i x hx
set_option maxRecDepth 100000 in
set_option maxHeartbeats 4000000 in
theorem msame_walk (h0 : SameOk) (h1 : AwakeOk) (A B : Option Addr) (k l : List Nat) (ca cb : Nat) (n : Int) (y : Nat) (w : World) (hG : Glob w) (hA : Rds w A k) (hcap : k.length ≤ ca) (hk : ∀ x ∈ k, x < 256) (hB : Rds w B l) (hcb : l.length ≤ cb) (hl : ∀ x ∈ l, x < 256) (hn1 : -9223372036854775808 ≤ n) (hn2 : n < 9223372036854775808) (hy : y < 256) (hsk : k.length ≤ 2 ^ 47) :
    Calls Tryd.prog 6 #[.slice A k.length ca, .slice B l.length cb, .int .i64 n, .int .u8 y] w fun e w' => e = .returned (.bool true) ∧ Below w.heap.size w w' := by
  have H0 := hide h0
  have H1 := hide h1
  have HG := hide hG
  have HA := hide hA
  have Hca := hide hcap
  have Hk := hide hk
  have HB := hide hB
  have Hcb := hide hcb
  have Hl := hide hl
  have Hsk := hide hsk
  have Hn := hide (And.intro hn1 hn2)
  have Hy := hide hy
  clear h0 h1 hG hA hcap hk hB hcb hl hsk hn1 hn2 hy
  go_enter Tryd.func6, Tryd.ntmps6
  go_upto_region 2 with (go_at_call 8; refine (H1.out _ _ rfl HG.out).mono ?_; rintro e w1 ⟨rfl, hb⟩; have L1 := hide hb; clear hb; dsimp only)
  clear H1 HG
  obtain ⟨r, hr⟩ : ∃ r, decide (k = l) = r := ⟨_, rfl⟩
  refine ms_region _ (fun _ _ _ _ _ h => h) w1 _ _ _ _ _ _ _ _ _ _ _ _ _ _ _ _ _ _ _ _ _ _ _ _ _ _ _ _ _ _ _ _ _ _ _ _ _ _ _ _ _ _ _ _ _ _ _ _ _ _ _ _ _ _ _ _ _ _ _ _ _ _ _ _ _ _ _ _ _ H0.out A B k l ca cb r hr (by rw [sk_eq k l Hk.out Hl.out]; exact hr) (HA.out.low L1.out) Hca.out Hk.out (HB.out.low L1.out) Hcb.out Hl.out (by have := Hsk.out; omega) ?_
  intro w2 hb2
  have L2 := hide (keepLow2 L1.out hb2)
  clear hb2 L1 hr HB Hcb Hl
  by_cases hk0 : k.length = 0
  · obtain rfl : k = [] := List.eq_nil_of_length_eq_zero hk0
    clear hk0
    go_wp2_with (go_at_call 11; refine (same_r H0.out A none [] [] ca 0 true _ _ rfl rfl (Or.inl rfl) (Nat.zero_le _) (fun x hx => nomatch hx) (Or.inl rfl) (Nat.zero_le _) (fun x hx => nomatch hx) (Nat.zero_lt_succ _)).mono ?_; rintro e k1 ⟨rfl, hb⟩; have L3 := hide (keepLow2 L2.out hb); clear hb; dsimp only)
    go_ret
    exact ⟨rfl, L3.out⟩
  have hki : ¬ (k.length : Int) = 0 := by omega
  have hkb : ((k.length : Int) == 0) = false := by rw [beq_eq_false_iff_ne]; exact hki
  have Hk0 : Hid (0 < k.length) := hide (by omega)
  clear hk0
  go_upto_if 30 with (fail)
  go_cut [2] (fun s wc => ∃ m : Nat, s = .int .i64 (m : Int) ∧ m < 9223372036854775808 ∧ wc = w2)
  case first =>
    by_cases hneg : n < 0
    · have hw1 : IntKind.i64.wrap (n + 1) = n + 1 := by have := Hn.out; simp [IntKind.wrap, IntKind.bits, IntKind.signed]; omega
      have hw2 : IntKind.i64.wrap (-(n + 1)) = -(n + 1) := by have := Hn.out; simp [IntKind.wrap, IntKind.bits, IntKind.signed]; omega
      go_wp2
      go_meet
      exact ⟨(-(n + 1)).toNat, by first | go_num | (congr 1; omega), by have := Hn.out; omega, rfl⟩
    · go_wp2
      go_meet
      exact ⟨n.toNat, by first | go_num | (congr 1; omega), by have := Hn.out; omega, rfl⟩
  case rest =>
    obtain ⟨m, rfl, _, hwc⟩ := hcut
    obtain rfl : w2 = wc := hwc.symm
    clear Hn
    obtain ⟨c, cells, hap, hcl, hcells⟩ := app_new (w2.alloc (.cells #[] 5)) w2.heap.size A k ca (HA.out.low (L2.out.alloc L2.out.size _)) Hk0.out Hsk.out
    have R6 := hide hap
    have Hcl := hide hcl
    have Hcells := hide hcells
    have B6 := hide (Blk.new' (w2.alloc (.cells #[] 5)) (w2.heap.size + 1) (by simp) cells 5).drew
    have L6 := hide ((L2.out.alloc L2.out.size (.cells #[] 5)).alloc (by have := L2.out.size; simp; omega) (.cells cells 5)).drew
    have Hle : Hid (w.heap.size ≤ w2.heap.size + 1) := hide (Nat.le_succ_of_le L2.out.size)
    clear hap hcl hcells
    go_upto_region 9 with (at_builtin; refine wpList_app rfl _ _ 22 rfl rfl rfl R6.out ?_)
    generalize w2.heap.size + 1 = gc at *
    generalize ((w2.alloc (.cells #[] 5)).alloc (.cells cells 5)).drew = w6 at *
    obtain ⟨p, hp⟩ : ∃ p, p = m % k.length := ⟨_, rfl⟩
    have hpl : p < k.length := by rw [hp]; exact Nat.mod_lt _ Hk0.out
    have hm2 : (m : Int) % (k.length : Int) = (p : Int) := by rw [hp]; exact (Int.natCast_emod _ _).symm
    have hm1 : (m : Int).tmod (k.length : Int) = (p : Int) := by rw [Int.tmod_eq_emod_of_nonneg (by omega)]; exact hm2
    have Hx1 : Hid (k.getD p 0 < 256) := hide (getD_lt k Hk.out p)
    have hcp := Hcells.out p (k.getD p 0) (by rw [List.getD_eq_getElem?_getD, List.getElem?_eq_getElem hpl]; rfl)
    refine mx_region _ (fun _ _ _ _ _ h => h) w6 _ _ _ _ _ _ _ _ _ _ _ _ _ _ _ _ _ _ _ _ _ _ _ _ _ _ _ _ _ _ _ _ _ _ _ _ _ _ _ _ _ _ _ _ _ _ _ _ _ _ _ _ _ _ _ _ _ _ _ _ _ _ _ _ _ _ _ A k ca gc c m p (k.getD p 0) y (k.getD p 0 ^^^ y) hm1 (fun e => hki (by rw [e]; rfl)) (by omega) (by omega) (by rw [B6.out.cell]; exact hcp) (B6.out.frozen p) (u8_xor _ _ Hx1.out Hy.out) ?_
    have HC := hide (rds_fill B6.out.drew k p (k.getD p 0 ^^^ y) hpl Hcells.out)
    have L7 := hide (L6.out.drew.setCell (p := ⟨gc, p, none⟩) Hle.out (.int .u8 ((k.getD p 0 ^^^ y : Nat) : Int)))
    have Hset := hide (set_same k p y hpl)
    obtain ⟨q, hq⟩ : ∃ q, q = k.set p (k.getD p 0 ^^^ y) := ⟨_, rfl⟩
    have Hql : Hid (q.length = k.length) := hide (by rw [hq, List.length_set])
    have Hq2 : Hid (∀ x ∈ q, x < 256) := hide (fun x hx => by
      rw [hq] at hx
      rcases List.mem_or_eq_of_mem_set hx with h | h
      · exact Hk.out x h
      · rw [h]; exact Nat.xor_lt_two_pow (n := 8) Hx1.out Hy.out)
    rw [← hq] at HC Hset
    clear hq hcp hm1 hm2 hp B6 L6 Hcells R6 Hx1
    generalize w6.drew.setCell ⟨gc, p, none⟩ (.int .u8 ((k.getD p 0 ^^^ y : Nat) : Int)) = w7 at *
    have Hkt : Hid ((k.take (k.length - 1)).length = k.length - 1) := hide (by rw [List.length_take]; omega)
    have Hkn : Hid (decide (k = k.take (k.length - 1)) = false) := hide (by
      rw [decide_eq_false_iff_not]
      intro e
      have h1 := congrArg List.length e
      rw [Hkt.out] at h1
      have := Hk0.out
      omega)
    have Hkl : Hid (∀ x ∈ k.take (k.length - 1), x < 256) := hide (fun x hx => Hk.out x (List.mem_of_mem_take hx))
    have hs1 : IntKind.i64.wrap ((k.length : Int) - 1) = ((k.length - 1 : Nat) : Int) := by
      have := Hsk.out; have := Hk0.out
      simp [IntKind.wrap, IntKind.bits, IntKind.signed]; omega
    have hhd := run_headc A k.length ca (k.length - 1) (by have := Hca.out; omega)
    clear hpl
    obtain ⟨e, he⟩ : ∃ e, e = decide (y = 0) := ⟨_, rfl⟩
    rw [← he] at Hset
    have hyb : ((y : Int) == 0) = e := by
      rw [he]
      by_cases h : y = 0
      · subst h; rfl
      · rw [decide_eq_false h, beq_eq_false_iff_ne]; omega
    have hyd : (decide ((y : Int) = 0)) = e := by
      rw [he]
      by_cases h : y = 0
      · subst h; rfl
      · rw [decide_eq_false h, decide_eq_false_iff_not]; omega
    clear he
    go_wp2_with (first
      | (go_at_call 11; refine (same_r H0.out A A k (k.take (k.length - 1)) ca ca false _ _ Hkn.out (by rw [Hkt.out]) (HA.out.low L8.out) Hca.out Hk.out (rds_take (HA.out.low L8.out) _) (by rw [Hkt.out]; have := Hca.out; omega) Hkl.out (by have := Hsk.out; omega)).mono ?_; rintro e' k2 ⟨rfl, hb⟩; have L9 := hide (keepLow2 L8.out hb); clear hb; dsimp only)
      | (go_at_call 11; refine (same_r H0.out A (some ⟨gc, 0, none⟩) k q ca c e _ _ Hset.out (by rw [Hql.out]) (HA.out.low L7.out) Hca.out Hk.out HC.out (by rw [Hql.out]; exact Hcl.out) Hq2.out (by have := Hsk.out; omega)).mono ?_; rintro e' k1 ⟨rfl, hb⟩; have L8 := hide (keepLow2 L7.out hb); clear hb; dsimp only))
    go_ret
    exact ⟨rfl, L9.out⟩
end Go.Proofs.YtaegklfomecmfaaDoor
