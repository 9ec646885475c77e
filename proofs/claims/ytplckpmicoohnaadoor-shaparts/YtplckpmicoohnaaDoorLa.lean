/- Regions of ShaParts, state by state. -/
import Derived.Test.YtplckpmicoohnaaDoorLn
import Derived.Test.YtplckpmicoohnaaDoorDa
namespace Go.Proofs.YtplckpmicoohnaaDoor
open Go.RowKit

theorem Blk.low {w w' : World} {b : Nat} {c : Array Value} {t : TypeId} (h : Blk w b c t) (hb : Below w.heap.size w w') : Blk w' b c t := h.call hb
theorem rds_take {w : World} {A : Option Addr} {l : List Nat} (h : Rds w A l) (c : Nat) : Rds w A (l.take c) := by
  rcases h with h | ⟨a, ha, hlt, hc⟩
  · left; rw [h]; simp
  · right
    refine ⟨a, ha, hlt, fun i x hx => hc i x ?_⟩
    rw [List.getElem?_take] at hx
    split at hx
    · exact hx
    · cases hx
theorem run_headc (A : Option Addr) (len cap c : Nat) (hc : c ≤ cap) (w : World) : (Instr.slice 22 (.slice A len cap) none (some (.int .i64 c)) none).run Tryd.prog w = .ok (.slice A c cap) w := by
  rw [run_slice_h w 22 A len cap (by kernel_rfl) .i64 c (by omega) (by omega), show (sizeOf (Tryd.prog.elem 22)).run Tryd.prog w = .ok 1 w by rfl]
  have e : A.map (fun a => a.add 0) = A := by cases A <;> simp [Addr.add]
  simp [Result.andThen, sliced, e]
theorem write_k (r f : Nat → Nat) (n : Nat) (m l : List Nat) (k : Nat) (x : List Nat) (A : Option Addr) (cap : Nat) (args : Array Value) (w : World) (h : args = #[.agg (stc r f n), .slice A k cap]) (hk : l.length = k) (hG : Glob w) (hR : Rep r f n m) (hl : ∀ x ∈ l, x < 256) (hA : Rds w A l) (hcap : k ≤ cap) (hs : m.length + l.length < 2 ^ 61) (hx : m ++ l = x) :
    Calls Tryd.prog 12 args w fun e w' => ∃ r' f' n', e = .returned (.agg (stc r' f' n')) ∧ Rep r' f' n' x ∧ Below w.heap.size w w' := by
  subst hk; exact write_n r f n m l x A cap args w h hG hR hl hA hcap hs hx
theorem all_n (P : Option Addr) (ps : List Pt) (pcap : Nat) (x : List Nat) (args : Array Value) (w : World) (h : args = #[.slice P ps.length pcap]) (hG : Glob w) (hP : Prt w P ps) (hO : PtOk w ps) (hx : cat ps = x) (hs : x.length < 2 ^ 60) (hp : ps.length < 2 ^ 62) :
    Calls Tryd.prog 9 args w fun e w' => e = .returned (.agg (vals .u8 64 (dg x))) ∧ Below w.heap.size w w' := by
  subst hx; exact all_at P ps pcap args w h hG hP hO hs hp
def paOp0 : Oper := { dst := some 45, op := Op.load 31 (Operand.tmp 7), type := 31, pos := "law.go:49", after := #[], guard := none }
def paOp1 : Oper := { dst := some 46, op := Op.move (Operand.tmp 8), type := 22, pos := "law.go:49", after := #[], guard := none }
def paOp2 : Oper := { dst := some 47, op := Op.move (Operand.tmp 11), type := 3, pos := "law.go:49", after := #[], guard := none }
def paOp3 : Oper := { dst := some 48, op := Op.slice 22 (Operand.tmp 46) none (some (Operand.tmp 47)) none, type := 22, pos := "law.go:49", after := #[{ on := 1, ground := Ground.data }, { on := 2, ground := Ground.data }], guard := none }
def paOp4 : Oper := { dst := some 49, op := Op.call { callee := Callee.value (Operand.func 12), args := #[Operand.tmp 45, Operand.tmp 48], argTypes := #[31, 22] }, type := 31, pos := "law.go:49", after := #[{ on := 0, ground := Ground.data }, { on := 3, ground := Ground.data }], guard := none }
def paOp5 : Oper := { dst := some 13, op := Op.alloc 31, type := 0, pos := "law.go:49", after := #[], guard := none }
def paOp6 : Oper := { dst := none, op := Op.store 31 (Operand.tmp 13) (Operand.tmp 49), type := 0, pos := "law.go:49", after := #[{ on := 5, ground := Ground.data }, { on := 4, ground := Ground.data }, { on := 4, ground := Ground.chain }, { on := 0, ground := Ground.phase }, { on := 1, ground := Ground.phase }, { on := 2, ground := Ground.phase }, { on := 3, ground := Ground.phase }, { on := 4, ground := Ground.phase }, { on := 5, ground := Ground.phase }], guard := none }
def paOps : Array Oper := #[paOp0, paOp1, paOp2, paOp3, paOp4, paOp5, paOp6]
set_option maxRecDepth 100000 in
set_option maxHeartbeats 1000000 in
theorem pa_0 (Q : Exit → Act → World → Prop) (hQ : ∀ c a w n v, Q (.panic c) (a.put (some n) v) w → Q (.panic c) a w) (u : World) (z0 z1 z2 z3 z4 z5 z6 z9 z10 z12 z13 z14 z15 z16 z17 z18 z19 z20 z21 z22 z23 z24 z25 z26 z27 z28 z29 z30 z31 z32 z33 z34 z35 z36 z37 z38 z39 z40 z41 z42 z43 z44 z45 z46 z47 z48 z49 z50 z51 z52 z53 z54 z55 z56 z57 z58 z59 z60 z61 z62 z63 z64 z65 z66 z67 z68 z69 z70 z71 z72 z73 z74 z75 z76 z77 z78 z79 z80 z81 z82 z83 z84 z85 z86 z87 z88 z89 z90 : Value) (bs : Nat) (r f : Nat → Nat) (n : Nat) (d t : List Nat) (c cp : Nat) (A : Option Addr) (HG : Glob u) (HB : Blk u bs (stc r f n) 31) (HR : Rep r f n d) (HA : Rds u A t) (Hc : t.length ≤ cp) (Hx : ∀ x ∈ t, x < 256) (hc : c ≤ t.length) (hd : d.length + t.length < 2 ^ 59) (H : ∀ (r2 : Nat → Nat) (f2 : Nat → Nat) (n2 : Nat) (b13 : Nat) (w : World), Below u.heap.size u w → Rep r2 f2 n2 (d ++ t.take c) → u.heap.size ≤ b13 → Blk w b13 (stc r2 f2 n2) 31 → Q .normal { tmps := List.toArray (z0 :: z1 :: z2 :: z3 :: z4 :: z5 :: z6 :: (.pointer (some ⟨bs, 0, none⟩)) :: (.slice A t.length cp) :: z9 :: z10 :: (.int .i64 c) :: z12 :: (.pointer (some ⟨b13, 0, none⟩)) :: z14 :: z15 :: z16 :: z17 :: z18 :: z19 :: z20 :: z21 :: z22 :: z23 :: z24 :: z25 :: z26 :: z27 :: z28 :: z29 :: z30 :: z31 :: z32 :: z33 :: z34 :: z35 :: z36 :: z37 :: z38 :: z39 :: z40 :: z41 :: z42 :: z43 :: z44 :: (.agg (stc r f n)) :: (.slice A t.length cp) :: (.int .i64 c) :: (.slice A c cp) :: (.agg (stc r2 f2 n2)) :: z50 :: z51 :: z52 :: z53 :: z54 :: z55 :: z56 :: z57 :: z58 :: z59 :: z60 :: z61 :: z62 :: z63 :: z64 :: z65 :: z66 :: z67 :: z68 :: z69 :: z70 :: z71 :: z72 :: z73 :: z74 :: z75 :: z76 :: z77 :: z78 :: z79 :: z80 :: z81 :: z82 :: z83 :: z84 :: z85 :: z86 :: z87 :: z88 :: z89 :: z90 :: []), defers := [] } w) (r2 : Nat → Nat) (f2 : Nat → Nat) (n2 : Nat) (b13 : Nat) (w : World) (hS : Below u.heap.size u w) (hR2 : Rep r2 f2 n2 (d ++ t.take c)) (g13 : u.heap.size ≤ b13) (cN : Blk w b13 (stc r2 f2 n2) 31) :
    wpAnyH Tryd.prog .any paOps Q (fun w' => Below u.heap.size u w') 0 (List.toArray (true :: true :: true :: true :: true :: true :: true :: [])) { tmps := List.toArray (z0 :: z1 :: z2 :: z3 :: z4 :: z5 :: z6 :: (.pointer (some ⟨bs, 0, none⟩)) :: (.slice A t.length cp) :: z9 :: z10 :: (.int .i64 c) :: z12 :: (.pointer (some ⟨b13, 0, none⟩)) :: z14 :: z15 :: z16 :: z17 :: z18 :: z19 :: z20 :: z21 :: z22 :: z23 :: z24 :: z25 :: z26 :: z27 :: z28 :: z29 :: z30 :: z31 :: z32 :: z33 :: z34 :: z35 :: z36 :: z37 :: z38 :: z39 :: z40 :: z41 :: z42 :: z43 :: z44 :: (.agg (stc r f n)) :: (.slice A t.length cp) :: (.int .i64 c) :: (.slice A c cp) :: (.agg (stc r2 f2 n2)) :: z50 :: z51 :: z52 :: z53 :: z54 :: z55 :: z56 :: z57 :: z58 :: z59 :: z60 :: z61 :: z62 :: z63 :: z64 :: z65 :: z66 :: z67 :: z68 :: z69 :: z70 :: z71 :: z72 :: z73 :: z74 :: z75 :: z76 :: z77 :: z78 :: z79 :: z80 :: z81 :: z82 :: z83 :: z84 :: z85 :: z86 :: z87 :: z88 :: z89 :: z90 :: []), defers := [] } w := by
  have _ := hQ
  have _ := u
  have _ := z0
  have _ := z1
  have _ := z2
  have _ := z3
  have _ := z4
  have _ := z5
  have _ := z6
  have _ := z9
  have _ := z10
  have _ := z12
  have _ := z13
  have _ := z14
  have _ := z15
  have _ := z16
  have _ := z17
  have _ := z18
  have _ := z19
  have _ := z20
  have _ := z21
  have _ := z22
  have _ := z23
  have _ := z24
  have _ := z25
  have _ := z26
  have _ := z27
  have _ := z28
  have _ := z29
  have _ := z30
  have _ := z31
  have _ := z32
  have _ := z33
  have _ := z34
  have _ := z35
  have _ := z36
  have _ := z37
  have _ := z38
  have _ := z39
  have _ := z40
  have _ := z41
  have _ := z42
  have _ := z43
  have _ := z44
  have _ := z45
  have _ := z46
  have _ := z47
  have _ := z48
  have _ := z49
  have _ := z50
  have _ := z51
  have _ := z52
  have _ := z53
  have _ := z54
  have _ := z55
  have _ := z56
  have _ := z57
  have _ := z58
  have _ := z59
  have _ := z60
  have _ := z61
  have _ := z62
  have _ := z63
  have _ := z64
  have _ := z65
  have _ := z66
  have _ := z67
  have _ := z68
  have _ := z69
  have _ := z70
  have _ := z71
  have _ := z72
  have _ := z73
  have _ := z74
  have _ := z75
  have _ := z76
  have _ := z77
  have _ := z78
  have _ := z79
  have _ := z80
  have _ := z81
  have _ := z82
  have _ := z83
  have _ := z84
  have _ := z85
  have _ := z86
  have _ := z87
  have _ := z88
  have _ := z89
  have _ := z90
  have _ := bs
  have _ := r
  have _ := f
  have _ := n
  have _ := d
  have _ := t
  have _ := c
  have _ := cp
  have _ := A
  have _ := HG
  have _ := HB
  have _ := HR
  have _ := HA
  have _ := Hc
  have _ := Hx
  have _ := hc
  have _ := hd
  exact wpAnyH_done (by kernel_rfl) (H r2 f2 n2 b13 w hS hR2 g13 cN) _
set_option maxRecDepth 100000 in
set_option maxHeartbeats 1000000 in
theorem pa_1 (Q : Exit → Act → World → Prop) (hQ : ∀ c a w n v, Q (.panic c) (a.put (some n) v) w → Q (.panic c) a w) (u : World) (z0 z1 z2 z3 z4 z5 z6 z9 z10 z12 z13 z14 z15 z16 z17 z18 z19 z20 z21 z22 z23 z24 z25 z26 z27 z28 z29 z30 z31 z32 z33 z34 z35 z36 z37 z38 z39 z40 z41 z42 z43 z44 z45 z46 z47 z48 z49 z50 z51 z52 z53 z54 z55 z56 z57 z58 z59 z60 z61 z62 z63 z64 z65 z66 z67 z68 z69 z70 z71 z72 z73 z74 z75 z76 z77 z78 z79 z80 z81 z82 z83 z84 z85 z86 z87 z88 z89 z90 : Value) (bs : Nat) (r f : Nat → Nat) (n : Nat) (d t : List Nat) (c cp : Nat) (A : Option Addr) (HG : Glob u) (HB : Blk u bs (stc r f n) 31) (HR : Rep r f n d) (HA : Rds u A t) (Hc : t.length ≤ cp) (Hx : ∀ x ∈ t, x < 256) (hc : c ≤ t.length) (hd : d.length + t.length < 2 ^ 59) (H : ∀ (r2 : Nat → Nat) (f2 : Nat → Nat) (n2 : Nat) (b13 : Nat) (w : World), Below u.heap.size u w → Rep r2 f2 n2 (d ++ t.take c) → u.heap.size ≤ b13 → Blk w b13 (stc r2 f2 n2) 31 → Q .normal { tmps := List.toArray (z0 :: z1 :: z2 :: z3 :: z4 :: z5 :: z6 :: (.pointer (some ⟨bs, 0, none⟩)) :: (.slice A t.length cp) :: z9 :: z10 :: (.int .i64 c) :: z12 :: (.pointer (some ⟨b13, 0, none⟩)) :: z14 :: z15 :: z16 :: z17 :: z18 :: z19 :: z20 :: z21 :: z22 :: z23 :: z24 :: z25 :: z26 :: z27 :: z28 :: z29 :: z30 :: z31 :: z32 :: z33 :: z34 :: z35 :: z36 :: z37 :: z38 :: z39 :: z40 :: z41 :: z42 :: z43 :: z44 :: (.agg (stc r f n)) :: (.slice A t.length cp) :: (.int .i64 c) :: (.slice A c cp) :: (.agg (stc r2 f2 n2)) :: z50 :: z51 :: z52 :: z53 :: z54 :: z55 :: z56 :: z57 :: z58 :: z59 :: z60 :: z61 :: z62 :: z63 :: z64 :: z65 :: z66 :: z67 :: z68 :: z69 :: z70 :: z71 :: z72 :: z73 :: z74 :: z75 :: z76 :: z77 :: z78 :: z79 :: z80 :: z81 :: z82 :: z83 :: z84 :: z85 :: z86 :: z87 :: z88 :: z89 :: z90 :: []), defers := [] } w) (r2 : Nat → Nat) (f2 : Nat → Nat) (n2 : Nat) (b13 : Nat) (w : World) (hS : Below u.heap.size u w) (hR2 : Rep r2 f2 n2 (d ++ t.take c)) (cB : Blk w b13 (stc (fun _ => 0) (fun _ => 0) 0) 31) (g13 : u.heap.size ≤ b13) :
    wpAnyH Tryd.prog .any paOps Q (fun w' => Below u.heap.size u w') 1 (List.toArray (true :: true :: true :: true :: true :: true :: false :: [])) { tmps := List.toArray (z0 :: z1 :: z2 :: z3 :: z4 :: z5 :: z6 :: (.pointer (some ⟨bs, 0, none⟩)) :: (.slice A t.length cp) :: z9 :: z10 :: (.int .i64 c) :: z12 :: (.pointer (some ⟨b13, 0, none⟩)) :: z14 :: z15 :: z16 :: z17 :: z18 :: z19 :: z20 :: z21 :: z22 :: z23 :: z24 :: z25 :: z26 :: z27 :: z28 :: z29 :: z30 :: z31 :: z32 :: z33 :: z34 :: z35 :: z36 :: z37 :: z38 :: z39 :: z40 :: z41 :: z42 :: z43 :: z44 :: (.agg (stc r f n)) :: (.slice A t.length cp) :: (.int .i64 c) :: (.slice A c cp) :: (.agg (stc r2 f2 n2)) :: z50 :: z51 :: z52 :: z53 :: z54 :: z55 :: z56 :: z57 :: z58 :: z59 :: z60 :: z61 :: z62 :: z63 :: z64 :: z65 :: z66 :: z67 :: z68 :: z69 :: z70 :: z71 :: z72 :: z73 :: z74 :: z75 :: z76 :: z77 :: z78 :: z79 :: z80 :: z81 :: z82 :: z83 :: z84 :: z85 :: z86 :: z87 :: z88 :: z89 :: z90 :: []), defers := [] } w := by
  refine wpAnyH_ready (rs := [6]) (by kernel_rfl) (by simp) ?_
  refine AllReadyH.cons (o := paOp6) rfl (fun K hK => ?_) AllReadyH.nil
  unfold paOp6
  rw [if_pos (by rfl)]
  refine wp_store_row 31 _ _ rfl (b13) (stc r2 f2 n2) rfl rfl 31 _ cB (by rw [stc_size]; exact cells31) (by rw [stc_size, stc_size]) (stc_one _ _ _) ?_
  have hS' := Below.row (b := b13) hS g13 (stc r2 f2 n2)
  refine hK.out _ _ hS' (fun _ => ?_)
  clear hK K
  simp only [Act.put, List.setIfInBounds_toArray, List.set_cons_zero, List.set_cons_succ]
  exact pa_0 Q hQ u z0 z1 z2 z3 z4 z5 z6 z9 z10 z12 z13 z14 z15 z16 z17 z18 z19 z20 z21 z22 z23 z24 z25 z26 z27 z28 z29 z30 z31 z32 z33 z34 z35 z36 z37 z38 z39 z40 z41 z42 z43 z44 z45 z46 z47 z48 z49 z50 z51 z52 z53 z54 z55 z56 z57 z58 z59 z60 z61 z62 z63 z64 z65 z66 z67 z68 z69 z70 z71 z72 z73 z74 z75 z76 z77 z78 z79 z80 z81 z82 z83 z84 z85 z86 z87 z88 z89 z90 bs r f n d t c cp A HG HB HR HA Hc Hx hc hd H r2 f2 n2 b13 (w.setRow (b13) (stc r2 f2 n2)) hS' hR2 g13 (cB.row _)
set_option maxRecDepth 100000 in
set_option maxHeartbeats 1000000 in
theorem pa_2 (Q : Exit → Act → World → Prop) (hQ : ∀ c a w n v, Q (.panic c) (a.put (some n) v) w → Q (.panic c) a w) (u : World) (z0 z1 z2 z3 z4 z5 z6 z9 z10 z12 z13 z14 z15 z16 z17 z18 z19 z20 z21 z22 z23 z24 z25 z26 z27 z28 z29 z30 z31 z32 z33 z34 z35 z36 z37 z38 z39 z40 z41 z42 z43 z44 z45 z46 z47 z48 z49 z50 z51 z52 z53 z54 z55 z56 z57 z58 z59 z60 z61 z62 z63 z64 z65 z66 z67 z68 z69 z70 z71 z72 z73 z74 z75 z76 z77 z78 z79 z80 z81 z82 z83 z84 z85 z86 z87 z88 z89 z90 : Value) (bs : Nat) (r f : Nat → Nat) (n : Nat) (d t : List Nat) (c cp : Nat) (A : Option Addr) (HG : Glob u) (HB : Blk u bs (stc r f n) 31) (HR : Rep r f n d) (HA : Rds u A t) (Hc : t.length ≤ cp) (Hx : ∀ x ∈ t, x < 256) (hc : c ≤ t.length) (hd : d.length + t.length < 2 ^ 59) (H : ∀ (r2 : Nat → Nat) (f2 : Nat → Nat) (n2 : Nat) (b13 : Nat) (w : World), Below u.heap.size u w → Rep r2 f2 n2 (d ++ t.take c) → u.heap.size ≤ b13 → Blk w b13 (stc r2 f2 n2) 31 → Q .normal { tmps := List.toArray (z0 :: z1 :: z2 :: z3 :: z4 :: z5 :: z6 :: (.pointer (some ⟨bs, 0, none⟩)) :: (.slice A t.length cp) :: z9 :: z10 :: (.int .i64 c) :: z12 :: (.pointer (some ⟨b13, 0, none⟩)) :: z14 :: z15 :: z16 :: z17 :: z18 :: z19 :: z20 :: z21 :: z22 :: z23 :: z24 :: z25 :: z26 :: z27 :: z28 :: z29 :: z30 :: z31 :: z32 :: z33 :: z34 :: z35 :: z36 :: z37 :: z38 :: z39 :: z40 :: z41 :: z42 :: z43 :: z44 :: (.agg (stc r f n)) :: (.slice A t.length cp) :: (.int .i64 c) :: (.slice A c cp) :: (.agg (stc r2 f2 n2)) :: z50 :: z51 :: z52 :: z53 :: z54 :: z55 :: z56 :: z57 :: z58 :: z59 :: z60 :: z61 :: z62 :: z63 :: z64 :: z65 :: z66 :: z67 :: z68 :: z69 :: z70 :: z71 :: z72 :: z73 :: z74 :: z75 :: z76 :: z77 :: z78 :: z79 :: z80 :: z81 :: z82 :: z83 :: z84 :: z85 :: z86 :: z87 :: z88 :: z89 :: z90 :: []), defers := [] } w) (b13 : Nat) (w : World) (hS : Below u.heap.size u w) (cB : Blk w b13 (stc (fun _ => 0) (fun _ => 0) 0) 31) (g13 : u.heap.size ≤ b13) :
    wpAnyH Tryd.prog .any paOps Q (fun w' => Below u.heap.size u w') 2 (List.toArray (true :: true :: true :: true :: false :: true :: false :: [])) { tmps := List.toArray (z0 :: z1 :: z2 :: z3 :: z4 :: z5 :: z6 :: (.pointer (some ⟨bs, 0, none⟩)) :: (.slice A t.length cp) :: z9 :: z10 :: (.int .i64 c) :: z12 :: (.pointer (some ⟨b13, 0, none⟩)) :: z14 :: z15 :: z16 :: z17 :: z18 :: z19 :: z20 :: z21 :: z22 :: z23 :: z24 :: z25 :: z26 :: z27 :: z28 :: z29 :: z30 :: z31 :: z32 :: z33 :: z34 :: z35 :: z36 :: z37 :: z38 :: z39 :: z40 :: z41 :: z42 :: z43 :: z44 :: (.agg (stc r f n)) :: (.slice A t.length cp) :: (.int .i64 c) :: (.slice A c cp) :: z49 :: z50 :: z51 :: z52 :: z53 :: z54 :: z55 :: z56 :: z57 :: z58 :: z59 :: z60 :: z61 :: z62 :: z63 :: z64 :: z65 :: z66 :: z67 :: z68 :: z69 :: z70 :: z71 :: z72 :: z73 :: z74 :: z75 :: z76 :: z77 :: z78 :: z79 :: z80 :: z81 :: z82 :: z83 :: z84 :: z85 :: z86 :: z87 :: z88 :: z89 :: z90 :: []), defers := [] } w := by
  refine wpAnyH_ready (rs := [4]) (by kernel_rfl) (by simp) ?_
  refine AllReadyH.cons (o := paOp4) rfl (fun K hK => ?_) AllReadyH.nil
  unfold paOp4
  go_simp
  refine (write_k r f n d (t.take c) c (d ++ t.take c) A cp _ w (by rfl) (by rw [List.length_take]; omega) (HG.low hS) HR (fun x hx => Hx x (List.mem_of_mem_take hx)) (rds_take (HA.low hS) c) (by omega) (by rw [List.length_take]; omega) rfl).mono ?_
  rintro e x ⟨r2, f2, n2, rfl, hR2, hb⟩
  dsimp only
  have hS' := keepCall hb rfl hS
  refine hK.out _ _ hS' (fun _ => ?_)
  clear hK K
  simp only [List.setIfInBounds_toArray, List.set_cons_zero, List.set_cons_succ]
  exact pa_1 Q hQ u z0 z1 z2 z3 z4 z5 z6 z9 z10 z12 z13 z14 z15 z16 z17 z18 z19 z20 z21 z22 z23 z24 z25 z26 z27 z28 z29 z30 z31 z32 z33 z34 z35 z36 z37 z38 z39 z40 z41 z42 z43 z44 z45 z46 z47 z48 z49 z50 z51 z52 z53 z54 z55 z56 z57 z58 z59 z60 z61 z62 z63 z64 z65 z66 z67 z68 z69 z70 z71 z72 z73 z74 z75 z76 z77 z78 z79 z80 z81 z82 z83 z84 z85 z86 z87 z88 z89 z90 bs r f n d t c cp A HG HB HR HA Hc Hx hc hd H r2 f2 n2 b13 x hS' (hR2) (cB.low hb) g13
set_option maxRecDepth 100000 in
set_option maxHeartbeats 1000000 in
theorem pa_3 (Q : Exit → Act → World → Prop) (hQ : ∀ c a w n v, Q (.panic c) (a.put (some n) v) w → Q (.panic c) a w) (u : World) (z0 z1 z2 z3 z4 z5 z6 z9 z10 z12 z13 z14 z15 z16 z17 z18 z19 z20 z21 z22 z23 z24 z25 z26 z27 z28 z29 z30 z31 z32 z33 z34 z35 z36 z37 z38 z39 z40 z41 z42 z43 z44 z45 z46 z47 z48 z49 z50 z51 z52 z53 z54 z55 z56 z57 z58 z59 z60 z61 z62 z63 z64 z65 z66 z67 z68 z69 z70 z71 z72 z73 z74 z75 z76 z77 z78 z79 z80 z81 z82 z83 z84 z85 z86 z87 z88 z89 z90 : Value) (bs : Nat) (r f : Nat → Nat) (n : Nat) (d t : List Nat) (c cp : Nat) (A : Option Addr) (HG : Glob u) (HB : Blk u bs (stc r f n) 31) (HR : Rep r f n d) (HA : Rds u A t) (Hc : t.length ≤ cp) (Hx : ∀ x ∈ t, x < 256) (hc : c ≤ t.length) (hd : d.length + t.length < 2 ^ 59) (H : ∀ (r2 : Nat → Nat) (f2 : Nat → Nat) (n2 : Nat) (b13 : Nat) (w : World), Below u.heap.size u w → Rep r2 f2 n2 (d ++ t.take c) → u.heap.size ≤ b13 → Blk w b13 (stc r2 f2 n2) 31 → Q .normal { tmps := List.toArray (z0 :: z1 :: z2 :: z3 :: z4 :: z5 :: z6 :: (.pointer (some ⟨bs, 0, none⟩)) :: (.slice A t.length cp) :: z9 :: z10 :: (.int .i64 c) :: z12 :: (.pointer (some ⟨b13, 0, none⟩)) :: z14 :: z15 :: z16 :: z17 :: z18 :: z19 :: z20 :: z21 :: z22 :: z23 :: z24 :: z25 :: z26 :: z27 :: z28 :: z29 :: z30 :: z31 :: z32 :: z33 :: z34 :: z35 :: z36 :: z37 :: z38 :: z39 :: z40 :: z41 :: z42 :: z43 :: z44 :: (.agg (stc r f n)) :: (.slice A t.length cp) :: (.int .i64 c) :: (.slice A c cp) :: (.agg (stc r2 f2 n2)) :: z50 :: z51 :: z52 :: z53 :: z54 :: z55 :: z56 :: z57 :: z58 :: z59 :: z60 :: z61 :: z62 :: z63 :: z64 :: z65 :: z66 :: z67 :: z68 :: z69 :: z70 :: z71 :: z72 :: z73 :: z74 :: z75 :: z76 :: z77 :: z78 :: z79 :: z80 :: z81 :: z82 :: z83 :: z84 :: z85 :: z86 :: z87 :: z88 :: z89 :: z90 :: []), defers := [] } w) (r2 : Nat → Nat) (f2 : Nat → Nat) (n2 : Nat) (w : World) (hS : Below u.heap.size u w) (hR2 : Rep r2 f2 n2 (d ++ t.take c)) :
    wpAnyH Tryd.prog .any paOps Q (fun w' => Below u.heap.size u w') 2 (List.toArray (true :: true :: true :: true :: true :: false :: false :: [])) { tmps := List.toArray (z0 :: z1 :: z2 :: z3 :: z4 :: z5 :: z6 :: (.pointer (some ⟨bs, 0, none⟩)) :: (.slice A t.length cp) :: z9 :: z10 :: (.int .i64 c) :: z12 :: z13 :: z14 :: z15 :: z16 :: z17 :: z18 :: z19 :: z20 :: z21 :: z22 :: z23 :: z24 :: z25 :: z26 :: z27 :: z28 :: z29 :: z30 :: z31 :: z32 :: z33 :: z34 :: z35 :: z36 :: z37 :: z38 :: z39 :: z40 :: z41 :: z42 :: z43 :: z44 :: (.agg (stc r f n)) :: (.slice A t.length cp) :: (.int .i64 c) :: (.slice A c cp) :: (.agg (stc r2 f2 n2)) :: z50 :: z51 :: z52 :: z53 :: z54 :: z55 :: z56 :: z57 :: z58 :: z59 :: z60 :: z61 :: z62 :: z63 :: z64 :: z65 :: z66 :: z67 :: z68 :: z69 :: z70 :: z71 :: z72 :: z73 :: z74 :: z75 :: z76 :: z77 :: z78 :: z79 :: z80 :: z81 :: z82 :: z83 :: z84 :: z85 :: z86 :: z87 :: z88 :: z89 :: z90 :: []), defers := [] } w := by
  refine wpAnyH_ready (rs := [5]) (by kernel_rfl) (by simp) ?_
  refine AllReadyH.cons (o := paOp5) rfl (fun K hK => ?_) AllReadyH.nil
  have hz := zero31
  have hb := (Below.refl w.heap.size w).alloc (Nat.le_refl _) (.cells (stc (fun _ => 0) (fun _ => 0) 0) 31)
  have hS' := keepCall hb rfl hS
  obtain ⟨b13, eb13⟩ : ∃ b, b = w.heap.size := ⟨_, rfl⟩
  have cB : Blk (w.alloc (.cells (stc (fun _ => 0) (fun _ => 0) 0) 31)) b13 (stc (fun _ => 0) (fun _ => 0) 0) 31 := by rw [eb13]; exact Blk.new w _ _
  have g13 : u.heap.size ≤ b13 := by rw [eb13]; exact hS.size
  unfold paOp5
  go_simp
  rw [← eb13]
  refine hK.out _ _ hS' (fun _ => ?_)
  clear hK K
  simp only [List.setIfInBounds_toArray, List.set_cons_zero, List.set_cons_succ]
  exact pa_1 Q hQ u z0 z1 z2 z3 z4 z5 z6 z9 z10 z12 z13 z14 z15 z16 z17 z18 z19 z20 z21 z22 z23 z24 z25 z26 z27 z28 z29 z30 z31 z32 z33 z34 z35 z36 z37 z38 z39 z40 z41 z42 z43 z44 z45 z46 z47 z48 z49 z50 z51 z52 z53 z54 z55 z56 z57 z58 z59 z60 z61 z62 z63 z64 z65 z66 z67 z68 z69 z70 z71 z72 z73 z74 z75 z76 z77 z78 z79 z80 z81 z82 z83 z84 z85 z86 z87 z88 z89 z90 bs r f n d t c cp A HG HB HR HA Hc Hx hc hd H r2 f2 n2 b13 (w.alloc (.cells (stc (fun _ => 0) (fun _ => 0) 0) 31)) hS' hR2 cB g13
set_option maxRecDepth 100000 in
set_option maxHeartbeats 1000000 in
theorem pa_4 (Q : Exit → Act → World → Prop) (hQ : ∀ c a w n v, Q (.panic c) (a.put (some n) v) w → Q (.panic c) a w) (u : World) (z0 z1 z2 z3 z4 z5 z6 z9 z10 z12 z13 z14 z15 z16 z17 z18 z19 z20 z21 z22 z23 z24 z25 z26 z27 z28 z29 z30 z31 z32 z33 z34 z35 z36 z37 z38 z39 z40 z41 z42 z43 z44 z45 z46 z47 z48 z49 z50 z51 z52 z53 z54 z55 z56 z57 z58 z59 z60 z61 z62 z63 z64 z65 z66 z67 z68 z69 z70 z71 z72 z73 z74 z75 z76 z77 z78 z79 z80 z81 z82 z83 z84 z85 z86 z87 z88 z89 z90 : Value) (bs : Nat) (r f : Nat → Nat) (n : Nat) (d t : List Nat) (c cp : Nat) (A : Option Addr) (HG : Glob u) (HB : Blk u bs (stc r f n) 31) (HR : Rep r f n d) (HA : Rds u A t) (Hc : t.length ≤ cp) (Hx : ∀ x ∈ t, x < 256) (hc : c ≤ t.length) (hd : d.length + t.length < 2 ^ 59) (H : ∀ (r2 : Nat → Nat) (f2 : Nat → Nat) (n2 : Nat) (b13 : Nat) (w : World), Below u.heap.size u w → Rep r2 f2 n2 (d ++ t.take c) → u.heap.size ≤ b13 → Blk w b13 (stc r2 f2 n2) 31 → Q .normal { tmps := List.toArray (z0 :: z1 :: z2 :: z3 :: z4 :: z5 :: z6 :: (.pointer (some ⟨bs, 0, none⟩)) :: (.slice A t.length cp) :: z9 :: z10 :: (.int .i64 c) :: z12 :: (.pointer (some ⟨b13, 0, none⟩)) :: z14 :: z15 :: z16 :: z17 :: z18 :: z19 :: z20 :: z21 :: z22 :: z23 :: z24 :: z25 :: z26 :: z27 :: z28 :: z29 :: z30 :: z31 :: z32 :: z33 :: z34 :: z35 :: z36 :: z37 :: z38 :: z39 :: z40 :: z41 :: z42 :: z43 :: z44 :: (.agg (stc r f n)) :: (.slice A t.length cp) :: (.int .i64 c) :: (.slice A c cp) :: (.agg (stc r2 f2 n2)) :: z50 :: z51 :: z52 :: z53 :: z54 :: z55 :: z56 :: z57 :: z58 :: z59 :: z60 :: z61 :: z62 :: z63 :: z64 :: z65 :: z66 :: z67 :: z68 :: z69 :: z70 :: z71 :: z72 :: z73 :: z74 :: z75 :: z76 :: z77 :: z78 :: z79 :: z80 :: z81 :: z82 :: z83 :: z84 :: z85 :: z86 :: z87 :: z88 :: z89 :: z90 :: []), defers := [] } w) (w : World) (hS : Below u.heap.size u w) :
    wpAnyH Tryd.prog .any paOps Q (fun w' => Below u.heap.size u w') 3 (List.toArray (true :: true :: true :: true :: false :: false :: false :: [])) { tmps := List.toArray (z0 :: z1 :: z2 :: z3 :: z4 :: z5 :: z6 :: (.pointer (some ⟨bs, 0, none⟩)) :: (.slice A t.length cp) :: z9 :: z10 :: (.int .i64 c) :: z12 :: z13 :: z14 :: z15 :: z16 :: z17 :: z18 :: z19 :: z20 :: z21 :: z22 :: z23 :: z24 :: z25 :: z26 :: z27 :: z28 :: z29 :: z30 :: z31 :: z32 :: z33 :: z34 :: z35 :: z36 :: z37 :: z38 :: z39 :: z40 :: z41 :: z42 :: z43 :: z44 :: (.agg (stc r f n)) :: (.slice A t.length cp) :: (.int .i64 c) :: (.slice A c cp) :: z49 :: z50 :: z51 :: z52 :: z53 :: z54 :: z55 :: z56 :: z57 :: z58 :: z59 :: z60 :: z61 :: z62 :: z63 :: z64 :: z65 :: z66 :: z67 :: z68 :: z69 :: z70 :: z71 :: z72 :: z73 :: z74 :: z75 :: z76 :: z77 :: z78 :: z79 :: z80 :: z81 :: z82 :: z83 :: z84 :: z85 :: z86 :: z87 :: z88 :: z89 :: z90 :: []), defers := [] } w := by
  refine wpAnyH_ready (rs := [4, 5]) (by kernel_rfl) (by simp) ?_
  refine AllReadyH.cons (o := paOp4) rfl (fun K hK => ?_) ?_
  · skip
    unfold paOp4
    go_simp
    refine (write_k r f n d (t.take c) c (d ++ t.take c) A cp _ w (by rfl) (by rw [List.length_take]; omega) (HG.low hS) HR (fun x hx => Hx x (List.mem_of_mem_take hx)) (rds_take (HA.low hS) c) (by omega) (by rw [List.length_take]; omega) rfl).mono ?_
    rintro e x ⟨r2, f2, n2, rfl, hR2, hb⟩
    dsimp only
    have hS' := keepCall hb rfl hS
    refine hK.out _ _ hS' (fun _ => ?_)
    clear hK K
    simp only [List.setIfInBounds_toArray, List.set_cons_zero, List.set_cons_succ]
    exact pa_3 Q hQ u z0 z1 z2 z3 z4 z5 z6 z9 z10 z12 z13 z14 z15 z16 z17 z18 z19 z20 z21 z22 z23 z24 z25 z26 z27 z28 z29 z30 z31 z32 z33 z34 z35 z36 z37 z38 z39 z40 z41 z42 z43 z44 z45 z46 z47 z48 z49 z50 z51 z52 z53 z54 z55 z56 z57 z58 z59 z60 z61 z62 z63 z64 z65 z66 z67 z68 z69 z70 z71 z72 z73 z74 z75 z76 z77 z78 z79 z80 z81 z82 z83 z84 z85 z86 z87 z88 z89 z90 bs r f n d t c cp A HG HB HR HA Hc Hx hc hd H r2 f2 n2 x hS' (hR2)
  · refine AllReadyH.cons (o := paOp5) rfl (fun K hK => ?_) AllReadyH.nil
    have hz := zero31
    have hb := (Below.refl w.heap.size w).alloc (Nat.le_refl _) (.cells (stc (fun _ => 0) (fun _ => 0) 0) 31)
    have hS' := keepCall hb rfl hS
    obtain ⟨b13, eb13⟩ : ∃ b, b = w.heap.size := ⟨_, rfl⟩
    have cB : Blk (w.alloc (.cells (stc (fun _ => 0) (fun _ => 0) 0) 31)) b13 (stc (fun _ => 0) (fun _ => 0) 0) 31 := by rw [eb13]; exact Blk.new w _ _
    have g13 : u.heap.size ≤ b13 := by rw [eb13]; exact hS.size
    unfold paOp5
    go_simp
    rw [← eb13]
    refine hK.out _ _ hS' (fun _ => ?_)
    clear hK K
    simp only [List.setIfInBounds_toArray, List.set_cons_zero, List.set_cons_succ]
    exact pa_2 Q hQ u z0 z1 z2 z3 z4 z5 z6 z9 z10 z12 z13 z14 z15 z16 z17 z18 z19 z20 z21 z22 z23 z24 z25 z26 z27 z28 z29 z30 z31 z32 z33 z34 z35 z36 z37 z38 z39 z40 z41 z42 z43 z44 z45 z46 z47 z48 z49 z50 z51 z52 z53 z54 z55 z56 z57 z58 z59 z60 z61 z62 z63 z64 z65 z66 z67 z68 z69 z70 z71 z72 z73 z74 z75 z76 z77 z78 z79 z80 z81 z82 z83 z84 z85 z86 z87 z88 z89 z90 bs r f n d t c cp A HG HB HR HA Hc Hx hc hd H b13 (w.alloc (.cells (stc (fun _ => 0) (fun _ => 0) 0) 31)) hS' cB g13
set_option maxRecDepth 100000 in
set_option maxHeartbeats 1000000 in
theorem pa_region (Q : Exit → Act → World → Prop) (hQ : ∀ c a w n v, Q (.panic c) (a.put (some n) v) w → Q (.panic c) a w) (u : World) (z0 z1 z2 z3 z4 z5 z6 z9 z10 z12 z13 z14 z15 z16 z17 z18 z19 z20 z21 z22 z23 z24 z25 z26 z27 z28 z29 z30 z31 z32 z33 z34 z35 z36 z37 z38 z39 z40 z41 z42 z43 z44 z45 z46 z47 z48 z49 z50 z51 z52 z53 z54 z55 z56 z57 z58 z59 z60 z61 z62 z63 z64 z65 z66 z67 z68 z69 z70 z71 z72 z73 z74 z75 z76 z77 z78 z79 z80 z81 z82 z83 z84 z85 z86 z87 z88 z89 z90 : Value) (bs : Nat) (r f : Nat → Nat) (n : Nat) (d t : List Nat) (c cp : Nat) (A : Option Addr) (HG : Glob u) (HB : Blk u bs (stc r f n) 31) (HR : Rep r f n d) (HA : Rds u A t) (Hc : t.length ≤ cp) (Hx : ∀ x ∈ t, x < 256) (hc : c ≤ t.length) (hd : d.length + t.length < 2 ^ 59) (H : ∀ (r2 : Nat → Nat) (f2 : Nat → Nat) (n2 : Nat) (b13 : Nat) (w : World), Below u.heap.size u w → Rep r2 f2 n2 (d ++ t.take c) → u.heap.size ≤ b13 → Blk w b13 (stc r2 f2 n2) 31 → Q .normal { tmps := List.toArray (z0 :: z1 :: z2 :: z3 :: z4 :: z5 :: z6 :: (.pointer (some ⟨bs, 0, none⟩)) :: (.slice A t.length cp) :: z9 :: z10 :: (.int .i64 c) :: z12 :: (.pointer (some ⟨b13, 0, none⟩)) :: z14 :: z15 :: z16 :: z17 :: z18 :: z19 :: z20 :: z21 :: z22 :: z23 :: z24 :: z25 :: z26 :: z27 :: z28 :: z29 :: z30 :: z31 :: z32 :: z33 :: z34 :: z35 :: z36 :: z37 :: z38 :: z39 :: z40 :: z41 :: z42 :: z43 :: z44 :: (.agg (stc r f n)) :: (.slice A t.length cp) :: (.int .i64 c) :: (.slice A c cp) :: (.agg (stc r2 f2 n2)) :: z50 :: z51 :: z52 :: z53 :: z54 :: z55 :: z56 :: z57 :: z58 :: z59 :: z60 :: z61 :: z62 :: z63 :: z64 :: z65 :: z66 :: z67 :: z68 :: z69 :: z70 :: z71 :: z72 :: z73 :: z74 :: z75 :: z76 :: z77 :: z78 :: z79 :: z80 :: z81 :: z82 :: z83 :: z84 :: z85 :: z86 :: z87 :: z88 :: z89 :: z90 :: []), defers := [] } w) :
    (Code.region 13 paOps true).wp Tryd.prog Q { tmps := List.toArray (z0 :: z1 :: z2 :: z3 :: z4 :: z5 :: z6 :: (.pointer (some ⟨bs, 0, none⟩)) :: (.slice A t.length cp) :: z9 :: z10 :: (.int .i64 c) :: z12 :: z13 :: z14 :: z15 :: z16 :: z17 :: z18 :: z19 :: z20 :: z21 :: z22 :: z23 :: z24 :: z25 :: z26 :: z27 :: z28 :: z29 :: z30 :: z31 :: z32 :: z33 :: z34 :: z35 :: z36 :: z37 :: z38 :: z39 :: z40 :: z41 :: z42 :: z43 :: z44 :: z45 :: z46 :: z47 :: z48 :: z49 :: z50 :: z51 :: z52 :: z53 :: z54 :: z55 :: z56 :: z57 :: z58 :: z59 :: z60 :: z61 :: z62 :: z63 :: z64 :: z65 :: z66 :: z67 :: z68 :: z69 :: z70 :: z71 :: z72 :: z73 :: z74 :: z75 :: z76 :: z77 :: z78 :: z79 :: z80 :: z81 :: z82 :: z83 :: z84 :: z85 :: z86 :: z87 :: z88 :: z89 :: z90 :: []), defers := [] } u := by
  refine wp_region_held_drew (S := (fun w' => Below u.heap.size u w')) (by kernel_rfl) (Below.refl _ _).drew (fun hS => ?_)
  refine wpAnyH_take (i := 0) (oi := paOp0) (v := .agg (stc r f n)) rfl (by kernel_rfl) (by kernel_rfl) (by kernel_rfl) (fun _ _ _ => hQ _ _ _ _ _) (yields_S (fun w' h => HB.call h) (by rfl) 31 _ rfl rfl _ Tryd.underlying31 rfl (by rw [stc_size]; exact cells31)) hS ?_
  try simp only [paOp0, Act.put, List.setIfInBounds_toArray, List.set_cons_zero, List.set_cons_succ]
  refine wpAnyH_take (i := 1) (oi := paOp1) (v := .slice A t.length cp) rfl (by kernel_rfl) (by kernel_rfl) (by kernel_rfl) (fun _ _ _ => hQ _ _ _ _ _) (Or.inl ⟨by rfl, fun w hSw => by unfold paOp1; go_simp⟩) hS ?_
  try simp only [paOp1, Act.put, List.setIfInBounds_toArray, List.set_cons_zero, List.set_cons_succ]
  refine wpAnyH_take (i := 2) (oi := paOp2) (v := .int .i64 c) rfl (by kernel_rfl) (by kernel_rfl) (by kernel_rfl) (fun _ _ _ => hQ _ _ _ _ _) (Or.inl ⟨by rfl, fun w hSw => by unfold paOp2; go_simp⟩) hS ?_
  try simp only [paOp2, Act.put, List.setIfInBounds_toArray, List.set_cons_zero, List.set_cons_succ]
  refine wpAnyH_take (i := 3) (oi := paOp3) (v := .slice A c cp) rfl (by kernel_rfl) (by kernel_rfl) (by kernel_rfl) (fun _ _ _ => hQ _ _ _ _ _) (Or.inl ⟨by rfl, fun w hSw => by have h0 := run_headc A t.length cp c (by omega); unfold paOp3; go_simp⟩) hS ?_
  try simp only [paOp3, Act.put, List.setIfInBounds_toArray, List.set_cons_zero, List.set_cons_succ]
  exact pa_4 Q hQ u z0 z1 z2 z3 z4 z5 z6 z9 z10 z12 z13 z14 z15 z16 z17 z18 z19 z20 z21 z22 z23 z24 z25 z26 z27 z28 z29 z30 z31 z32 z33 z34 z35 z36 z37 z38 z39 z40 z41 z42 z43 z44 z45 z46 z47 z48 z49 z50 z51 z52 z53 z54 z55 z56 z57 z58 z59 z60 z61 z62 z63 z64 z65 z66 z67 z68 z69 z70 z71 z72 z73 z74 z75 z76 z77 z78 z79 z80 z81 z82 z83 z84 z85 z86 z87 z88 z89 z90 bs r f n d t c cp A HG HB HR HA Hc Hx hc hd H u.drew hS
def pbOp0 : Oper := { dst := some 50, op := Op.load 31 (Operand.tmp 7), type := 31, pos := "law.go:50", after := #[], guard := none }
def pbOp1 : Oper := { dst := some 51, op := Op.call { callee := Callee.value (Operand.func 13), args := #[Operand.tmp 50], argTypes := #[31] }, type := 24, pos := "law.go:50", after := #[{ on := 0, ground := Ground.data }], guard := none }
def pbOp2 : Oper := { dst := some 52, op := Op.load 24 (Operand.tmp 12), type := 24, pos := "law.go:50", after := #[], guard := none }
def pbOp3 : Oper := { dst := some 53, op := Op.binOp BinOp.neq 24 (Operand.tmp 51) (Operand.tmp 52) 24, type := 4, pos := "law.go:50", after := #[{ on := 1, ground := Ground.data }, { on := 2, ground := Ground.data }], guard := none }
def pbOps : Array Oper := #[pbOp0, pbOp1, pbOp2, pbOp3]
set_option maxRecDepth 100000 in
set_option maxHeartbeats 1000000 in
theorem pb_0 (Q : Exit → Act → World → Prop) (hQ : ∀ c a w n v, Q (.panic c) (a.put (some n) v) w → Q (.panic c) a w) (u : World) (z0 z1 z2 z3 z4 z5 z6 z8 z9 z10 z11 z13 z14 z15 z16 z17 z18 z19 z20 z21 z22 z23 z24 z25 z26 z27 z28 z29 z30 z31 z32 z33 z34 z35 z36 z37 z38 z39 z40 z41 z42 z43 z44 z45 z46 z47 z48 z49 z50 z51 z52 z53 z54 z55 z56 z57 z58 z59 z60 z61 z62 z63 z64 z65 z66 z67 z68 z69 z70 z71 z72 z73 z74 z75 z76 z77 z78 z79 z80 z81 z82 z83 z84 z85 z86 z87 z88 z89 z90 : Value) (bs b12 : Nat) (r f : Nat → Nat) (n : Nat) (d : List Nat) (HG : Glob u) (HB : Blk u bs (stc r f n) 31) (HW : Blk u b12 (vals .u8 64 (dg d)) 24) (HR : Rep r f n d) (hd : d.length < 2 ^ 59) (H : ∀ (w : World), Below u.heap.size u w → Q .normal { tmps := List.toArray (z0 :: z1 :: z2 :: z3 :: z4 :: z5 :: z6 :: (.pointer (some ⟨bs, 0, none⟩)) :: z8 :: z9 :: z10 :: z11 :: (.pointer (some ⟨b12, 0, none⟩)) :: z13 :: z14 :: z15 :: z16 :: z17 :: z18 :: z19 :: z20 :: z21 :: z22 :: z23 :: z24 :: z25 :: z26 :: z27 :: z28 :: z29 :: z30 :: z31 :: z32 :: z33 :: z34 :: z35 :: z36 :: z37 :: z38 :: z39 :: z40 :: z41 :: z42 :: z43 :: z44 :: z45 :: z46 :: z47 :: z48 :: z49 :: (.agg (stc r f n)) :: (.agg (vals .u8 64 (dg d))) :: (.agg (vals .u8 64 (dg d))) :: ((.bool false)) :: z54 :: z55 :: z56 :: z57 :: z58 :: z59 :: z60 :: z61 :: z62 :: z63 :: z64 :: z65 :: z66 :: z67 :: z68 :: z69 :: z70 :: z71 :: z72 :: z73 :: z74 :: z75 :: z76 :: z77 :: z78 :: z79 :: z80 :: z81 :: z82 :: z83 :: z84 :: z85 :: z86 :: z87 :: z88 :: z89 :: z90 :: []), defers := [] } w) (w : World) (hS : Below u.heap.size u w) :
    wpAnyH Tryd.prog .any pbOps Q (fun w' => Below u.heap.size u w') 0 (List.toArray (true :: true :: true :: true :: [])) { tmps := List.toArray (z0 :: z1 :: z2 :: z3 :: z4 :: z5 :: z6 :: (.pointer (some ⟨bs, 0, none⟩)) :: z8 :: z9 :: z10 :: z11 :: (.pointer (some ⟨b12, 0, none⟩)) :: z13 :: z14 :: z15 :: z16 :: z17 :: z18 :: z19 :: z20 :: z21 :: z22 :: z23 :: z24 :: z25 :: z26 :: z27 :: z28 :: z29 :: z30 :: z31 :: z32 :: z33 :: z34 :: z35 :: z36 :: z37 :: z38 :: z39 :: z40 :: z41 :: z42 :: z43 :: z44 :: z45 :: z46 :: z47 :: z48 :: z49 :: (.agg (stc r f n)) :: (.agg (vals .u8 64 (dg d))) :: (.agg (vals .u8 64 (dg d))) :: ((.bool false)) :: z54 :: z55 :: z56 :: z57 :: z58 :: z59 :: z60 :: z61 :: z62 :: z63 :: z64 :: z65 :: z66 :: z67 :: z68 :: z69 :: z70 :: z71 :: z72 :: z73 :: z74 :: z75 :: z76 :: z77 :: z78 :: z79 :: z80 :: z81 :: z82 :: z83 :: z84 :: z85 :: z86 :: z87 :: z88 :: z89 :: z90 :: []), defers := [] } w := by
  have _ := hQ
  have _ := u
  have _ := z0
  have _ := z1
  have _ := z2
  have _ := z3
  have _ := z4
  have _ := z5
  have _ := z6
  have _ := z8
  have _ := z9
  have _ := z10
  have _ := z11
  have _ := z13
  have _ := z14
  have _ := z15
  have _ := z16
  have _ := z17
  have _ := z18
  have _ := z19
  have _ := z20
  have _ := z21
  have _ := z22
  have _ := z23
  have _ := z24
  have _ := z25
  have _ := z26
  have _ := z27
  have _ := z28
  have _ := z29
  have _ := z30
  have _ := z31
  have _ := z32
  have _ := z33
  have _ := z34
  have _ := z35
  have _ := z36
  have _ := z37
  have _ := z38
  have _ := z39
  have _ := z40
  have _ := z41
  have _ := z42
  have _ := z43
  have _ := z44
  have _ := z45
  have _ := z46
  have _ := z47
  have _ := z48
  have _ := z49
  have _ := z50
  have _ := z51
  have _ := z52
  have _ := z53
  have _ := z54
  have _ := z55
  have _ := z56
  have _ := z57
  have _ := z58
  have _ := z59
  have _ := z60
  have _ := z61
  have _ := z62
  have _ := z63
  have _ := z64
  have _ := z65
  have _ := z66
  have _ := z67
  have _ := z68
  have _ := z69
  have _ := z70
  have _ := z71
  have _ := z72
  have _ := z73
  have _ := z74
  have _ := z75
  have _ := z76
  have _ := z77
  have _ := z78
  have _ := z79
  have _ := z80
  have _ := z81
  have _ := z82
  have _ := z83
  have _ := z84
  have _ := z85
  have _ := z86
  have _ := z87
  have _ := z88
  have _ := z89
  have _ := z90
  have _ := bs
  have _ := b12
  have _ := r
  have _ := f
  have _ := n
  have _ := d
  have _ := HG
  have _ := HB
  have _ := HW
  have _ := HR
  have _ := hd
  exact wpAnyH_done (by kernel_rfl) (H  w hS ) _
set_option maxRecDepth 100000 in
set_option maxHeartbeats 1000000 in
theorem pb_1 (Q : Exit → Act → World → Prop) (hQ : ∀ c a w n v, Q (.panic c) (a.put (some n) v) w → Q (.panic c) a w) (u : World) (z0 z1 z2 z3 z4 z5 z6 z8 z9 z10 z11 z13 z14 z15 z16 z17 z18 z19 z20 z21 z22 z23 z24 z25 z26 z27 z28 z29 z30 z31 z32 z33 z34 z35 z36 z37 z38 z39 z40 z41 z42 z43 z44 z45 z46 z47 z48 z49 z50 z51 z52 z53 z54 z55 z56 z57 z58 z59 z60 z61 z62 z63 z64 z65 z66 z67 z68 z69 z70 z71 z72 z73 z74 z75 z76 z77 z78 z79 z80 z81 z82 z83 z84 z85 z86 z87 z88 z89 z90 : Value) (bs b12 : Nat) (r f : Nat → Nat) (n : Nat) (d : List Nat) (HG : Glob u) (HB : Blk u bs (stc r f n) 31) (HW : Blk u b12 (vals .u8 64 (dg d)) 24) (HR : Rep r f n d) (hd : d.length < 2 ^ 59) (H : ∀ (w : World), Below u.heap.size u w → Q .normal { tmps := List.toArray (z0 :: z1 :: z2 :: z3 :: z4 :: z5 :: z6 :: (.pointer (some ⟨bs, 0, none⟩)) :: z8 :: z9 :: z10 :: z11 :: (.pointer (some ⟨b12, 0, none⟩)) :: z13 :: z14 :: z15 :: z16 :: z17 :: z18 :: z19 :: z20 :: z21 :: z22 :: z23 :: z24 :: z25 :: z26 :: z27 :: z28 :: z29 :: z30 :: z31 :: z32 :: z33 :: z34 :: z35 :: z36 :: z37 :: z38 :: z39 :: z40 :: z41 :: z42 :: z43 :: z44 :: z45 :: z46 :: z47 :: z48 :: z49 :: (.agg (stc r f n)) :: (.agg (vals .u8 64 (dg d))) :: (.agg (vals .u8 64 (dg d))) :: ((.bool false)) :: z54 :: z55 :: z56 :: z57 :: z58 :: z59 :: z60 :: z61 :: z62 :: z63 :: z64 :: z65 :: z66 :: z67 :: z68 :: z69 :: z70 :: z71 :: z72 :: z73 :: z74 :: z75 :: z76 :: z77 :: z78 :: z79 :: z80 :: z81 :: z82 :: z83 :: z84 :: z85 :: z86 :: z87 :: z88 :: z89 :: z90 :: []), defers := [] } w) (w : World) (hS : Below u.heap.size u w) :
    wpAnyH Tryd.prog .any pbOps Q (fun w' => Below u.heap.size u w') 2 (List.toArray (true :: false :: true :: false :: [])) { tmps := List.toArray (z0 :: z1 :: z2 :: z3 :: z4 :: z5 :: z6 :: (.pointer (some ⟨bs, 0, none⟩)) :: z8 :: z9 :: z10 :: z11 :: (.pointer (some ⟨b12, 0, none⟩)) :: z13 :: z14 :: z15 :: z16 :: z17 :: z18 :: z19 :: z20 :: z21 :: z22 :: z23 :: z24 :: z25 :: z26 :: z27 :: z28 :: z29 :: z30 :: z31 :: z32 :: z33 :: z34 :: z35 :: z36 :: z37 :: z38 :: z39 :: z40 :: z41 :: z42 :: z43 :: z44 :: z45 :: z46 :: z47 :: z48 :: z49 :: (.agg (stc r f n)) :: z51 :: (.agg (vals .u8 64 (dg d))) :: z53 :: z54 :: z55 :: z56 :: z57 :: z58 :: z59 :: z60 :: z61 :: z62 :: z63 :: z64 :: z65 :: z66 :: z67 :: z68 :: z69 :: z70 :: z71 :: z72 :: z73 :: z74 :: z75 :: z76 :: z77 :: z78 :: z79 :: z80 :: z81 :: z82 :: z83 :: z84 :: z85 :: z86 :: z87 :: z88 :: z89 :: z90 :: []), defers := [] } w := by
  refine wpAnyH_ready (rs := [1]) (by kernel_rfl) (by simp) ?_
  refine AllReadyH.cons (o := pbOp1) rfl (fun K hK => ?_) AllReadyH.nil
  unfold pbOp1
  go_simp
  refine (sum_n r f n d d _ w (by rfl) (HG.low hS) HR (by omega) rfl).mono ?_
  rintro e x ⟨rfl, hb⟩
  dsimp only
  have hS' := keepCall hb rfl hS
  refine hK.out _ _ hS' (fun _ => ?_)
  clear hK K
  simp only [List.setIfInBounds_toArray, List.set_cons_zero, List.set_cons_succ]
  refine wpAnyH_take (i := 3) (oi := pbOp3) (v := (.bool false)) rfl (by kernel_rfl) (by kernel_rfl) (by kernel_rfl) (fun _ _ _ => hQ _ _ _ _ _) (Or.inl ⟨by rfl, fun w hSw => by have h0 := eq_self (dg d); unfold pbOp3; go_simp⟩) hS' ?_
  try simp only [pbOp3, Act.put, List.setIfInBounds_toArray, List.set_cons_zero, List.set_cons_succ]
  exact pb_0 Q hQ u z0 z1 z2 z3 z4 z5 z6 z8 z9 z10 z11 z13 z14 z15 z16 z17 z18 z19 z20 z21 z22 z23 z24 z25 z26 z27 z28 z29 z30 z31 z32 z33 z34 z35 z36 z37 z38 z39 z40 z41 z42 z43 z44 z45 z46 z47 z48 z49 z50 z51 z52 z53 z54 z55 z56 z57 z58 z59 z60 z61 z62 z63 z64 z65 z66 z67 z68 z69 z70 z71 z72 z73 z74 z75 z76 z77 z78 z79 z80 z81 z82 z83 z84 z85 z86 z87 z88 z89 z90 bs b12 r f n d HG HB HW HR hd H  x hS' 
set_option maxRecDepth 100000 in
set_option maxHeartbeats 1000000 in
theorem pb_region (Q : Exit → Act → World → Prop) (hQ : ∀ c a w n v, Q (.panic c) (a.put (some n) v) w → Q (.panic c) a w) (u : World) (z0 z1 z2 z3 z4 z5 z6 z8 z9 z10 z11 z13 z14 z15 z16 z17 z18 z19 z20 z21 z22 z23 z24 z25 z26 z27 z28 z29 z30 z31 z32 z33 z34 z35 z36 z37 z38 z39 z40 z41 z42 z43 z44 z45 z46 z47 z48 z49 z50 z51 z52 z53 z54 z55 z56 z57 z58 z59 z60 z61 z62 z63 z64 z65 z66 z67 z68 z69 z70 z71 z72 z73 z74 z75 z76 z77 z78 z79 z80 z81 z82 z83 z84 z85 z86 z87 z88 z89 z90 : Value) (bs b12 : Nat) (r f : Nat → Nat) (n : Nat) (d : List Nat) (HG : Glob u) (HB : Blk u bs (stc r f n) 31) (HW : Blk u b12 (vals .u8 64 (dg d)) 24) (HR : Rep r f n d) (hd : d.length < 2 ^ 59) (H : ∀ (w : World), Below u.heap.size u w → Q .normal { tmps := List.toArray (z0 :: z1 :: z2 :: z3 :: z4 :: z5 :: z6 :: (.pointer (some ⟨bs, 0, none⟩)) :: z8 :: z9 :: z10 :: z11 :: (.pointer (some ⟨b12, 0, none⟩)) :: z13 :: z14 :: z15 :: z16 :: z17 :: z18 :: z19 :: z20 :: z21 :: z22 :: z23 :: z24 :: z25 :: z26 :: z27 :: z28 :: z29 :: z30 :: z31 :: z32 :: z33 :: z34 :: z35 :: z36 :: z37 :: z38 :: z39 :: z40 :: z41 :: z42 :: z43 :: z44 :: z45 :: z46 :: z47 :: z48 :: z49 :: (.agg (stc r f n)) :: (.agg (vals .u8 64 (dg d))) :: (.agg (vals .u8 64 (dg d))) :: ((.bool false)) :: z54 :: z55 :: z56 :: z57 :: z58 :: z59 :: z60 :: z61 :: z62 :: z63 :: z64 :: z65 :: z66 :: z67 :: z68 :: z69 :: z70 :: z71 :: z72 :: z73 :: z74 :: z75 :: z76 :: z77 :: z78 :: z79 :: z80 :: z81 :: z82 :: z83 :: z84 :: z85 :: z86 :: z87 :: z88 :: z89 :: z90 :: []), defers := [] } w) :
    (Code.region 14 pbOps true).wp Tryd.prog Q { tmps := List.toArray (z0 :: z1 :: z2 :: z3 :: z4 :: z5 :: z6 :: (.pointer (some ⟨bs, 0, none⟩)) :: z8 :: z9 :: z10 :: z11 :: (.pointer (some ⟨b12, 0, none⟩)) :: z13 :: z14 :: z15 :: z16 :: z17 :: z18 :: z19 :: z20 :: z21 :: z22 :: z23 :: z24 :: z25 :: z26 :: z27 :: z28 :: z29 :: z30 :: z31 :: z32 :: z33 :: z34 :: z35 :: z36 :: z37 :: z38 :: z39 :: z40 :: z41 :: z42 :: z43 :: z44 :: z45 :: z46 :: z47 :: z48 :: z49 :: z50 :: z51 :: z52 :: z53 :: z54 :: z55 :: z56 :: z57 :: z58 :: z59 :: z60 :: z61 :: z62 :: z63 :: z64 :: z65 :: z66 :: z67 :: z68 :: z69 :: z70 :: z71 :: z72 :: z73 :: z74 :: z75 :: z76 :: z77 :: z78 :: z79 :: z80 :: z81 :: z82 :: z83 :: z84 :: z85 :: z86 :: z87 :: z88 :: z89 :: z90 :: []), defers := [] } u := by
  refine wp_region_held_drew (S := (fun w' => Below u.heap.size u w')) (by kernel_rfl) (Below.refl _ _).drew (fun hS => ?_)
  refine wpAnyH_take (i := 0) (oi := pbOp0) (v := .agg (stc r f n)) rfl (by kernel_rfl) (by kernel_rfl) (by kernel_rfl) (fun _ _ _ => hQ _ _ _ _ _) (yields_S (fun w' h => HB.call h) (by rfl) 31 _ rfl rfl _ Tryd.underlying31 rfl (by rw [stc_size]; exact cells31)) hS ?_
  try simp only [pbOp0, Act.put, List.setIfInBounds_toArray, List.set_cons_zero, List.set_cons_succ]
  refine wpAnyH_take (i := 2) (oi := pbOp2) (v := .agg (vals .u8 64 (dg d))) rfl (by kernel_rfl) (by kernel_rfl) (by kernel_rfl) (fun _ _ _ => hQ _ _ _ _ _) (yields_S (fun w' h => HW.call h) (by rfl) 24 _ rfl rfl _ Tryd.underlying24 rfl (by rw [vals_size]; exact cells24)) hS ?_
  try simp only [pbOp2, Act.put, List.setIfInBounds_toArray, List.set_cons_zero, List.set_cons_succ]
  exact pb_1 Q hQ u z0 z1 z2 z3 z4 z5 z6 z8 z9 z10 z11 z13 z14 z15 z16 z17 z18 z19 z20 z21 z22 z23 z24 z25 z26 z27 z28 z29 z30 z31 z32 z33 z34 z35 z36 z37 z38 z39 z40 z41 z42 z43 z44 z45 z46 z47 z48 z49 z50 z51 z52 z53 z54 z55 z56 z57 z58 z59 z60 z61 z62 z63 z64 z65 z66 z67 z68 z69 z70 z71 z72 z73 z74 z75 z76 z77 z78 z79 z80 z81 z82 z83 z84 z85 z86 z87 z88 z89 z90 bs b12 r f n d HG HB HW HR hd H u.drew hS
def pcOp0 : Oper := { dst := some 68, op := Op.move (Operand.tmp 5), type := 4, pos := "law.go:58", after := #[], guard := none }
def pcOp1 : Oper := { dst := some 69, op := Op.move (Operand.tmp 68), type := 4, pos := "law.go:58", after := #[{ on := 0, ground := Ground.data }], guard := none }
def pcOp2 : Oper := { dst := some 70, op := Op.load 31 (Operand.tmp 7), type := 31, pos := "law.go:58", after := #[{ on := 1, ground := Ground.guard }], guard := some (1, true) }
def pcOp3 : Oper := { dst := some 71, op := Op.move (Operand.tmp 8), type := 22, pos := "law.go:58", after := #[{ on := 1, ground := Ground.guard }], guard := some (1, true) }
def pcOp4 : Oper := { dst := some 72, op := Op.call { callee := Callee.value (Operand.func 12), args := #[Operand.tmp 70, Operand.tmp 71], argTypes := #[31, 22] }, type := 31, pos := "law.go:58", after := #[{ on := 2, ground := Ground.data }, { on := 3, ground := Ground.data }, { on := 1, ground := Ground.chain }, { on := 1, ground := Ground.guard }], guard := some (1, true) }
def pcOp5 : Oper := { dst := some 73, op := Op.call { callee := Callee.value (Operand.func 13), args := #[Operand.tmp 72], argTypes := #[31] }, type := 24, pos := "law.go:58", after := #[{ on := 4, ground := Ground.data }, { on := 4, ground := Ground.chain }, { on := 1, ground := Ground.guard }], guard := some (1, true) }
def pcOp6 : Oper := { dst := some 74, op := Op.load 24 (Operand.tmp 6), type := 24, pos := "law.go:58", after := #[{ on := 1, ground := Ground.guard }], guard := some (1, true) }
def pcOp7 : Oper := { dst := some 75, op := Op.binOp BinOp.eql 24 (Operand.tmp 73) (Operand.tmp 74) 24, type := 4, pos := "law.go:58", after := #[{ on := 5, ground := Ground.data }, { on := 6, ground := Ground.data }, { on := 1, ground := Ground.guard }], guard := some (1, true) }
def pcOp8 : Oper := { dst := some 76, op := Op.pick (Operand.tmp 69) (Operand.tmp 75) (Operand.const (Value.bool false)), type := 4, pos := "law.go:58", after := #[{ on := 1, ground := Ground.data }, { on := 7, ground := Ground.data }], guard := none }
def pcOp9 : Oper := { dst := some 77, op := Op.move (Operand.tmp 76), type := 4, pos := "law.go:58", after := #[{ on := 8, ground := Ground.data }, { on := 5, ground := Ground.chain }], guard := none }
def pcOp10 : Oper := { dst := some 78, op := Op.move (Operand.tmp 9), type := 44, pos := "law.go:58", after := #[{ on := 9, ground := Ground.guard }], guard := some (9, true) }
def pcOp11 : Oper := { dst := some 79, op := Op.call { callee := Callee.value (Operand.func 9), args := #[Operand.tmp 78], argTypes := #[44] }, type := 24, pos := "law.go:58", after := #[{ on := 10, ground := Ground.data }, { on := 9, ground := Ground.chain }, { on := 9, ground := Ground.guard }], guard := some (9, true) }
def pcOp12 : Oper := { dst := some 80, op := Op.load 24 (Operand.tmp 6), type := 24, pos := "law.go:58", after := #[{ on := 9, ground := Ground.guard }], guard := some (9, true) }
def pcOp13 : Oper := { dst := some 81, op := Op.binOp BinOp.eql 24 (Operand.tmp 79) (Operand.tmp 80) 24, type := 4, pos := "law.go:58", after := #[{ on := 11, ground := Ground.data }, { on := 12, ground := Ground.data }, { on := 9, ground := Ground.guard }], guard := some (9, true) }
def pcOp14 : Oper := { dst := some 82, op := Op.pick (Operand.tmp 77) (Operand.tmp 81) (Operand.const (Value.bool false)), type := 4, pos := "law.go:58", after := #[{ on := 9, ground := Ground.data }, { on := 13, ground := Ground.data }], guard := none }
def pcOp15 : Oper := { dst := some 83, op := Op.move (Operand.tmp 82), type := 4, pos := "law.go:58", after := #[{ on := 14, ground := Ground.data }, { on := 11, ground := Ground.chain }], guard := none }
def pcOp16 : Oper := { dst := some 84, op := Op.build 31 #[], type := 31, pos := "law.go:58", after := #[{ on := 15, ground := Ground.guard }], guard := some (15, true) }
def pcOp17 : Oper := { dst := some 85, op := Op.move (Operand.tmp 0), type := 22, pos := "law.go:58", after := #[{ on := 15, ground := Ground.guard }], guard := some (15, true) }
def pcOp18 : Oper := { dst := some 86, op := Op.call { callee := Callee.value (Operand.func 12), args := #[Operand.tmp 84, Operand.tmp 85], argTypes := #[31, 22] }, type := 31, pos := "law.go:58", after := #[{ on := 16, ground := Ground.data }, { on := 17, ground := Ground.data }, { on := 15, ground := Ground.chain }, { on := 15, ground := Ground.guard }], guard := some (15, true) }
def pcOp19 : Oper := { dst := some 87, op := Op.call { callee := Callee.value (Operand.func 13), args := #[Operand.tmp 86], argTypes := #[31] }, type := 24, pos := "law.go:58", after := #[{ on := 18, ground := Ground.data }, { on := 18, ground := Ground.chain }, { on := 15, ground := Ground.guard }], guard := some (15, true) }
def pcOp20 : Oper := { dst := some 88, op := Op.load 24 (Operand.tmp 6), type := 24, pos := "law.go:58", after := #[{ on := 15, ground := Ground.guard }], guard := some (15, true) }
def pcOp21 : Oper := { dst := some 89, op := Op.binOp BinOp.eql 24 (Operand.tmp 87) (Operand.tmp 88) 24, type := 4, pos := "law.go:58", after := #[{ on := 19, ground := Ground.data }, { on := 20, ground := Ground.data }, { on := 15, ground := Ground.guard }], guard := some (15, true) }
def pcOp22 : Oper := { dst := some 90, op := Op.pick (Operand.tmp 83) (Operand.tmp 89) (Operand.const (Value.bool false)), type := 4, pos := "law.go:58", after := #[{ on := 15, ground := Ground.data }, { on := 21, ground := Ground.data }], guard := none }
def pcOp23 : Oper := { dst := some 4, op := Op.assign (Operand.tmp 90), type := 4, pos := "law.go:58", after := #[{ on := 22, ground := Ground.data }, { on := 19, ground := Ground.chain }, { on := 0, ground := Ground.phase }, { on := 1, ground := Ground.phase }, { on := 2, ground := Ground.phase }, { on := 3, ground := Ground.phase }, { on := 4, ground := Ground.phase }, { on := 5, ground := Ground.phase }, { on := 6, ground := Ground.phase }, { on := 7, ground := Ground.phase }, { on := 8, ground := Ground.phase }, { on := 9, ground := Ground.phase }, { on := 10, ground := Ground.phase }, { on := 11, ground := Ground.phase }, { on := 12, ground := Ground.phase }, { on := 13, ground := Ground.phase }, { on := 14, ground := Ground.phase }, { on := 15, ground := Ground.phase }, { on := 16, ground := Ground.phase }, { on := 17, ground := Ground.phase }, { on := 18, ground := Ground.phase }, { on := 19, ground := Ground.phase }, { on := 20, ground := Ground.phase }, { on := 21, ground := Ground.phase }, { on := 22, ground := Ground.phase }], guard := none }
def pcOps : Array Oper := #[pcOp0, pcOp1, pcOp2, pcOp3, pcOp4, pcOp5, pcOp6, pcOp7, pcOp8, pcOp9, pcOp10, pcOp11, pcOp12, pcOp13, pcOp14, pcOp15, pcOp16, pcOp17, pcOp18, pcOp19, pcOp20, pcOp21, pcOp22, pcOp23]
set_option maxRecDepth 100000 in
set_option maxHeartbeats 1000000 in
theorem pc_0 (Q : Exit → Act → World → Prop) (hQ : ∀ c a w n v, Q (.panic c) (a.put (some n) v) w → Q (.panic c) a w) (u : World) (z1 z2 z3 z4 z10 z11 z12 z13 z14 z15 z16 z17 z18 z19 z20 z21 z22 z23 z24 z25 z26 z27 z28 z29 z30 z31 z32 z33 z34 z35 z36 z37 z38 z39 z40 z41 z42 z43 z44 z45 z46 z47 z48 z49 z50 z51 z52 z53 z54 z55 z56 z57 z58 z59 z60 z61 z62 z63 z64 z65 z66 z67 z68 z69 z70 z71 z72 z73 z74 z75 z76 z77 z78 z79 z80 z81 z82 z83 z84 z85 z86 z87 z88 z89 z90 : Value) (bs bw : Nat) (r f : Nat → Nat) (n : Nat) (d t l : List Nat) (cp c0 pcp : Nat) (A A0 P : Option Addr) (ps : List Pt) (HG : Glob u) (HB : Blk u bs (stc r f n) 31) (HW : Blk u bw (vals .u8 64 (dg l)) 24) (HR : Rep r f n d) (HA : Rds u A t) (Hc : t.length ≤ cp) (Hx : ∀ x ∈ t, x < 256) (hdt : d ++ t = l) (HA0 : Rds u A0 l) (Hc0 : l.length ≤ c0) (Hx0 : ∀ x ∈ l, x < 256) (HP : Prt u P ps) (HO : PtOk u ps) (hcat : cat ps = l) (hps : ps.length < 2 ^ 60) (hl : l.length < 2 ^ 58) (hdl : d.length + t.length < 2 ^ 59) (H : ∀ (r2 : Nat → Nat) (f2 : Nat → Nat) (n2 : Nat) (r3 : Nat → Nat) (f3 : Nat → Nat) (n3 : Nat) (w : World), Below u.heap.size u w → Rep r2 f2 n2 l → Rep r3 f3 n3 l → Q .normal { tmps := List.toArray ((.slice A0 l.length c0) :: z1 :: z2 :: z3 :: ((.bool true)) :: ((.bool true)) :: (.pointer (some ⟨bw, 0, none⟩)) :: (.pointer (some ⟨bs, 0, none⟩)) :: (.slice A t.length cp) :: (.slice P ps.length pcp) :: z10 :: z11 :: z12 :: z13 :: z14 :: z15 :: z16 :: z17 :: z18 :: z19 :: z20 :: z21 :: z22 :: z23 :: z24 :: z25 :: z26 :: z27 :: z28 :: z29 :: z30 :: z31 :: z32 :: z33 :: z34 :: z35 :: z36 :: z37 :: z38 :: z39 :: z40 :: z41 :: z42 :: z43 :: z44 :: z45 :: z46 :: z47 :: z48 :: z49 :: z50 :: z51 :: z52 :: z53 :: z54 :: z55 :: z56 :: z57 :: z58 :: z59 :: z60 :: z61 :: z62 :: z63 :: z64 :: z65 :: z66 :: z67 :: ((.bool true)) :: ((.bool true)) :: (.agg (stc r f n)) :: (.slice A t.length cp) :: (.agg (stc r2 f2 n2)) :: (.agg (vals .u8 64 (dg l))) :: (.agg (vals .u8 64 (dg l))) :: ((.bool true)) :: ((.bool true)) :: ((.bool true)) :: (.slice P ps.length pcp) :: (.agg (vals .u8 64 (dg l))) :: (.agg (vals .u8 64 (dg l))) :: ((.bool true)) :: ((.bool true)) :: ((.bool true)) :: (.agg (stc (fun _ => 0) (fun _ => 0) 0)) :: (.slice A0 l.length c0) :: (.agg (stc r3 f3 n3)) :: (.agg (vals .u8 64 (dg l))) :: (.agg (vals .u8 64 (dg l))) :: ((.bool true)) :: ((.bool true)) :: []), defers := [] } w) (r2 : Nat → Nat) (f2 : Nat → Nat) (n2 : Nat) (r3 : Nat → Nat) (f3 : Nat → Nat) (n3 : Nat) (w : World) (hS : Below u.heap.size u w) (hR2 : Rep r2 f2 n2 l) (hR3 : Rep r3 f3 n3 l) :
    wpAnyH Tryd.prog .any pcOps Q (fun w' => Below u.heap.size u w') 0 (List.toArray (true :: true :: true :: true :: true :: true :: true :: true :: true :: true :: true :: true :: true :: true :: true :: true :: true :: true :: true :: true :: true :: true :: true :: true :: [])) { tmps := List.toArray ((.slice A0 l.length c0) :: z1 :: z2 :: z3 :: ((.bool true)) :: ((.bool true)) :: (.pointer (some ⟨bw, 0, none⟩)) :: (.pointer (some ⟨bs, 0, none⟩)) :: (.slice A t.length cp) :: (.slice P ps.length pcp) :: z10 :: z11 :: z12 :: z13 :: z14 :: z15 :: z16 :: z17 :: z18 :: z19 :: z20 :: z21 :: z22 :: z23 :: z24 :: z25 :: z26 :: z27 :: z28 :: z29 :: z30 :: z31 :: z32 :: z33 :: z34 :: z35 :: z36 :: z37 :: z38 :: z39 :: z40 :: z41 :: z42 :: z43 :: z44 :: z45 :: z46 :: z47 :: z48 :: z49 :: z50 :: z51 :: z52 :: z53 :: z54 :: z55 :: z56 :: z57 :: z58 :: z59 :: z60 :: z61 :: z62 :: z63 :: z64 :: z65 :: z66 :: z67 :: ((.bool true)) :: ((.bool true)) :: (.agg (stc r f n)) :: (.slice A t.length cp) :: (.agg (stc r2 f2 n2)) :: (.agg (vals .u8 64 (dg l))) :: (.agg (vals .u8 64 (dg l))) :: ((.bool true)) :: ((.bool true)) :: ((.bool true)) :: (.slice P ps.length pcp) :: (.agg (vals .u8 64 (dg l))) :: (.agg (vals .u8 64 (dg l))) :: ((.bool true)) :: ((.bool true)) :: ((.bool true)) :: (.agg (stc (fun _ => 0) (fun _ => 0) 0)) :: (.slice A0 l.length c0) :: (.agg (stc r3 f3 n3)) :: (.agg (vals .u8 64 (dg l))) :: (.agg (vals .u8 64 (dg l))) :: ((.bool true)) :: ((.bool true)) :: []), defers := [] } w := by
  have _ := hQ
  have _ := u
  have _ := z1
  have _ := z2
  have _ := z3
  have _ := z4
  have _ := z10
  have _ := z11
  have _ := z12
  have _ := z13
  have _ := z14
  have _ := z15
  have _ := z16
  have _ := z17
  have _ := z18
  have _ := z19
  have _ := z20
  have _ := z21
  have _ := z22
  have _ := z23
  have _ := z24
  have _ := z25
  have _ := z26
  have _ := z27
  have _ := z28
  have _ := z29
  have _ := z30
  have _ := z31
  have _ := z32
  have _ := z33
  have _ := z34
  have _ := z35
  have _ := z36
  have _ := z37
  have _ := z38
  have _ := z39
  have _ := z40
  have _ := z41
  have _ := z42
  have _ := z43
  have _ := z44
  have _ := z45
  have _ := z46
  have _ := z47
  have _ := z48
  have _ := z49
  have _ := z50
  have _ := z51
  have _ := z52
  have _ := z53
  have _ := z54
  have _ := z55
  have _ := z56
  have _ := z57
  have _ := z58
  have _ := z59
  have _ := z60
  have _ := z61
  have _ := z62
  have _ := z63
  have _ := z64
  have _ := z65
  have _ := z66
  have _ := z67
  have _ := z68
  have _ := z69
  have _ := z70
  have _ := z71
  have _ := z72
  have _ := z73
  have _ := z74
  have _ := z75
  have _ := z76
  have _ := z77
  have _ := z78
  have _ := z79
  have _ := z80
  have _ := z81
  have _ := z82
  have _ := z83
  have _ := z84
  have _ := z85
  have _ := z86
  have _ := z87
  have _ := z88
  have _ := z89
  have _ := z90
  have _ := bs
  have _ := bw
  have _ := r
  have _ := f
  have _ := n
  have _ := d
  have _ := t
  have _ := l
  have _ := cp
  have _ := c0
  have _ := pcp
  have _ := A
  have _ := A0
  have _ := P
  have _ := ps
  have _ := HG
  have _ := HB
  have _ := HW
  have _ := HR
  have _ := HA
  have _ := Hc
  have _ := Hx
  have _ := hdt
  have _ := HA0
  have _ := Hc0
  have _ := Hx0
  have _ := HP
  have _ := HO
  have _ := hcat
  have _ := hps
  have _ := hl
  have _ := hdl
  exact wpAnyH_done (by kernel_rfl) (H r2 f2 n2 r3 f3 n3 w hS hR2 hR3) _
set_option maxRecDepth 100000 in
set_option maxHeartbeats 1000000 in
theorem pc_1 (Q : Exit → Act → World → Prop) (hQ : ∀ c a w n v, Q (.panic c) (a.put (some n) v) w → Q (.panic c) a w) (u : World) (z1 z2 z3 z4 z10 z11 z12 z13 z14 z15 z16 z17 z18 z19 z20 z21 z22 z23 z24 z25 z26 z27 z28 z29 z30 z31 z32 z33 z34 z35 z36 z37 z38 z39 z40 z41 z42 z43 z44 z45 z46 z47 z48 z49 z50 z51 z52 z53 z54 z55 z56 z57 z58 z59 z60 z61 z62 z63 z64 z65 z66 z67 z68 z69 z70 z71 z72 z73 z74 z75 z76 z77 z78 z79 z80 z81 z82 z83 z84 z85 z86 z87 z88 z89 z90 : Value) (bs bw : Nat) (r f : Nat → Nat) (n : Nat) (d t l : List Nat) (cp c0 pcp : Nat) (A A0 P : Option Addr) (ps : List Pt) (HG : Glob u) (HB : Blk u bs (stc r f n) 31) (HW : Blk u bw (vals .u8 64 (dg l)) 24) (HR : Rep r f n d) (HA : Rds u A t) (Hc : t.length ≤ cp) (Hx : ∀ x ∈ t, x < 256) (hdt : d ++ t = l) (HA0 : Rds u A0 l) (Hc0 : l.length ≤ c0) (Hx0 : ∀ x ∈ l, x < 256) (HP : Prt u P ps) (HO : PtOk u ps) (hcat : cat ps = l) (hps : ps.length < 2 ^ 60) (hl : l.length < 2 ^ 58) (hdl : d.length + t.length < 2 ^ 59) (H : ∀ (r2 : Nat → Nat) (f2 : Nat → Nat) (n2 : Nat) (r3 : Nat → Nat) (f3 : Nat → Nat) (n3 : Nat) (w : World), Below u.heap.size u w → Rep r2 f2 n2 l → Rep r3 f3 n3 l → Q .normal { tmps := List.toArray ((.slice A0 l.length c0) :: z1 :: z2 :: z3 :: ((.bool true)) :: ((.bool true)) :: (.pointer (some ⟨bw, 0, none⟩)) :: (.pointer (some ⟨bs, 0, none⟩)) :: (.slice A t.length cp) :: (.slice P ps.length pcp) :: z10 :: z11 :: z12 :: z13 :: z14 :: z15 :: z16 :: z17 :: z18 :: z19 :: z20 :: z21 :: z22 :: z23 :: z24 :: z25 :: z26 :: z27 :: z28 :: z29 :: z30 :: z31 :: z32 :: z33 :: z34 :: z35 :: z36 :: z37 :: z38 :: z39 :: z40 :: z41 :: z42 :: z43 :: z44 :: z45 :: z46 :: z47 :: z48 :: z49 :: z50 :: z51 :: z52 :: z53 :: z54 :: z55 :: z56 :: z57 :: z58 :: z59 :: z60 :: z61 :: z62 :: z63 :: z64 :: z65 :: z66 :: z67 :: ((.bool true)) :: ((.bool true)) :: (.agg (stc r f n)) :: (.slice A t.length cp) :: (.agg (stc r2 f2 n2)) :: (.agg (vals .u8 64 (dg l))) :: (.agg (vals .u8 64 (dg l))) :: ((.bool true)) :: ((.bool true)) :: ((.bool true)) :: (.slice P ps.length pcp) :: (.agg (vals .u8 64 (dg l))) :: (.agg (vals .u8 64 (dg l))) :: ((.bool true)) :: ((.bool true)) :: ((.bool true)) :: (.agg (stc (fun _ => 0) (fun _ => 0) 0)) :: (.slice A0 l.length c0) :: (.agg (stc r3 f3 n3)) :: (.agg (vals .u8 64 (dg l))) :: (.agg (vals .u8 64 (dg l))) :: ((.bool true)) :: ((.bool true)) :: []), defers := [] } w) (r2 : Nat → Nat) (f2 : Nat → Nat) (n2 : Nat) (r3 : Nat → Nat) (f3 : Nat → Nat) (n3 : Nat) (w : World) (hS : Below u.heap.size u w) (hR2 : Rep r2 f2 n2 l) (hR3 : Rep r3 f3 n3 l) :
    wpAnyH Tryd.prog .any pcOps Q (fun w' => Below u.heap.size u w') 4 (List.toArray (true :: true :: true :: true :: true :: true :: true :: true :: true :: true :: true :: true :: true :: true :: true :: true :: true :: true :: true :: false :: true :: false :: false :: false :: [])) { tmps := List.toArray ((.slice A0 l.length c0) :: z1 :: z2 :: z3 :: z4 :: ((.bool true)) :: (.pointer (some ⟨bw, 0, none⟩)) :: (.pointer (some ⟨bs, 0, none⟩)) :: (.slice A t.length cp) :: (.slice P ps.length pcp) :: z10 :: z11 :: z12 :: z13 :: z14 :: z15 :: z16 :: z17 :: z18 :: z19 :: z20 :: z21 :: z22 :: z23 :: z24 :: z25 :: z26 :: z27 :: z28 :: z29 :: z30 :: z31 :: z32 :: z33 :: z34 :: z35 :: z36 :: z37 :: z38 :: z39 :: z40 :: z41 :: z42 :: z43 :: z44 :: z45 :: z46 :: z47 :: z48 :: z49 :: z50 :: z51 :: z52 :: z53 :: z54 :: z55 :: z56 :: z57 :: z58 :: z59 :: z60 :: z61 :: z62 :: z63 :: z64 :: z65 :: z66 :: z67 :: ((.bool true)) :: ((.bool true)) :: (.agg (stc r f n)) :: (.slice A t.length cp) :: (.agg (stc r2 f2 n2)) :: (.agg (vals .u8 64 (dg l))) :: (.agg (vals .u8 64 (dg l))) :: ((.bool true)) :: ((.bool true)) :: ((.bool true)) :: (.slice P ps.length pcp) :: (.agg (vals .u8 64 (dg l))) :: (.agg (vals .u8 64 (dg l))) :: ((.bool true)) :: ((.bool true)) :: ((.bool true)) :: (.agg (stc (fun _ => 0) (fun _ => 0) 0)) :: (.slice A0 l.length c0) :: (.agg (stc r3 f3 n3)) :: z87 :: (.agg (vals .u8 64 (dg l))) :: z89 :: z90 :: []), defers := [] } w := by
  refine wpAnyH_ready (rs := [19]) (by kernel_rfl) (by simp) ?_
  refine AllReadyH.cons (o := pcOp19) rfl (fun K hK => ?_) AllReadyH.nil
  unfold pcOp19
  go_simp
  refine (sum_n r3 f3 n3 l l _ w (by rfl) (HG.low hS) hR3 (by omega) rfl).mono ?_
  rintro e x ⟨rfl, hb⟩
  dsimp only
  have hS' := keepCall hb rfl hS
  refine hK.out _ _ hS' (fun _ => ?_)
  clear hK K
  simp only [List.setIfInBounds_toArray, List.set_cons_zero, List.set_cons_succ]
  refine wpAnyH_take (i := 21) (oi := pcOp21) (v := (.bool true)) rfl (by kernel_rfl) (by kernel_rfl) (by kernel_rfl) (fun _ _ _ => hQ _ _ _ _ _) (Or.inl ⟨by rfl, fun w hSw => by have h0 := eq_self (dg l); unfold pcOp21; go_simp⟩) hS' ?_
  try simp only [pcOp21, Act.put, List.setIfInBounds_toArray, List.set_cons_zero, List.set_cons_succ]
  refine wpAnyH_take (i := 22) (oi := pcOp22) (v := (.bool true)) rfl (by kernel_rfl) (by kernel_rfl) (by kernel_rfl) (fun _ _ _ => hQ _ _ _ _ _) (Or.inl ⟨by rfl, fun w hSw => by unfold pcOp22; go_simp⟩) hS' ?_
  try simp only [pcOp22, Act.put, List.setIfInBounds_toArray, List.set_cons_zero, List.set_cons_succ]
  refine wpAnyH_take (i := 23) (oi := pcOp23) (v := (.bool true)) rfl (by kernel_rfl) (by kernel_rfl) (by kernel_rfl) (fun _ _ _ => hQ _ _ _ _ _) (Or.inl ⟨by rfl, fun w hSw => by unfold pcOp23; go_simp⟩) hS' ?_
  try simp only [pcOp23, Act.put, List.setIfInBounds_toArray, List.set_cons_zero, List.set_cons_succ]
  exact pc_0 Q hQ u z1 z2 z3 z4 z10 z11 z12 z13 z14 z15 z16 z17 z18 z19 z20 z21 z22 z23 z24 z25 z26 z27 z28 z29 z30 z31 z32 z33 z34 z35 z36 z37 z38 z39 z40 z41 z42 z43 z44 z45 z46 z47 z48 z49 z50 z51 z52 z53 z54 z55 z56 z57 z58 z59 z60 z61 z62 z63 z64 z65 z66 z67 z68 z69 z70 z71 z72 z73 z74 z75 z76 z77 z78 z79 z80 z81 z82 z83 z84 z85 z86 z87 z88 z89 z90 bs bw r f n d t l cp c0 pcp A A0 P ps HG HB HW HR HA Hc Hx hdt HA0 Hc0 Hx0 HP HO hcat hps hl hdl H r2 f2 n2 r3 f3 n3 x hS' hR2 hR3
set_option maxRecDepth 100000 in
set_option maxHeartbeats 1000000 in
theorem pc_2 (Q : Exit → Act → World → Prop) (hQ : ∀ c a w n v, Q (.panic c) (a.put (some n) v) w → Q (.panic c) a w) (u : World) (z1 z2 z3 z4 z10 z11 z12 z13 z14 z15 z16 z17 z18 z19 z20 z21 z22 z23 z24 z25 z26 z27 z28 z29 z30 z31 z32 z33 z34 z35 z36 z37 z38 z39 z40 z41 z42 z43 z44 z45 z46 z47 z48 z49 z50 z51 z52 z53 z54 z55 z56 z57 z58 z59 z60 z61 z62 z63 z64 z65 z66 z67 z68 z69 z70 z71 z72 z73 z74 z75 z76 z77 z78 z79 z80 z81 z82 z83 z84 z85 z86 z87 z88 z89 z90 : Value) (bs bw : Nat) (r f : Nat → Nat) (n : Nat) (d t l : List Nat) (cp c0 pcp : Nat) (A A0 P : Option Addr) (ps : List Pt) (HG : Glob u) (HB : Blk u bs (stc r f n) 31) (HW : Blk u bw (vals .u8 64 (dg l)) 24) (HR : Rep r f n d) (HA : Rds u A t) (Hc : t.length ≤ cp) (Hx : ∀ x ∈ t, x < 256) (hdt : d ++ t = l) (HA0 : Rds u A0 l) (Hc0 : l.length ≤ c0) (Hx0 : ∀ x ∈ l, x < 256) (HP : Prt u P ps) (HO : PtOk u ps) (hcat : cat ps = l) (hps : ps.length < 2 ^ 60) (hl : l.length < 2 ^ 58) (hdl : d.length + t.length < 2 ^ 59) (H : ∀ (r2 : Nat → Nat) (f2 : Nat → Nat) (n2 : Nat) (r3 : Nat → Nat) (f3 : Nat → Nat) (n3 : Nat) (w : World), Below u.heap.size u w → Rep r2 f2 n2 l → Rep r3 f3 n3 l → Q .normal { tmps := List.toArray ((.slice A0 l.length c0) :: z1 :: z2 :: z3 :: ((.bool true)) :: ((.bool true)) :: (.pointer (some ⟨bw, 0, none⟩)) :: (.pointer (some ⟨bs, 0, none⟩)) :: (.slice A t.length cp) :: (.slice P ps.length pcp) :: z10 :: z11 :: z12 :: z13 :: z14 :: z15 :: z16 :: z17 :: z18 :: z19 :: z20 :: z21 :: z22 :: z23 :: z24 :: z25 :: z26 :: z27 :: z28 :: z29 :: z30 :: z31 :: z32 :: z33 :: z34 :: z35 :: z36 :: z37 :: z38 :: z39 :: z40 :: z41 :: z42 :: z43 :: z44 :: z45 :: z46 :: z47 :: z48 :: z49 :: z50 :: z51 :: z52 :: z53 :: z54 :: z55 :: z56 :: z57 :: z58 :: z59 :: z60 :: z61 :: z62 :: z63 :: z64 :: z65 :: z66 :: z67 :: ((.bool true)) :: ((.bool true)) :: (.agg (stc r f n)) :: (.slice A t.length cp) :: (.agg (stc r2 f2 n2)) :: (.agg (vals .u8 64 (dg l))) :: (.agg (vals .u8 64 (dg l))) :: ((.bool true)) :: ((.bool true)) :: ((.bool true)) :: (.slice P ps.length pcp) :: (.agg (vals .u8 64 (dg l))) :: (.agg (vals .u8 64 (dg l))) :: ((.bool true)) :: ((.bool true)) :: ((.bool true)) :: (.agg (stc (fun _ => 0) (fun _ => 0) 0)) :: (.slice A0 l.length c0) :: (.agg (stc r3 f3 n3)) :: (.agg (vals .u8 64 (dg l))) :: (.agg (vals .u8 64 (dg l))) :: ((.bool true)) :: ((.bool true)) :: []), defers := [] } w) (r2 : Nat → Nat) (f2 : Nat → Nat) (n2 : Nat) (w : World) (hS : Below u.heap.size u w) (hR2 : Rep r2 f2 n2 l) :
    wpAnyH Tryd.prog .any pcOps Q (fun w' => Below u.heap.size u w') 5 (List.toArray (true :: true :: true :: true :: true :: true :: true :: true :: true :: true :: true :: true :: true :: true :: true :: true :: true :: true :: false :: false :: true :: false :: false :: false :: [])) { tmps := List.toArray ((.slice A0 l.length c0) :: z1 :: z2 :: z3 :: z4 :: ((.bool true)) :: (.pointer (some ⟨bw, 0, none⟩)) :: (.pointer (some ⟨bs, 0, none⟩)) :: (.slice A t.length cp) :: (.slice P ps.length pcp) :: z10 :: z11 :: z12 :: z13 :: z14 :: z15 :: z16 :: z17 :: z18 :: z19 :: z20 :: z21 :: z22 :: z23 :: z24 :: z25 :: z26 :: z27 :: z28 :: z29 :: z30 :: z31 :: z32 :: z33 :: z34 :: z35 :: z36 :: z37 :: z38 :: z39 :: z40 :: z41 :: z42 :: z43 :: z44 :: z45 :: z46 :: z47 :: z48 :: z49 :: z50 :: z51 :: z52 :: z53 :: z54 :: z55 :: z56 :: z57 :: z58 :: z59 :: z60 :: z61 :: z62 :: z63 :: z64 :: z65 :: z66 :: z67 :: ((.bool true)) :: ((.bool true)) :: (.agg (stc r f n)) :: (.slice A t.length cp) :: (.agg (stc r2 f2 n2)) :: (.agg (vals .u8 64 (dg l))) :: (.agg (vals .u8 64 (dg l))) :: ((.bool true)) :: ((.bool true)) :: ((.bool true)) :: (.slice P ps.length pcp) :: (.agg (vals .u8 64 (dg l))) :: (.agg (vals .u8 64 (dg l))) :: ((.bool true)) :: ((.bool true)) :: ((.bool true)) :: (.agg (stc (fun _ => 0) (fun _ => 0) 0)) :: (.slice A0 l.length c0) :: z86 :: z87 :: (.agg (vals .u8 64 (dg l))) :: z89 :: z90 :: []), defers := [] } w := by
  refine wpAnyH_ready (rs := [18]) (by kernel_rfl) (by simp) ?_
  refine AllReadyH.cons (o := pcOp18) rfl (fun K hK => ?_) AllReadyH.nil
  unfold pcOp18
  go_simp
  refine (write_n (fun _ => 0) (fun _ => 0) 0 [] l l A0 c0 _ w (by rfl) (HG.low hS) rep_none Hx0 (HA0.low hS) Hc0 (by show 0 + l.length < _; omega) rfl).mono ?_
  rintro e x ⟨r3, f3, n3, rfl, hR3, hb⟩
  dsimp only
  have hS' := keepCall hb rfl hS
  refine hK.out _ _ hS' (fun _ => ?_)
  clear hK K
  simp only [List.setIfInBounds_toArray, List.set_cons_zero, List.set_cons_succ]
  exact pc_1 Q hQ u z1 z2 z3 z4 z10 z11 z12 z13 z14 z15 z16 z17 z18 z19 z20 z21 z22 z23 z24 z25 z26 z27 z28 z29 z30 z31 z32 z33 z34 z35 z36 z37 z38 z39 z40 z41 z42 z43 z44 z45 z46 z47 z48 z49 z50 z51 z52 z53 z54 z55 z56 z57 z58 z59 z60 z61 z62 z63 z64 z65 z66 z67 z68 z69 z70 z71 z72 z73 z74 z75 z76 z77 z78 z79 z80 z81 z82 z83 z84 z85 z86 z87 z88 z89 z90 bs bw r f n d t l cp c0 pcp A A0 P ps HG HB HW HR HA Hc Hx hdt HA0 Hc0 Hx0 HP HO hcat hps hl hdl H r2 f2 n2 r3 f3 n3 x hS' hR2 (hR3)
set_option maxRecDepth 100000 in
set_option maxHeartbeats 1000000 in
theorem pc_3 (Q : Exit → Act → World → Prop) (hQ : ∀ c a w n v, Q (.panic c) (a.put (some n) v) w → Q (.panic c) a w) (u : World) (z1 z2 z3 z4 z10 z11 z12 z13 z14 z15 z16 z17 z18 z19 z20 z21 z22 z23 z24 z25 z26 z27 z28 z29 z30 z31 z32 z33 z34 z35 z36 z37 z38 z39 z40 z41 z42 z43 z44 z45 z46 z47 z48 z49 z50 z51 z52 z53 z54 z55 z56 z57 z58 z59 z60 z61 z62 z63 z64 z65 z66 z67 z68 z69 z70 z71 z72 z73 z74 z75 z76 z77 z78 z79 z80 z81 z82 z83 z84 z85 z86 z87 z88 z89 z90 : Value) (bs bw : Nat) (r f : Nat → Nat) (n : Nat) (d t l : List Nat) (cp c0 pcp : Nat) (A A0 P : Option Addr) (ps : List Pt) (HG : Glob u) (HB : Blk u bs (stc r f n) 31) (HW : Blk u bw (vals .u8 64 (dg l)) 24) (HR : Rep r f n d) (HA : Rds u A t) (Hc : t.length ≤ cp) (Hx : ∀ x ∈ t, x < 256) (hdt : d ++ t = l) (HA0 : Rds u A0 l) (Hc0 : l.length ≤ c0) (Hx0 : ∀ x ∈ l, x < 256) (HP : Prt u P ps) (HO : PtOk u ps) (hcat : cat ps = l) (hps : ps.length < 2 ^ 60) (hl : l.length < 2 ^ 58) (hdl : d.length + t.length < 2 ^ 59) (H : ∀ (r2 : Nat → Nat) (f2 : Nat → Nat) (n2 : Nat) (r3 : Nat → Nat) (f3 : Nat → Nat) (n3 : Nat) (w : World), Below u.heap.size u w → Rep r2 f2 n2 l → Rep r3 f3 n3 l → Q .normal { tmps := List.toArray ((.slice A0 l.length c0) :: z1 :: z2 :: z3 :: ((.bool true)) :: ((.bool true)) :: (.pointer (some ⟨bw, 0, none⟩)) :: (.pointer (some ⟨bs, 0, none⟩)) :: (.slice A t.length cp) :: (.slice P ps.length pcp) :: z10 :: z11 :: z12 :: z13 :: z14 :: z15 :: z16 :: z17 :: z18 :: z19 :: z20 :: z21 :: z22 :: z23 :: z24 :: z25 :: z26 :: z27 :: z28 :: z29 :: z30 :: z31 :: z32 :: z33 :: z34 :: z35 :: z36 :: z37 :: z38 :: z39 :: z40 :: z41 :: z42 :: z43 :: z44 :: z45 :: z46 :: z47 :: z48 :: z49 :: z50 :: z51 :: z52 :: z53 :: z54 :: z55 :: z56 :: z57 :: z58 :: z59 :: z60 :: z61 :: z62 :: z63 :: z64 :: z65 :: z66 :: z67 :: ((.bool true)) :: ((.bool true)) :: (.agg (stc r f n)) :: (.slice A t.length cp) :: (.agg (stc r2 f2 n2)) :: (.agg (vals .u8 64 (dg l))) :: (.agg (vals .u8 64 (dg l))) :: ((.bool true)) :: ((.bool true)) :: ((.bool true)) :: (.slice P ps.length pcp) :: (.agg (vals .u8 64 (dg l))) :: (.agg (vals .u8 64 (dg l))) :: ((.bool true)) :: ((.bool true)) :: ((.bool true)) :: (.agg (stc (fun _ => 0) (fun _ => 0) 0)) :: (.slice A0 l.length c0) :: (.agg (stc r3 f3 n3)) :: (.agg (vals .u8 64 (dg l))) :: (.agg (vals .u8 64 (dg l))) :: ((.bool true)) :: ((.bool true)) :: []), defers := [] } w) (r2 : Nat → Nat) (f2 : Nat → Nat) (n2 : Nat) (w : World) (hS : Below u.heap.size u w) (hR2 : Rep r2 f2 n2 l) :
    wpAnyH Tryd.prog .any pcOps Q (fun w' => Below u.heap.size u w') 12 (List.toArray (true :: true :: true :: true :: true :: true :: true :: true :: true :: true :: true :: false :: true :: false :: false :: false :: false :: false :: false :: false :: false :: false :: false :: false :: [])) { tmps := List.toArray ((.slice A0 l.length c0) :: z1 :: z2 :: z3 :: z4 :: ((.bool true)) :: (.pointer (some ⟨bw, 0, none⟩)) :: (.pointer (some ⟨bs, 0, none⟩)) :: (.slice A t.length cp) :: (.slice P ps.length pcp) :: z10 :: z11 :: z12 :: z13 :: z14 :: z15 :: z16 :: z17 :: z18 :: z19 :: z20 :: z21 :: z22 :: z23 :: z24 :: z25 :: z26 :: z27 :: z28 :: z29 :: z30 :: z31 :: z32 :: z33 :: z34 :: z35 :: z36 :: z37 :: z38 :: z39 :: z40 :: z41 :: z42 :: z43 :: z44 :: z45 :: z46 :: z47 :: z48 :: z49 :: z50 :: z51 :: z52 :: z53 :: z54 :: z55 :: z56 :: z57 :: z58 :: z59 :: z60 :: z61 :: z62 :: z63 :: z64 :: z65 :: z66 :: z67 :: ((.bool true)) :: ((.bool true)) :: (.agg (stc r f n)) :: (.slice A t.length cp) :: (.agg (stc r2 f2 n2)) :: (.agg (vals .u8 64 (dg l))) :: (.agg (vals .u8 64 (dg l))) :: ((.bool true)) :: ((.bool true)) :: ((.bool true)) :: (.slice P ps.length pcp) :: z79 :: (.agg (vals .u8 64 (dg l))) :: z81 :: z82 :: z83 :: z84 :: z85 :: z86 :: z87 :: z88 :: z89 :: z90 :: []), defers := [] } w := by
  refine wpAnyH_ready (rs := [11]) (by kernel_rfl) (by simp) ?_
  refine AllReadyH.cons (o := pcOp11) rfl (fun K hK => ?_) AllReadyH.nil
  unfold pcOp11
  go_simp
  refine (all_n P ps pcp l _ w (by rfl) (HG.low hS) (HP.low hS) (HO.low hS) hcat (by omega) (by omega)).mono ?_
  rintro e x ⟨rfl, hb⟩
  dsimp only
  have hS' := keepCall hb rfl hS
  refine hK.out _ _ hS' (fun _ => ?_)
  clear hK K
  simp only [List.setIfInBounds_toArray, List.set_cons_zero, List.set_cons_succ]
  refine wpAnyH_take (i := 13) (oi := pcOp13) (v := (.bool true)) rfl (by kernel_rfl) (by kernel_rfl) (by kernel_rfl) (fun _ _ _ => hQ _ _ _ _ _) (Or.inl ⟨by rfl, fun w hSw => by have h0 := eq_self (dg l); unfold pcOp13; go_simp⟩) hS' ?_
  try simp only [pcOp13, Act.put, List.setIfInBounds_toArray, List.set_cons_zero, List.set_cons_succ]
  refine wpAnyH_take (i := 14) (oi := pcOp14) (v := (.bool true)) rfl (by kernel_rfl) (by kernel_rfl) (by kernel_rfl) (fun _ _ _ => hQ _ _ _ _ _) (Or.inl ⟨by rfl, fun w hSw => by unfold pcOp14; go_simp⟩) hS' ?_
  try simp only [pcOp14, Act.put, List.setIfInBounds_toArray, List.set_cons_zero, List.set_cons_succ]
  refine wpAnyH_take (i := 15) (oi := pcOp15) (v := (.bool true)) rfl (by kernel_rfl) (by kernel_rfl) (by kernel_rfl) (fun _ _ _ => hQ _ _ _ _ _) (Or.inl ⟨by rfl, fun w hSw => by unfold pcOp15; go_simp⟩) hS' ?_
  try simp only [pcOp15, Act.put, List.setIfInBounds_toArray, List.set_cons_zero, List.set_cons_succ]
  refine wpAnyH_take (i := 16) (oi := pcOp16) (v := .agg (stc (fun _ => 0) (fun _ => 0) 0)) rfl (by kernel_rfl) (by kernel_rfl) (by kernel_rfl) (fun _ _ _ => hQ _ _ _ _ _) (yields_build (by rfl) 31 _ rfl (by simp only [List.map_toArray, List.map_nil]; exact built31)) hS' ?_
  try simp only [pcOp16, Act.put, List.setIfInBounds_toArray, List.set_cons_zero, List.set_cons_succ]
  refine wpAnyH_take (i := 17) (oi := pcOp17) (v := .slice A0 l.length c0) rfl (by kernel_rfl) (by kernel_rfl) (by kernel_rfl) (fun _ _ _ => hQ _ _ _ _ _) (Or.inl ⟨by rfl, fun w hSw => by unfold pcOp17; go_simp⟩) hS' ?_
  try simp only [pcOp17, Act.put, List.setIfInBounds_toArray, List.set_cons_zero, List.set_cons_succ]
  refine wpAnyH_take (i := 20) (oi := pcOp20) (v := .agg (vals .u8 64 (dg l))) rfl (by kernel_rfl) (by kernel_rfl) (by kernel_rfl) (fun _ _ _ => hQ _ _ _ _ _) (yields_S (fun w' h => HW.call h) (by rfl) 24 _ rfl rfl _ Tryd.underlying24 rfl (by rw [vals_size]; exact cells24)) hS' ?_
  try simp only [pcOp20, Act.put, List.setIfInBounds_toArray, List.set_cons_zero, List.set_cons_succ]
  exact pc_2 Q hQ u z1 z2 z3 z4 z10 z11 z12 z13 z14 z15 z16 z17 z18 z19 z20 z21 z22 z23 z24 z25 z26 z27 z28 z29 z30 z31 z32 z33 z34 z35 z36 z37 z38 z39 z40 z41 z42 z43 z44 z45 z46 z47 z48 z49 z50 z51 z52 z53 z54 z55 z56 z57 z58 z59 z60 z61 z62 z63 z64 z65 z66 z67 z68 z69 z70 z71 z72 z73 z74 z75 z76 z77 z78 z79 z80 z81 z82 z83 z84 z85 z86 z87 z88 z89 z90 bs bw r f n d t l cp c0 pcp A A0 P ps HG HB HW HR HA Hc Hx hdt HA0 Hc0 Hx0 HP HO hcat hps hl hdl H r2 f2 n2 x hS' hR2
set_option maxRecDepth 100000 in
set_option maxHeartbeats 1000000 in
theorem pc_4 (Q : Exit → Act → World → Prop) (hQ : ∀ c a w n v, Q (.panic c) (a.put (some n) v) w → Q (.panic c) a w) (u : World) (z1 z2 z3 z4 z10 z11 z12 z13 z14 z15 z16 z17 z18 z19 z20 z21 z22 z23 z24 z25 z26 z27 z28 z29 z30 z31 z32 z33 z34 z35 z36 z37 z38 z39 z40 z41 z42 z43 z44 z45 z46 z47 z48 z49 z50 z51 z52 z53 z54 z55 z56 z57 z58 z59 z60 z61 z62 z63 z64 z65 z66 z67 z68 z69 z70 z71 z72 z73 z74 z75 z76 z77 z78 z79 z80 z81 z82 z83 z84 z85 z86 z87 z88 z89 z90 : Value) (bs bw : Nat) (r f : Nat → Nat) (n : Nat) (d t l : List Nat) (cp c0 pcp : Nat) (A A0 P : Option Addr) (ps : List Pt) (HG : Glob u) (HB : Blk u bs (stc r f n) 31) (HW : Blk u bw (vals .u8 64 (dg l)) 24) (HR : Rep r f n d) (HA : Rds u A t) (Hc : t.length ≤ cp) (Hx : ∀ x ∈ t, x < 256) (hdt : d ++ t = l) (HA0 : Rds u A0 l) (Hc0 : l.length ≤ c0) (Hx0 : ∀ x ∈ l, x < 256) (HP : Prt u P ps) (HO : PtOk u ps) (hcat : cat ps = l) (hps : ps.length < 2 ^ 60) (hl : l.length < 2 ^ 58) (hdl : d.length + t.length < 2 ^ 59) (H : ∀ (r2 : Nat → Nat) (f2 : Nat → Nat) (n2 : Nat) (r3 : Nat → Nat) (f3 : Nat → Nat) (n3 : Nat) (w : World), Below u.heap.size u w → Rep r2 f2 n2 l → Rep r3 f3 n3 l → Q .normal { tmps := List.toArray ((.slice A0 l.length c0) :: z1 :: z2 :: z3 :: ((.bool true)) :: ((.bool true)) :: (.pointer (some ⟨bw, 0, none⟩)) :: (.pointer (some ⟨bs, 0, none⟩)) :: (.slice A t.length cp) :: (.slice P ps.length pcp) :: z10 :: z11 :: z12 :: z13 :: z14 :: z15 :: z16 :: z17 :: z18 :: z19 :: z20 :: z21 :: z22 :: z23 :: z24 :: z25 :: z26 :: z27 :: z28 :: z29 :: z30 :: z31 :: z32 :: z33 :: z34 :: z35 :: z36 :: z37 :: z38 :: z39 :: z40 :: z41 :: z42 :: z43 :: z44 :: z45 :: z46 :: z47 :: z48 :: z49 :: z50 :: z51 :: z52 :: z53 :: z54 :: z55 :: z56 :: z57 :: z58 :: z59 :: z60 :: z61 :: z62 :: z63 :: z64 :: z65 :: z66 :: z67 :: ((.bool true)) :: ((.bool true)) :: (.agg (stc r f n)) :: (.slice A t.length cp) :: (.agg (stc r2 f2 n2)) :: (.agg (vals .u8 64 (dg l))) :: (.agg (vals .u8 64 (dg l))) :: ((.bool true)) :: ((.bool true)) :: ((.bool true)) :: (.slice P ps.length pcp) :: (.agg (vals .u8 64 (dg l))) :: (.agg (vals .u8 64 (dg l))) :: ((.bool true)) :: ((.bool true)) :: ((.bool true)) :: (.agg (stc (fun _ => 0) (fun _ => 0) 0)) :: (.slice A0 l.length c0) :: (.agg (stc r3 f3 n3)) :: (.agg (vals .u8 64 (dg l))) :: (.agg (vals .u8 64 (dg l))) :: ((.bool true)) :: ((.bool true)) :: []), defers := [] } w) (r2 : Nat → Nat) (f2 : Nat → Nat) (n2 : Nat) (w : World) (hS : Below u.heap.size u w) (hR2 : Rep r2 f2 n2 l) :
    wpAnyH Tryd.prog .any pcOps Q (fun w' => Below u.heap.size u w') 18 (List.toArray (true :: true :: true :: true :: true :: false :: true :: false :: false :: false :: false :: false :: false :: false :: false :: false :: false :: false :: false :: false :: false :: false :: false :: false :: [])) { tmps := List.toArray ((.slice A0 l.length c0) :: z1 :: z2 :: z3 :: z4 :: ((.bool true)) :: (.pointer (some ⟨bw, 0, none⟩)) :: (.pointer (some ⟨bs, 0, none⟩)) :: (.slice A t.length cp) :: (.slice P ps.length pcp) :: z10 :: z11 :: z12 :: z13 :: z14 :: z15 :: z16 :: z17 :: z18 :: z19 :: z20 :: z21 :: z22 :: z23 :: z24 :: z25 :: z26 :: z27 :: z28 :: z29 :: z30 :: z31 :: z32 :: z33 :: z34 :: z35 :: z36 :: z37 :: z38 :: z39 :: z40 :: z41 :: z42 :: z43 :: z44 :: z45 :: z46 :: z47 :: z48 :: z49 :: z50 :: z51 :: z52 :: z53 :: z54 :: z55 :: z56 :: z57 :: z58 :: z59 :: z60 :: z61 :: z62 :: z63 :: z64 :: z65 :: z66 :: z67 :: ((.bool true)) :: ((.bool true)) :: (.agg (stc r f n)) :: (.slice A t.length cp) :: (.agg (stc r2 f2 n2)) :: z73 :: (.agg (vals .u8 64 (dg l))) :: z75 :: z76 :: z77 :: z78 :: z79 :: z80 :: z81 :: z82 :: z83 :: z84 :: z85 :: z86 :: z87 :: z88 :: z89 :: z90 :: []), defers := [] } w := by
  refine wpAnyH_ready (rs := [5]) (by kernel_rfl) (by simp) ?_
  refine AllReadyH.cons (o := pcOp5) rfl (fun K hK => ?_) AllReadyH.nil
  unfold pcOp5
  go_simp
  refine (sum_n r2 f2 n2 l l _ w (by rfl) (HG.low hS) hR2 (by omega) rfl).mono ?_
  rintro e x ⟨rfl, hb⟩
  dsimp only
  have hS' := keepCall hb rfl hS
  refine hK.out _ _ hS' (fun _ => ?_)
  clear hK K
  simp only [List.setIfInBounds_toArray, List.set_cons_zero, List.set_cons_succ]
  refine wpAnyH_take (i := 7) (oi := pcOp7) (v := (.bool true)) rfl (by kernel_rfl) (by kernel_rfl) (by kernel_rfl) (fun _ _ _ => hQ _ _ _ _ _) (Or.inl ⟨by rfl, fun w hSw => by have h0 := eq_self (dg l); unfold pcOp7; go_simp⟩) hS' ?_
  try simp only [pcOp7, Act.put, List.setIfInBounds_toArray, List.set_cons_zero, List.set_cons_succ]
  refine wpAnyH_take (i := 8) (oi := pcOp8) (v := (.bool true)) rfl (by kernel_rfl) (by kernel_rfl) (by kernel_rfl) (fun _ _ _ => hQ _ _ _ _ _) (Or.inl ⟨by rfl, fun w hSw => by unfold pcOp8; go_simp⟩) hS' ?_
  try simp only [pcOp8, Act.put, List.setIfInBounds_toArray, List.set_cons_zero, List.set_cons_succ]
  refine wpAnyH_take (i := 9) (oi := pcOp9) (v := (.bool true)) rfl (by kernel_rfl) (by kernel_rfl) (by kernel_rfl) (fun _ _ _ => hQ _ _ _ _ _) (Or.inl ⟨by rfl, fun w hSw => by unfold pcOp9; go_simp⟩) hS' ?_
  try simp only [pcOp9, Act.put, List.setIfInBounds_toArray, List.set_cons_zero, List.set_cons_succ]
  refine wpAnyH_take (i := 10) (oi := pcOp10) (v := .slice P ps.length pcp) rfl (by kernel_rfl) (by kernel_rfl) (by kernel_rfl) (fun _ _ _ => hQ _ _ _ _ _) (Or.inl ⟨by rfl, fun w hSw => by unfold pcOp10; go_simp⟩) hS' ?_
  try simp only [pcOp10, Act.put, List.setIfInBounds_toArray, List.set_cons_zero, List.set_cons_succ]
  refine wpAnyH_take (i := 12) (oi := pcOp12) (v := .agg (vals .u8 64 (dg l))) rfl (by kernel_rfl) (by kernel_rfl) (by kernel_rfl) (fun _ _ _ => hQ _ _ _ _ _) (yields_S (fun w' h => HW.call h) (by rfl) 24 _ rfl rfl _ Tryd.underlying24 rfl (by rw [vals_size]; exact cells24)) hS' ?_
  try simp only [pcOp12, Act.put, List.setIfInBounds_toArray, List.set_cons_zero, List.set_cons_succ]
  exact pc_3 Q hQ u z1 z2 z3 z4 z10 z11 z12 z13 z14 z15 z16 z17 z18 z19 z20 z21 z22 z23 z24 z25 z26 z27 z28 z29 z30 z31 z32 z33 z34 z35 z36 z37 z38 z39 z40 z41 z42 z43 z44 z45 z46 z47 z48 z49 z50 z51 z52 z53 z54 z55 z56 z57 z58 z59 z60 z61 z62 z63 z64 z65 z66 z67 z68 z69 z70 z71 z72 z73 z74 z75 z76 z77 z78 z79 z80 z81 z82 z83 z84 z85 z86 z87 z88 z89 z90 bs bw r f n d t l cp c0 pcp A A0 P ps HG HB HW HR HA Hc Hx hdt HA0 Hc0 Hx0 HP HO hcat hps hl hdl H r2 f2 n2 x hS' hR2
set_option maxRecDepth 100000 in
set_option maxHeartbeats 1000000 in
theorem pc_5 (Q : Exit → Act → World → Prop) (hQ : ∀ c a w n v, Q (.panic c) (a.put (some n) v) w → Q (.panic c) a w) (u : World) (z1 z2 z3 z4 z10 z11 z12 z13 z14 z15 z16 z17 z18 z19 z20 z21 z22 z23 z24 z25 z26 z27 z28 z29 z30 z31 z32 z33 z34 z35 z36 z37 z38 z39 z40 z41 z42 z43 z44 z45 z46 z47 z48 z49 z50 z51 z52 z53 z54 z55 z56 z57 z58 z59 z60 z61 z62 z63 z64 z65 z66 z67 z68 z69 z70 z71 z72 z73 z74 z75 z76 z77 z78 z79 z80 z81 z82 z83 z84 z85 z86 z87 z88 z89 z90 : Value) (bs bw : Nat) (r f : Nat → Nat) (n : Nat) (d t l : List Nat) (cp c0 pcp : Nat) (A A0 P : Option Addr) (ps : List Pt) (HG : Glob u) (HB : Blk u bs (stc r f n) 31) (HW : Blk u bw (vals .u8 64 (dg l)) 24) (HR : Rep r f n d) (HA : Rds u A t) (Hc : t.length ≤ cp) (Hx : ∀ x ∈ t, x < 256) (hdt : d ++ t = l) (HA0 : Rds u A0 l) (Hc0 : l.length ≤ c0) (Hx0 : ∀ x ∈ l, x < 256) (HP : Prt u P ps) (HO : PtOk u ps) (hcat : cat ps = l) (hps : ps.length < 2 ^ 60) (hl : l.length < 2 ^ 58) (hdl : d.length + t.length < 2 ^ 59) (H : ∀ (r2 : Nat → Nat) (f2 : Nat → Nat) (n2 : Nat) (r3 : Nat → Nat) (f3 : Nat → Nat) (n3 : Nat) (w : World), Below u.heap.size u w → Rep r2 f2 n2 l → Rep r3 f3 n3 l → Q .normal { tmps := List.toArray ((.slice A0 l.length c0) :: z1 :: z2 :: z3 :: ((.bool true)) :: ((.bool true)) :: (.pointer (some ⟨bw, 0, none⟩)) :: (.pointer (some ⟨bs, 0, none⟩)) :: (.slice A t.length cp) :: (.slice P ps.length pcp) :: z10 :: z11 :: z12 :: z13 :: z14 :: z15 :: z16 :: z17 :: z18 :: z19 :: z20 :: z21 :: z22 :: z23 :: z24 :: z25 :: z26 :: z27 :: z28 :: z29 :: z30 :: z31 :: z32 :: z33 :: z34 :: z35 :: z36 :: z37 :: z38 :: z39 :: z40 :: z41 :: z42 :: z43 :: z44 :: z45 :: z46 :: z47 :: z48 :: z49 :: z50 :: z51 :: z52 :: z53 :: z54 :: z55 :: z56 :: z57 :: z58 :: z59 :: z60 :: z61 :: z62 :: z63 :: z64 :: z65 :: z66 :: z67 :: ((.bool true)) :: ((.bool true)) :: (.agg (stc r f n)) :: (.slice A t.length cp) :: (.agg (stc r2 f2 n2)) :: (.agg (vals .u8 64 (dg l))) :: (.agg (vals .u8 64 (dg l))) :: ((.bool true)) :: ((.bool true)) :: ((.bool true)) :: (.slice P ps.length pcp) :: (.agg (vals .u8 64 (dg l))) :: (.agg (vals .u8 64 (dg l))) :: ((.bool true)) :: ((.bool true)) :: ((.bool true)) :: (.agg (stc (fun _ => 0) (fun _ => 0) 0)) :: (.slice A0 l.length c0) :: (.agg (stc r3 f3 n3)) :: (.agg (vals .u8 64 (dg l))) :: (.agg (vals .u8 64 (dg l))) :: ((.bool true)) :: ((.bool true)) :: []), defers := [] } w) (w : World) (hS : Below u.heap.size u w) :
    wpAnyH Tryd.prog .any pcOps Q (fun w' => Below u.heap.size u w') 19 (List.toArray (true :: true :: true :: true :: false :: false :: true :: false :: false :: false :: false :: false :: false :: false :: false :: false :: false :: false :: false :: false :: false :: false :: false :: false :: [])) { tmps := List.toArray ((.slice A0 l.length c0) :: z1 :: z2 :: z3 :: z4 :: ((.bool true)) :: (.pointer (some ⟨bw, 0, none⟩)) :: (.pointer (some ⟨bs, 0, none⟩)) :: (.slice A t.length cp) :: (.slice P ps.length pcp) :: z10 :: z11 :: z12 :: z13 :: z14 :: z15 :: z16 :: z17 :: z18 :: z19 :: z20 :: z21 :: z22 :: z23 :: z24 :: z25 :: z26 :: z27 :: z28 :: z29 :: z30 :: z31 :: z32 :: z33 :: z34 :: z35 :: z36 :: z37 :: z38 :: z39 :: z40 :: z41 :: z42 :: z43 :: z44 :: z45 :: z46 :: z47 :: z48 :: z49 :: z50 :: z51 :: z52 :: z53 :: z54 :: z55 :: z56 :: z57 :: z58 :: z59 :: z60 :: z61 :: z62 :: z63 :: z64 :: z65 :: z66 :: z67 :: ((.bool true)) :: ((.bool true)) :: (.agg (stc r f n)) :: (.slice A t.length cp) :: z72 :: z73 :: (.agg (vals .u8 64 (dg l))) :: z75 :: z76 :: z77 :: z78 :: z79 :: z80 :: z81 :: z82 :: z83 :: z84 :: z85 :: z86 :: z87 :: z88 :: z89 :: z90 :: []), defers := [] } w := by
  refine wpAnyH_ready (rs := [4]) (by kernel_rfl) (by simp) ?_
  refine AllReadyH.cons (o := pcOp4) rfl (fun K hK => ?_) AllReadyH.nil
  unfold pcOp4
  go_simp
  refine (write_n r f n d t l A cp _ w (by rfl) (HG.low hS) HR Hx (HA.low hS) Hc (by omega) hdt).mono ?_
  rintro e x ⟨r2, f2, n2, rfl, hR2, hb⟩
  dsimp only
  have hS' := keepCall hb rfl hS
  refine hK.out _ _ hS' (fun _ => ?_)
  clear hK K
  simp only [List.setIfInBounds_toArray, List.set_cons_zero, List.set_cons_succ]
  exact pc_4 Q hQ u z1 z2 z3 z4 z10 z11 z12 z13 z14 z15 z16 z17 z18 z19 z20 z21 z22 z23 z24 z25 z26 z27 z28 z29 z30 z31 z32 z33 z34 z35 z36 z37 z38 z39 z40 z41 z42 z43 z44 z45 z46 z47 z48 z49 z50 z51 z52 z53 z54 z55 z56 z57 z58 z59 z60 z61 z62 z63 z64 z65 z66 z67 z68 z69 z70 z71 z72 z73 z74 z75 z76 z77 z78 z79 z80 z81 z82 z83 z84 z85 z86 z87 z88 z89 z90 bs bw r f n d t l cp c0 pcp A A0 P ps HG HB HW HR HA Hc Hx hdt HA0 Hc0 Hx0 HP HO hcat hps hl hdl H r2 f2 n2 x hS' (hR2)
set_option maxRecDepth 100000 in
set_option maxHeartbeats 1000000 in
theorem pc_region (Q : Exit → Act → World → Prop) (hQ : ∀ c a w n v, Q (.panic c) (a.put (some n) v) w → Q (.panic c) a w) (u : World) (z1 z2 z3 z4 z10 z11 z12 z13 z14 z15 z16 z17 z18 z19 z20 z21 z22 z23 z24 z25 z26 z27 z28 z29 z30 z31 z32 z33 z34 z35 z36 z37 z38 z39 z40 z41 z42 z43 z44 z45 z46 z47 z48 z49 z50 z51 z52 z53 z54 z55 z56 z57 z58 z59 z60 z61 z62 z63 z64 z65 z66 z67 z68 z69 z70 z71 z72 z73 z74 z75 z76 z77 z78 z79 z80 z81 z82 z83 z84 z85 z86 z87 z88 z89 z90 : Value) (bs bw : Nat) (r f : Nat → Nat) (n : Nat) (d t l : List Nat) (cp c0 pcp : Nat) (A A0 P : Option Addr) (ps : List Pt) (HG : Glob u) (HB : Blk u bs (stc r f n) 31) (HW : Blk u bw (vals .u8 64 (dg l)) 24) (HR : Rep r f n d) (HA : Rds u A t) (Hc : t.length ≤ cp) (Hx : ∀ x ∈ t, x < 256) (hdt : d ++ t = l) (HA0 : Rds u A0 l) (Hc0 : l.length ≤ c0) (Hx0 : ∀ x ∈ l, x < 256) (HP : Prt u P ps) (HO : PtOk u ps) (hcat : cat ps = l) (hps : ps.length < 2 ^ 60) (hl : l.length < 2 ^ 58) (hdl : d.length + t.length < 2 ^ 59) (H : ∀ (r2 : Nat → Nat) (f2 : Nat → Nat) (n2 : Nat) (r3 : Nat → Nat) (f3 : Nat → Nat) (n3 : Nat) (w : World), Below u.heap.size u w → Rep r2 f2 n2 l → Rep r3 f3 n3 l → Q .normal { tmps := List.toArray ((.slice A0 l.length c0) :: z1 :: z2 :: z3 :: ((.bool true)) :: ((.bool true)) :: (.pointer (some ⟨bw, 0, none⟩)) :: (.pointer (some ⟨bs, 0, none⟩)) :: (.slice A t.length cp) :: (.slice P ps.length pcp) :: z10 :: z11 :: z12 :: z13 :: z14 :: z15 :: z16 :: z17 :: z18 :: z19 :: z20 :: z21 :: z22 :: z23 :: z24 :: z25 :: z26 :: z27 :: z28 :: z29 :: z30 :: z31 :: z32 :: z33 :: z34 :: z35 :: z36 :: z37 :: z38 :: z39 :: z40 :: z41 :: z42 :: z43 :: z44 :: z45 :: z46 :: z47 :: z48 :: z49 :: z50 :: z51 :: z52 :: z53 :: z54 :: z55 :: z56 :: z57 :: z58 :: z59 :: z60 :: z61 :: z62 :: z63 :: z64 :: z65 :: z66 :: z67 :: ((.bool true)) :: ((.bool true)) :: (.agg (stc r f n)) :: (.slice A t.length cp) :: (.agg (stc r2 f2 n2)) :: (.agg (vals .u8 64 (dg l))) :: (.agg (vals .u8 64 (dg l))) :: ((.bool true)) :: ((.bool true)) :: ((.bool true)) :: (.slice P ps.length pcp) :: (.agg (vals .u8 64 (dg l))) :: (.agg (vals .u8 64 (dg l))) :: ((.bool true)) :: ((.bool true)) :: ((.bool true)) :: (.agg (stc (fun _ => 0) (fun _ => 0) 0)) :: (.slice A0 l.length c0) :: (.agg (stc r3 f3 n3)) :: (.agg (vals .u8 64 (dg l))) :: (.agg (vals .u8 64 (dg l))) :: ((.bool true)) :: ((.bool true)) :: []), defers := [] } w) :
    (Code.region 20 pcOps true).wp Tryd.prog Q { tmps := List.toArray ((.slice A0 l.length c0) :: z1 :: z2 :: z3 :: z4 :: ((.bool true)) :: (.pointer (some ⟨bw, 0, none⟩)) :: (.pointer (some ⟨bs, 0, none⟩)) :: (.slice A t.length cp) :: (.slice P ps.length pcp) :: z10 :: z11 :: z12 :: z13 :: z14 :: z15 :: z16 :: z17 :: z18 :: z19 :: z20 :: z21 :: z22 :: z23 :: z24 :: z25 :: z26 :: z27 :: z28 :: z29 :: z30 :: z31 :: z32 :: z33 :: z34 :: z35 :: z36 :: z37 :: z38 :: z39 :: z40 :: z41 :: z42 :: z43 :: z44 :: z45 :: z46 :: z47 :: z48 :: z49 :: z50 :: z51 :: z52 :: z53 :: z54 :: z55 :: z56 :: z57 :: z58 :: z59 :: z60 :: z61 :: z62 :: z63 :: z64 :: z65 :: z66 :: z67 :: z68 :: z69 :: z70 :: z71 :: z72 :: z73 :: z74 :: z75 :: z76 :: z77 :: z78 :: z79 :: z80 :: z81 :: z82 :: z83 :: z84 :: z85 :: z86 :: z87 :: z88 :: z89 :: z90 :: []), defers := [] } u := by
  refine wp_region_held_drew (S := (fun w' => Below u.heap.size u w')) (by kernel_rfl) (Below.refl _ _).drew (fun hS => ?_)
  refine wpAnyH_take (i := 0) (oi := pcOp0) (v := (.bool true)) rfl (by kernel_rfl) (by kernel_rfl) (by kernel_rfl) (fun _ _ _ => hQ _ _ _ _ _) (Or.inl ⟨by rfl, fun w hSw => by unfold pcOp0; go_simp⟩) hS ?_
  try simp only [pcOp0, Act.put, List.setIfInBounds_toArray, List.set_cons_zero, List.set_cons_succ]
  refine wpAnyH_take (i := 1) (oi := pcOp1) (v := (.bool true)) rfl (by kernel_rfl) (by kernel_rfl) (by kernel_rfl) (fun _ _ _ => hQ _ _ _ _ _) (Or.inl ⟨by rfl, fun w hSw => by unfold pcOp1; go_simp⟩) hS ?_
  try simp only [pcOp1, Act.put, List.setIfInBounds_toArray, List.set_cons_zero, List.set_cons_succ]
  refine wpAnyH_take (i := 2) (oi := pcOp2) (v := .agg (stc r f n)) rfl (by kernel_rfl) (by kernel_rfl) (by kernel_rfl) (fun _ _ _ => hQ _ _ _ _ _) (yields_S (fun w' h => HB.call h) (by rfl) 31 _ rfl rfl _ Tryd.underlying31 rfl (by rw [stc_size]; exact cells31)) hS ?_
  try simp only [pcOp2, Act.put, List.setIfInBounds_toArray, List.set_cons_zero, List.set_cons_succ]
  refine wpAnyH_take (i := 3) (oi := pcOp3) (v := .slice A t.length cp) rfl (by kernel_rfl) (by kernel_rfl) (by kernel_rfl) (fun _ _ _ => hQ _ _ _ _ _) (Or.inl ⟨by rfl, fun w hSw => by unfold pcOp3; go_simp⟩) hS ?_
  try simp only [pcOp3, Act.put, List.setIfInBounds_toArray, List.set_cons_zero, List.set_cons_succ]
  refine wpAnyH_take (i := 6) (oi := pcOp6) (v := .agg (vals .u8 64 (dg l))) rfl (by kernel_rfl) (by kernel_rfl) (by kernel_rfl) (fun _ _ _ => hQ _ _ _ _ _) (yields_S (fun w' h => HW.call h) (by rfl) 24 _ rfl rfl _ Tryd.underlying24 rfl (by rw [vals_size]; exact cells24)) hS ?_
  try simp only [pcOp6, Act.put, List.setIfInBounds_toArray, List.set_cons_zero, List.set_cons_succ]
  exact pc_5 Q hQ u z1 z2 z3 z4 z10 z11 z12 z13 z14 z15 z16 z17 z18 z19 z20 z21 z22 z23 z24 z25 z26 z27 z28 z29 z30 z31 z32 z33 z34 z35 z36 z37 z38 z39 z40 z41 z42 z43 z44 z45 z46 z47 z48 z49 z50 z51 z52 z53 z54 z55 z56 z57 z58 z59 z60 z61 z62 z63 z64 z65 z66 z67 z68 z69 z70 z71 z72 z73 z74 z75 z76 z77 z78 z79 z80 z81 z82 z83 z84 z85 z86 z87 z88 z89 z90 bs bw r f n d t l cp c0 pcp A A0 P ps HG HB HW HR HA Hc Hx hdt HA0 Hc0 Hx0 HP HO hcat hps hl hdl H u.drew hS
end Go.Proofs.YtplckpmicoohnaaDoor
