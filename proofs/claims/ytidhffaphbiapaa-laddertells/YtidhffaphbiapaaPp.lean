/- Walks: the regions of the reference's Mul, the others; where the bit is 1 the numbers change places. -/
import Derived.Test.YtidhffaphbiapaaPo
namespace Go.Proofs.Ytidhffaphbiapaa
open F Go.RowKit

def rf21Op0 : Oper := { dst := some 74, op := Op.load 47 (Operand.tmp 8), type := 47, pos := "ref.go:27", after := #[], guard := none }
def rf21Op1 : Oper := { dst := some 75, op := Op.load 47 (Operand.tmp 9), type := 47, pos := "ref.go:27", after := #[], guard := none }
def rf21Op2 : Oper := { dst := some 76, op := Op.call { callee := Callee.value (Operand.func 30), args := #[Operand.tmp 74, Operand.tmp 75], argTypes := #[47, 47] }, type := 47, pos := "ref.go:27", after := #[{ on := 0, ground := Ground.data }, { on := 1, ground := Ground.data }], guard := none }
def rf21Op3 : Oper := { dst := some 77, op := Op.load 47 (Operand.tmp 13), type := 47, pos := "ref.go:27", after := #[], guard := none }
def rf21Op4 : Oper := { dst := some 78, op := Op.call { callee := Callee.value (Operand.func 32), args := #[Operand.tmp 76, Operand.tmp 77], argTypes := #[47, 47] }, type := 47, pos := "ref.go:27", after := #[{ on := 2, ground := Ground.data }, { on := 3, ground := Ground.data }, { on := 2, ground := Ground.chain }], guard := none }
def rf21Op5 : Oper := { dst := some 17, op := Op.alloc 47, type := 0, pos := "ref.go:27", after := #[], guard := none }
def rf21Op6 : Oper := { dst := none, op := Op.store 47 (Operand.tmp 17) (Operand.tmp 78), type := 0, pos := "ref.go:27", after := #[{ on := 5, ground := Ground.data }, { on := 4, ground := Ground.data }, { on := 4, ground := Ground.chain }, { on := 0, ground := Ground.phase }, { on := 1, ground := Ground.phase }, { on := 2, ground := Ground.phase }, { on := 3, ground := Ground.phase }, { on := 4, ground := Ground.phase }, { on := 5, ground := Ground.phase }], guard := none }
def rf21Ops : Array Oper := #[rf21Op0, rf21Op1, rf21Op2, rf21Op3, rf21Op4, rf21Op5, rf21Op6]
structure rf21C (Q : Exit → Act → World → Prop) (u : World) (z0 z1 z2 z3 z4 z5 z6 z7 z10 z11 z12 z14 z15 z16 z17 z18 z19 z20 z21 z22 z23 z24 z25 z26 z27 z28 z29 z30 z31 z32 z33 z34 z35 z36 z37 z38 z39 z40 z41 z42 z43 z44 z45 z46 z47 z48 z49 z50 z51 z52 z53 z54 z55 z56 z57 z58 z59 z60 z61 z62 z63 z64 z65 z66 z67 z68 z69 z70 z71 z72 z73 z74 z75 z76 z77 z78 : Value) (zz : List Value) (b8 b9 b13 : Nat) (c d q : Nat) : Prop where
  hQ : ∀ c a w n v, Q (.panic c) (a.put (some n) v) w → Q (.panic c) a w
  hc : c < pP
  hd : d < pP
  hq : q < pP
  hb8 : Blk u b8 (vals .u64 16 (F.dg c)) 47
  nb8 : b8 ∉ ([] : List Nat)
  hb9 : Blk u b9 (vals .u64 16 (F.dg d)) 47
  nb9 : b9 ∉ ([] : List Nat)
  hb13 : Blk u b13 (vals .u64 16 (F.dg q)) 47
  nb13 : b13 ∉ ([] : List Nat)
  H : ∀ (n17 : Nat) (w : World), Kp [] u w → u.heap.size ≤ n17 → Blk w n17 (vals .u64 16 (F.dg (mm (am c d) q))) 47 → Q .normal { tmps := List.toArray (z0 :: z1 :: z2 :: z3 :: z4 :: z5 :: z6 :: z7 :: (.pointer (some ⟨b8, 0, none⟩)) :: (.pointer (some ⟨b9, 0, none⟩)) :: z10 :: z11 :: z12 :: (.pointer (some ⟨b13, 0, none⟩)) :: z14 :: z15 :: z16 :: (.pointer (some ⟨n17, 0, none⟩)) :: z18 :: z19 :: z20 :: z21 :: z22 :: z23 :: z24 :: z25 :: z26 :: z27 :: z28 :: z29 :: z30 :: z31 :: z32 :: z33 :: z34 :: z35 :: z36 :: z37 :: z38 :: z39 :: z40 :: z41 :: z42 :: z43 :: z44 :: z45 :: z46 :: z47 :: z48 :: z49 :: z50 :: z51 :: z52 :: z53 :: z54 :: z55 :: z56 :: z57 :: z58 :: z59 :: z60 :: z61 :: z62 :: z63 :: z64 :: z65 :: z66 :: z67 :: z68 :: z69 :: z70 :: z71 :: z72 :: z73 :: (.agg (vals .u64 16 (F.dg c))) :: (.agg (vals .u64 16 (F.dg d))) :: (.agg (vals .u64 16 (F.dg (am c d)))) :: (.agg (vals .u64 16 (F.dg q))) :: (.agg (vals .u64 16 (F.dg (mm (am c d) q)))) :: zz), defers := [] } w
section
variable {Q : Exit → Act → World → Prop} {u : World} {z0 z1 z2 z3 z4 z5 z6 z7 z10 z11 z12 z14 z15 z16 z17 z18 z19 z20 z21 z22 z23 z24 z25 z26 z27 z28 z29 z30 z31 z32 z33 z34 z35 z36 z37 z38 z39 z40 z41 z42 z43 z44 z45 z46 z47 z48 z49 z50 z51 z52 z53 z54 z55 z56 z57 z58 z59 z60 z61 z62 z63 z64 z65 z66 z67 z68 z69 z70 z71 z72 z73 z74 z75 z76 z77 z78 : Value} {zz : List Value} {b8 b9 b13 : Nat} {c d q : Nat}
set_option maxRecDepth 100000 in
set_option maxHeartbeats 2000000 in
theorem rf21_0 (C : rf21C Q u z0 z1 z2 z3 z4 z5 z6 z7 z10 z11 z12 z14 z15 z16 z17 z18 z19 z20 z21 z22 z23 z24 z25 z26 z27 z28 z29 z30 z31 z32 z33 z34 z35 z36 z37 z38 z39 z40 z41 z42 z43 z44 z45 z46 z47 z48 z49 z50 z51 z52 z53 z54 z55 z56 z57 z58 z59 z60 z61 z62 z63 z64 z65 z66 z67 z68 z69 z70 z71 z72 z73 z74 z75 z76 z77 z78 zz b8 b9 b13 c d q) {n17 : Nat} (w : World) (hS : Kp [] u w) (gn17 : u.heap.size ≤ n17) (Bn17 : Blk w n17 (vals .u64 16 (F.dg (mm (am c d) q))) 47) :
    wpAnyH Try.prog .any rf21Ops Q (Kp [] u) 0 (List.toArray (true :: true :: true :: true :: true :: true :: true :: [])) { tmps := List.toArray (z0 :: z1 :: z2 :: z3 :: z4 :: z5 :: z6 :: z7 :: (.pointer (some ⟨b8, 0, none⟩)) :: (.pointer (some ⟨b9, 0, none⟩)) :: z10 :: z11 :: z12 :: (.pointer (some ⟨b13, 0, none⟩)) :: z14 :: z15 :: z16 :: (.pointer (some ⟨n17, 0, none⟩)) :: z18 :: z19 :: z20 :: z21 :: z22 :: z23 :: z24 :: z25 :: z26 :: z27 :: z28 :: z29 :: z30 :: z31 :: z32 :: z33 :: z34 :: z35 :: z36 :: z37 :: z38 :: z39 :: z40 :: z41 :: z42 :: z43 :: z44 :: z45 :: z46 :: z47 :: z48 :: z49 :: z50 :: z51 :: z52 :: z53 :: z54 :: z55 :: z56 :: z57 :: z58 :: z59 :: z60 :: z61 :: z62 :: z63 :: z64 :: z65 :: z66 :: z67 :: z68 :: z69 :: z70 :: z71 :: z72 :: z73 :: (.agg (vals .u64 16 (F.dg c))) :: (.agg (vals .u64 16 (F.dg d))) :: (.agg (vals .u64 16 (F.dg (am c d)))) :: (.agg (vals .u64 16 (F.dg q))) :: (.agg (vals .u64 16 (F.dg (mm (am c d) q)))) :: zz), defers := [] } w := by
  exact wpAnyH_done (by kernel_rfl) (C.H n17 w hS gn17 Bn17) _
set_option maxRecDepth 100000 in
set_option maxHeartbeats 2000000 in
theorem rf21_1 (C : rf21C Q u z0 z1 z2 z3 z4 z5 z6 z7 z10 z11 z12 z14 z15 z16 z17 z18 z19 z20 z21 z22 z23 z24 z25 z26 z27 z28 z29 z30 z31 z32 z33 z34 z35 z36 z37 z38 z39 z40 z41 z42 z43 z44 z45 z46 z47 z48 z49 z50 z51 z52 z53 z54 z55 z56 z57 z58 z59 z60 z61 z62 z63 z64 z65 z66 z67 z68 z69 z70 z71 z72 z73 z74 z75 z76 z77 z78 zz b8 b9 b13 c d q) {n17 : Nat} (w : World) (hS : Kp [] u w) (gn17 : u.heap.size ≤ n17) (Bn17 : Blk w n17 (vals .u64 16 (fun _ => 0)) 47) :
    wpAnyH Try.prog .any rf21Ops Q (Kp [] u) 1 (List.toArray (true :: true :: true :: true :: true :: true :: false :: [])) { tmps := List.toArray (z0 :: z1 :: z2 :: z3 :: z4 :: z5 :: z6 :: z7 :: (.pointer (some ⟨b8, 0, none⟩)) :: (.pointer (some ⟨b9, 0, none⟩)) :: z10 :: z11 :: z12 :: (.pointer (some ⟨b13, 0, none⟩)) :: z14 :: z15 :: z16 :: (.pointer (some ⟨n17, 0, none⟩)) :: z18 :: z19 :: z20 :: z21 :: z22 :: z23 :: z24 :: z25 :: z26 :: z27 :: z28 :: z29 :: z30 :: z31 :: z32 :: z33 :: z34 :: z35 :: z36 :: z37 :: z38 :: z39 :: z40 :: z41 :: z42 :: z43 :: z44 :: z45 :: z46 :: z47 :: z48 :: z49 :: z50 :: z51 :: z52 :: z53 :: z54 :: z55 :: z56 :: z57 :: z58 :: z59 :: z60 :: z61 :: z62 :: z63 :: z64 :: z65 :: z66 :: z67 :: z68 :: z69 :: z70 :: z71 :: z72 :: z73 :: (.agg (vals .u64 16 (F.dg c))) :: (.agg (vals .u64 16 (F.dg d))) :: (.agg (vals .u64 16 (F.dg (am c d)))) :: (.agg (vals .u64 16 (F.dg q))) :: (.agg (vals .u64 16 (F.dg (mm (am c d) q)))) :: zz), defers := [] } w := by
  obtain ⟨hQ, hc, hd, hq, hb8, nb8, hb9, nb9, hb13, nb13, _⟩ := id C
  refine wpAnyH_ready (rs := [6]) (by kernel_rfl) (by simp) ?_
  refine AllReadyH.cons (o := rf21Op6) rfl (fun K hK => ?_) AllReadyH.nil
  rw [if_pos (by rfl)]
  refine wp_store_row 47 _ _ rfl n17 (vals .u64 16 (F.dg (mm (am c d) q))) (by kernel_rfl) (by kernel_rfl) 47 _ Bn17 (size_rn _) (by simp only [vals_size]) (vals_one _ _ _) ?_
  have hS' := hS.new gn17 (vals .u64 16 (F.dg (mm (am c d) q)))
  refine hK.out _ _ hS' (fun _ => ?_)
  exact wpAnyH_at (by kernel_rfl) (by kernel_rfl) (rf21_0 C (w.setRow n17 (vals .u64 16 (F.dg (mm (am c d) q)))) hS' gn17 (Bn17.row (vals .u64 16 (F.dg (mm (am c d) q)))))
set_option maxRecDepth 100000 in
set_option maxHeartbeats 2000000 in
theorem rf21_2 (C : rf21C Q u z0 z1 z2 z3 z4 z5 z6 z7 z10 z11 z12 z14 z15 z16 z17 z18 z19 z20 z21 z22 z23 z24 z25 z26 z27 z28 z29 z30 z31 z32 z33 z34 z35 z36 z37 z38 z39 z40 z41 z42 z43 z44 z45 z46 z47 z48 z49 z50 z51 z52 z53 z54 z55 z56 z57 z58 z59 z60 z61 z62 z63 z64 z65 z66 z67 z68 z69 z70 z71 z72 z73 z74 z75 z76 z77 z78 zz b8 b9 b13 c d q) {n17 : Nat} (w : World) (hS : Kp [] u w) (gn17 : u.heap.size ≤ n17) (Bn17 : Blk w n17 (vals .u64 16 (fun _ => 0)) 47) :
    wpAnyH Try.prog .any rf21Ops Q (Kp [] u) 2 (List.toArray (true :: true :: true :: true :: false :: true :: false :: [])) { tmps := List.toArray (z0 :: z1 :: z2 :: z3 :: z4 :: z5 :: z6 :: z7 :: (.pointer (some ⟨b8, 0, none⟩)) :: (.pointer (some ⟨b9, 0, none⟩)) :: z10 :: z11 :: z12 :: (.pointer (some ⟨b13, 0, none⟩)) :: z14 :: z15 :: z16 :: (.pointer (some ⟨n17, 0, none⟩)) :: z18 :: z19 :: z20 :: z21 :: z22 :: z23 :: z24 :: z25 :: z26 :: z27 :: z28 :: z29 :: z30 :: z31 :: z32 :: z33 :: z34 :: z35 :: z36 :: z37 :: z38 :: z39 :: z40 :: z41 :: z42 :: z43 :: z44 :: z45 :: z46 :: z47 :: z48 :: z49 :: z50 :: z51 :: z52 :: z53 :: z54 :: z55 :: z56 :: z57 :: z58 :: z59 :: z60 :: z61 :: z62 :: z63 :: z64 :: z65 :: z66 :: z67 :: z68 :: z69 :: z70 :: z71 :: z72 :: z73 :: (.agg (vals .u64 16 (F.dg c))) :: (.agg (vals .u64 16 (F.dg d))) :: (.agg (vals .u64 16 (F.dg (am c d)))) :: (.agg (vals .u64 16 (F.dg q))) :: z78 :: zz), defers := [] } w := by
  obtain ⟨hQ, hc, hd, hq, hb8, nb8, hb9, nb9, hb13, nb13, _⟩ := id C
  refine wpAnyH_ready (rs := [4]) (by kernel_rfl) (by simp) ?_
  refine AllReadyH.cons (o := rf21Op4) rfl (fun K hK => ?_) AllReadyH.nil
  rw [if_pos (by rfl)]
  refine wp_call_val 32 #[.agg (vals .u64 16 (F.dg (am c d))), .agg (vals .u64 16 (F.dg q))] (by kernel_rfl) (.agg (vals .u64 16 (F.dg (mm (am c d) q)))) (rmul_c (am c d) q _ (am_lt _ _) hq) ?_
  intro w' hbw
  have hS' := hS.call hbw
  refine hK.out _ _ hS' (fun _ => ?_)
  exact wpAnyH_at (by kernel_rfl) (by kernel_rfl) (rf21_1 C w' hS' gn17 (Bn17.call hbw))
set_option maxRecDepth 100000 in
set_option maxHeartbeats 2000000 in
theorem rf21_3 (C : rf21C Q u z0 z1 z2 z3 z4 z5 z6 z7 z10 z11 z12 z14 z15 z16 z17 z18 z19 z20 z21 z22 z23 z24 z25 z26 z27 z28 z29 z30 z31 z32 z33 z34 z35 z36 z37 z38 z39 z40 z41 z42 z43 z44 z45 z46 z47 z48 z49 z50 z51 z52 z53 z54 z55 z56 z57 z58 z59 z60 z61 z62 z63 z64 z65 z66 z67 z68 z69 z70 z71 z72 z73 z74 z75 z76 z77 z78 zz b8 b9 b13 c d q) (w : World) (hS : Kp [] u w) :
    wpAnyH Try.prog .any rf21Ops Q (Kp [] u) 2 (List.toArray (true :: true :: true :: true :: true :: false :: false :: [])) { tmps := List.toArray (z0 :: z1 :: z2 :: z3 :: z4 :: z5 :: z6 :: z7 :: (.pointer (some ⟨b8, 0, none⟩)) :: (.pointer (some ⟨b9, 0, none⟩)) :: z10 :: z11 :: z12 :: (.pointer (some ⟨b13, 0, none⟩)) :: z14 :: z15 :: z16 :: z17 :: z18 :: z19 :: z20 :: z21 :: z22 :: z23 :: z24 :: z25 :: z26 :: z27 :: z28 :: z29 :: z30 :: z31 :: z32 :: z33 :: z34 :: z35 :: z36 :: z37 :: z38 :: z39 :: z40 :: z41 :: z42 :: z43 :: z44 :: z45 :: z46 :: z47 :: z48 :: z49 :: z50 :: z51 :: z52 :: z53 :: z54 :: z55 :: z56 :: z57 :: z58 :: z59 :: z60 :: z61 :: z62 :: z63 :: z64 :: z65 :: z66 :: z67 :: z68 :: z69 :: z70 :: z71 :: z72 :: z73 :: (.agg (vals .u64 16 (F.dg c))) :: (.agg (vals .u64 16 (F.dg d))) :: (.agg (vals .u64 16 (F.dg (am c d)))) :: (.agg (vals .u64 16 (F.dg q))) :: (.agg (vals .u64 16 (F.dg (mm (am c d) q)))) :: zz), defers := [] } w := by
  obtain ⟨hQ, hc, hd, hq, hb8, nb8, hb9, nb9, hb13, nb13, _⟩ := id C
  refine wpAnyH_ready (rs := [5]) (by kernel_rfl) (by simp) ?_
  refine AllReadyH.cons (o := rf21Op5) rfl (fun K hK => ?_) AllReadyH.nil
  rw [if_pos (by rfl)]
  refine wp_new _ 47 (alloc_rn _ _ _ rfl) ?_
  intro n17 w' eb Bn17 hbw
  have hS' := hS.call hbw
  refine hK.out _ _ hS' (fun _ => ?_)
  exact wpAnyH_at (by kernel_rfl) (by kernel_rfl) (rf21_1 C w' hS' (by rw [eb]; exact hS.size) Bn17)
set_option maxRecDepth 100000 in
set_option maxHeartbeats 2000000 in
theorem rf21_4 (C : rf21C Q u z0 z1 z2 z3 z4 z5 z6 z7 z10 z11 z12 z14 z15 z16 z17 z18 z19 z20 z21 z22 z23 z24 z25 z26 z27 z28 z29 z30 z31 z32 z33 z34 z35 z36 z37 z38 z39 z40 z41 z42 z43 z44 z45 z46 z47 z48 z49 z50 z51 z52 z53 z54 z55 z56 z57 z58 z59 z60 z61 z62 z63 z64 z65 z66 z67 z68 z69 z70 z71 z72 z73 z74 z75 z76 z77 z78 zz b8 b9 b13 c d q) {n17 : Nat} (w : World) (hS : Kp [] u w) (gn17 : u.heap.size ≤ n17) (Bn17 : Blk w n17 (vals .u64 16 (fun _ => 0)) 47) :
    wpAnyH Try.prog .any rf21Ops Q (Kp [] u) 3 (List.toArray (true :: true :: false :: true :: false :: true :: false :: [])) { tmps := List.toArray (z0 :: z1 :: z2 :: z3 :: z4 :: z5 :: z6 :: z7 :: (.pointer (some ⟨b8, 0, none⟩)) :: (.pointer (some ⟨b9, 0, none⟩)) :: z10 :: z11 :: z12 :: (.pointer (some ⟨b13, 0, none⟩)) :: z14 :: z15 :: z16 :: (.pointer (some ⟨n17, 0, none⟩)) :: z18 :: z19 :: z20 :: z21 :: z22 :: z23 :: z24 :: z25 :: z26 :: z27 :: z28 :: z29 :: z30 :: z31 :: z32 :: z33 :: z34 :: z35 :: z36 :: z37 :: z38 :: z39 :: z40 :: z41 :: z42 :: z43 :: z44 :: z45 :: z46 :: z47 :: z48 :: z49 :: z50 :: z51 :: z52 :: z53 :: z54 :: z55 :: z56 :: z57 :: z58 :: z59 :: z60 :: z61 :: z62 :: z63 :: z64 :: z65 :: z66 :: z67 :: z68 :: z69 :: z70 :: z71 :: z72 :: z73 :: (.agg (vals .u64 16 (F.dg c))) :: (.agg (vals .u64 16 (F.dg d))) :: z76 :: (.agg (vals .u64 16 (F.dg q))) :: z78 :: zz), defers := [] } w := by
  obtain ⟨hQ, hc, hd, hq, hb8, nb8, hb9, nb9, hb13, nb13, _⟩ := id C
  refine wpAnyH_ready (rs := [2]) (by kernel_rfl) (by simp) ?_
  refine AllReadyH.cons (o := rf21Op2) rfl (fun K hK => ?_) AllReadyH.nil
  rw [if_pos (by rfl)]
  refine wp_call_val 30 #[.agg (vals .u64 16 (F.dg c)), .agg (vals .u64 16 (F.dg d))] (by kernel_rfl) (.agg (vals .u64 16 (F.dg (am c d)))) (radd_c c d _ hc hd) ?_
  intro w' hbw
  have hS' := hS.call hbw
  refine hK.out _ _ hS' (fun _ => ?_)
  exact wpAnyH_at (by kernel_rfl) (by kernel_rfl) (rf21_2 C w' hS' gn17 (Bn17.call hbw))
set_option maxRecDepth 100000 in
set_option maxHeartbeats 2000000 in
theorem rf21_5 (C : rf21C Q u z0 z1 z2 z3 z4 z5 z6 z7 z10 z11 z12 z14 z15 z16 z17 z18 z19 z20 z21 z22 z23 z24 z25 z26 z27 z28 z29 z30 z31 z32 z33 z34 z35 z36 z37 z38 z39 z40 z41 z42 z43 z44 z45 z46 z47 z48 z49 z50 z51 z52 z53 z54 z55 z56 z57 z58 z59 z60 z61 z62 z63 z64 z65 z66 z67 z68 z69 z70 z71 z72 z73 z74 z75 z76 z77 z78 zz b8 b9 b13 c d q) (w : World) (hS : Kp [] u w) :
    wpAnyH Try.prog .any rf21Ops Q (Kp [] u) 3 (List.toArray (true :: true :: true :: true :: false :: false :: false :: [])) { tmps := List.toArray (z0 :: z1 :: z2 :: z3 :: z4 :: z5 :: z6 :: z7 :: (.pointer (some ⟨b8, 0, none⟩)) :: (.pointer (some ⟨b9, 0, none⟩)) :: z10 :: z11 :: z12 :: (.pointer (some ⟨b13, 0, none⟩)) :: z14 :: z15 :: z16 :: z17 :: z18 :: z19 :: z20 :: z21 :: z22 :: z23 :: z24 :: z25 :: z26 :: z27 :: z28 :: z29 :: z30 :: z31 :: z32 :: z33 :: z34 :: z35 :: z36 :: z37 :: z38 :: z39 :: z40 :: z41 :: z42 :: z43 :: z44 :: z45 :: z46 :: z47 :: z48 :: z49 :: z50 :: z51 :: z52 :: z53 :: z54 :: z55 :: z56 :: z57 :: z58 :: z59 :: z60 :: z61 :: z62 :: z63 :: z64 :: z65 :: z66 :: z67 :: z68 :: z69 :: z70 :: z71 :: z72 :: z73 :: (.agg (vals .u64 16 (F.dg c))) :: (.agg (vals .u64 16 (F.dg d))) :: (.agg (vals .u64 16 (F.dg (am c d)))) :: (.agg (vals .u64 16 (F.dg q))) :: z78 :: zz), defers := [] } w := by
  obtain ⟨hQ, hc, hd, hq, hb8, nb8, hb9, nb9, hb13, nb13, _⟩ := id C
  refine wpAnyH_ready (rs := [4, 5]) (by kernel_rfl) (by simp) ?_
  refine AllReadyH.cons (o := rf21Op4) rfl (fun K hK => ?_) ?_
  · skip
    rw [if_pos (by rfl)]
    refine wp_call_val 32 #[.agg (vals .u64 16 (F.dg (am c d))), .agg (vals .u64 16 (F.dg q))] (by kernel_rfl) (.agg (vals .u64 16 (F.dg (mm (am c d) q)))) (rmul_c (am c d) q _ (am_lt _ _) hq) ?_
    intro w' hbw
    have hS' := hS.call hbw
    refine hK.out _ _ hS' (fun _ => ?_)
    exact wpAnyH_at (by kernel_rfl) (by kernel_rfl) (rf21_3 C w' hS' )
  refine AllReadyH.cons (o := rf21Op5) rfl (fun K hK => ?_) AllReadyH.nil
  rw [if_pos (by rfl)]
  refine wp_new _ 47 (alloc_rn _ _ _ rfl) ?_
  intro n17 w' eb Bn17 hbw
  have hS' := hS.call hbw
  refine hK.out _ _ hS' (fun _ => ?_)
  exact wpAnyH_at (by kernel_rfl) (by kernel_rfl) (rf21_2 C w' hS' (by rw [eb]; exact hS.size) Bn17)
set_option maxRecDepth 100000 in
set_option maxHeartbeats 2000000 in
theorem rf21_6 (C : rf21C Q u z0 z1 z2 z3 z4 z5 z6 z7 z10 z11 z12 z14 z15 z16 z17 z18 z19 z20 z21 z22 z23 z24 z25 z26 z27 z28 z29 z30 z31 z32 z33 z34 z35 z36 z37 z38 z39 z40 z41 z42 z43 z44 z45 z46 z47 z48 z49 z50 z51 z52 z53 z54 z55 z56 z57 z58 z59 z60 z61 z62 z63 z64 z65 z66 z67 z68 z69 z70 z71 z72 z73 z74 z75 z76 z77 z78 zz b8 b9 b13 c d q) (w : World) (hS : Kp [] u w) :
    wpAnyH Try.prog .any rf21Ops Q (Kp [] u) 4 (List.toArray (true :: true :: false :: true :: false :: false :: false :: [])) { tmps := List.toArray (z0 :: z1 :: z2 :: z3 :: z4 :: z5 :: z6 :: z7 :: (.pointer (some ⟨b8, 0, none⟩)) :: (.pointer (some ⟨b9, 0, none⟩)) :: z10 :: z11 :: z12 :: (.pointer (some ⟨b13, 0, none⟩)) :: z14 :: z15 :: z16 :: z17 :: z18 :: z19 :: z20 :: z21 :: z22 :: z23 :: z24 :: z25 :: z26 :: z27 :: z28 :: z29 :: z30 :: z31 :: z32 :: z33 :: z34 :: z35 :: z36 :: z37 :: z38 :: z39 :: z40 :: z41 :: z42 :: z43 :: z44 :: z45 :: z46 :: z47 :: z48 :: z49 :: z50 :: z51 :: z52 :: z53 :: z54 :: z55 :: z56 :: z57 :: z58 :: z59 :: z60 :: z61 :: z62 :: z63 :: z64 :: z65 :: z66 :: z67 :: z68 :: z69 :: z70 :: z71 :: z72 :: z73 :: (.agg (vals .u64 16 (F.dg c))) :: (.agg (vals .u64 16 (F.dg d))) :: z76 :: (.agg (vals .u64 16 (F.dg q))) :: z78 :: zz), defers := [] } w := by
  obtain ⟨hQ, hc, hd, hq, hb8, nb8, hb9, nb9, hb13, nb13, _⟩ := id C
  refine wpAnyH_ready (rs := [2, 5]) (by kernel_rfl) (by simp) ?_
  refine AllReadyH.cons (o := rf21Op2) rfl (fun K hK => ?_) ?_
  · skip
    rw [if_pos (by rfl)]
    refine wp_call_val 30 #[.agg (vals .u64 16 (F.dg c)), .agg (vals .u64 16 (F.dg d))] (by kernel_rfl) (.agg (vals .u64 16 (F.dg (am c d)))) (radd_c c d _ hc hd) ?_
    intro w' hbw
    have hS' := hS.call hbw
    refine hK.out _ _ hS' (fun _ => ?_)
    exact wpAnyH_at (by kernel_rfl) (by kernel_rfl) (rf21_5 C w' hS' )
  refine AllReadyH.cons (o := rf21Op5) rfl (fun K hK => ?_) AllReadyH.nil
  rw [if_pos (by rfl)]
  refine wp_new _ 47 (alloc_rn _ _ _ rfl) ?_
  intro n17 w' eb Bn17 hbw
  have hS' := hS.call hbw
  refine hK.out _ _ hS' (fun _ => ?_)
  exact wpAnyH_at (by kernel_rfl) (by kernel_rfl) (rf21_4 C w' hS' (by rw [eb]; exact hS.size) Bn17)
end
set_option maxRecDepth 100000 in
set_option maxHeartbeats 2000000 in
theorem rf21_region (Q : Exit → Act → World → Prop) (hQ : ∀ c a w n v, Q (.panic c) (a.put (some n) v) w → Q (.panic c) a w) (u : World) (z0 z1 z2 z3 z4 z5 z6 z7 z10 z11 z12 z14 z15 z16 z17 z18 z19 z20 z21 z22 z23 z24 z25 z26 z27 z28 z29 z30 z31 z32 z33 z34 z35 z36 z37 z38 z39 z40 z41 z42 z43 z44 z45 z46 z47 z48 z49 z50 z51 z52 z53 z54 z55 z56 z57 z58 z59 z60 z61 z62 z63 z64 z65 z66 z67 z68 z69 z70 z71 z72 z73 z74 z75 z76 z77 z78 : Value) (zz : List Value) (b8 b9 b13 : Nat) (c d q : Nat) (hc : c < pP) (hd : d < pP) (hq : q < pP) (hb8 : Blk u b8 (vals .u64 16 (F.dg c)) 47) (nb8 : b8 ∉ ([] : List Nat)) (hb9 : Blk u b9 (vals .u64 16 (F.dg d)) 47) (nb9 : b9 ∉ ([] : List Nat)) (hb13 : Blk u b13 (vals .u64 16 (F.dg q)) 47) (nb13 : b13 ∉ ([] : List Nat)) (H : ∀ (n17 : Nat) (w : World), Kp [] u w → u.heap.size ≤ n17 → Blk w n17 (vals .u64 16 (F.dg (mm (am c d) q))) 47 → Q .normal { tmps := List.toArray (z0 :: z1 :: z2 :: z3 :: z4 :: z5 :: z6 :: z7 :: (.pointer (some ⟨b8, 0, none⟩)) :: (.pointer (some ⟨b9, 0, none⟩)) :: z10 :: z11 :: z12 :: (.pointer (some ⟨b13, 0, none⟩)) :: z14 :: z15 :: z16 :: (.pointer (some ⟨n17, 0, none⟩)) :: z18 :: z19 :: z20 :: z21 :: z22 :: z23 :: z24 :: z25 :: z26 :: z27 :: z28 :: z29 :: z30 :: z31 :: z32 :: z33 :: z34 :: z35 :: z36 :: z37 :: z38 :: z39 :: z40 :: z41 :: z42 :: z43 :: z44 :: z45 :: z46 :: z47 :: z48 :: z49 :: z50 :: z51 :: z52 :: z53 :: z54 :: z55 :: z56 :: z57 :: z58 :: z59 :: z60 :: z61 :: z62 :: z63 :: z64 :: z65 :: z66 :: z67 :: z68 :: z69 :: z70 :: z71 :: z72 :: z73 :: (.agg (vals .u64 16 (F.dg c))) :: (.agg (vals .u64 16 (F.dg d))) :: (.agg (vals .u64 16 (F.dg (am c d)))) :: (.agg (vals .u64 16 (F.dg q))) :: (.agg (vals .u64 16 (F.dg (mm (am c d) q)))) :: zz), defers := [] } w) :
    (Code.region 21 rf21Ops true).wp Try.prog Q { tmps := List.toArray (z0 :: z1 :: z2 :: z3 :: z4 :: z5 :: z6 :: z7 :: (.pointer (some ⟨b8, 0, none⟩)) :: (.pointer (some ⟨b9, 0, none⟩)) :: z10 :: z11 :: z12 :: (.pointer (some ⟨b13, 0, none⟩)) :: z14 :: z15 :: z16 :: z17 :: z18 :: z19 :: z20 :: z21 :: z22 :: z23 :: z24 :: z25 :: z26 :: z27 :: z28 :: z29 :: z30 :: z31 :: z32 :: z33 :: z34 :: z35 :: z36 :: z37 :: z38 :: z39 :: z40 :: z41 :: z42 :: z43 :: z44 :: z45 :: z46 :: z47 :: z48 :: z49 :: z50 :: z51 :: z52 :: z53 :: z54 :: z55 :: z56 :: z57 :: z58 :: z59 :: z60 :: z61 :: z62 :: z63 :: z64 :: z65 :: z66 :: z67 :: z68 :: z69 :: z70 :: z71 :: z72 :: z73 :: z74 :: z75 :: z76 :: z77 :: z78 :: zz), defers := [] } u := by
  have C : rf21C Q u z0 z1 z2 z3 z4 z5 z6 z7 z10 z11 z12 z14 z15 z16 z17 z18 z19 z20 z21 z22 z23 z24 z25 z26 z27 z28 z29 z30 z31 z32 z33 z34 z35 z36 z37 z38 z39 z40 z41 z42 z43 z44 z45 z46 z47 z48 z49 z50 z51 z52 z53 z54 z55 z56 z57 z58 z59 z60 z61 z62 z63 z64 z65 z66 z67 z68 z69 z70 z71 z72 z73 z74 z75 z76 z77 z78 zz b8 b9 b13 c d q := ⟨hQ, hc, hd, hq, hb8, nb8, hb9, nb9, hb13, nb13, H⟩
  refine wp_region_held_drew (S := (Kp [] u)) (by kernel_rfl) (Kp.drew _ u) (fun hS' => ?_)
  refine wpAnyH_take (i := 0) (oi := rf21Op0) (v := .agg (vals .u64 16 (F.dg c))) rfl (by kernel_rfl) (by kernel_rfl) (by kernel_rfl) (fun _ _ _ => hQ _ _ _ _ _) (yields_S (fun _ h => h.keep _ _ _ nb8 hb8) (by kernel_rfl) 47 _ rfl (by kernel_rfl) _ Try.underlying47 rfl (size_rn _)) hS' ?_
  refine wpAnyH_take (i := 1) (oi := rf21Op1) (v := .agg (vals .u64 16 (F.dg d))) rfl (by kernel_rfl) (by kernel_rfl) (by kernel_rfl) (fun _ _ _ => hQ _ _ _ _ _) (yields_S (fun _ h => h.keep _ _ _ nb9 hb9) (by kernel_rfl) 47 _ rfl (by kernel_rfl) _ Try.underlying47 rfl (size_rn _)) hS' ?_
  refine wpAnyH_take (i := 3) (oi := rf21Op3) (v := .agg (vals .u64 16 (F.dg q))) rfl (by kernel_rfl) (by kernel_rfl) (by kernel_rfl) (fun _ _ _ => hQ _ _ _ _ _) (yields_S (fun _ h => h.keep _ _ _ nb13 hb13) (by kernel_rfl) 47 _ rfl (by kernel_rfl) _ Try.underlying47 rfl (size_rn _)) hS' ?_
  exact wpAnyH_at (by kernel_rfl) (by kernel_rfl) (rf21_6 C u.drew hS' )
def rf22Op0 : Oper := { dst := some 79, op := Op.load 47 (Operand.tmp 8), type := 47, pos := "ref.go:28", after := #[], guard := none }
def rf22Op1 : Oper := { dst := some 80, op := Op.load 47 (Operand.tmp 9), type := 47, pos := "ref.go:28", after := #[], guard := none }
def rf22Op2 : Oper := { dst := some 81, op := Op.call { callee := Callee.value (Operand.func 31), args := #[Operand.tmp 79, Operand.tmp 80], argTypes := #[47, 47] }, type := 47, pos := "ref.go:28", after := #[{ on := 0, ground := Ground.data }, { on := 1, ground := Ground.data }], guard := none }
def rf22Op3 : Oper := { dst := some 82, op := Op.load 47 (Operand.tmp 12), type := 47, pos := "ref.go:28", after := #[], guard := none }
def rf22Op4 : Oper := { dst := some 83, op := Op.call { callee := Callee.value (Operand.func 32), args := #[Operand.tmp 81, Operand.tmp 82], argTypes := #[47, 47] }, type := 47, pos := "ref.go:28", after := #[{ on := 2, ground := Ground.data }, { on := 3, ground := Ground.data }, { on := 2, ground := Ground.chain }], guard := none }
def rf22Op5 : Oper := { dst := some 18, op := Op.alloc 47, type := 0, pos := "ref.go:28", after := #[], guard := none }
def rf22Op6 : Oper := { dst := none, op := Op.store 47 (Operand.tmp 18) (Operand.tmp 83), type := 0, pos := "ref.go:28", after := #[{ on := 5, ground := Ground.data }, { on := 4, ground := Ground.data }, { on := 4, ground := Ground.chain }, { on := 0, ground := Ground.phase }, { on := 1, ground := Ground.phase }, { on := 2, ground := Ground.phase }, { on := 3, ground := Ground.phase }, { on := 4, ground := Ground.phase }, { on := 5, ground := Ground.phase }], guard := none }
def rf22Ops : Array Oper := #[rf22Op0, rf22Op1, rf22Op2, rf22Op3, rf22Op4, rf22Op5, rf22Op6]
structure rf22C (Q : Exit → Act → World → Prop) (u : World) (z0 z1 z2 z3 z4 z5 z6 z7 z10 z11 z13 z14 z15 z16 z17 z18 z19 z20 z21 z22 z23 z24 z25 z26 z27 z28 z29 z30 z31 z32 z33 z34 z35 z36 z37 z38 z39 z40 z41 z42 z43 z44 z45 z46 z47 z48 z49 z50 z51 z52 z53 z54 z55 z56 z57 z58 z59 z60 z61 z62 z63 z64 z65 z66 z67 z68 z69 z70 z71 z72 z73 z74 z75 z76 z77 z78 z79 z80 z81 z82 z83 : Value) (zz : List Value) (b8 b9 b12 : Nat) (c d p : Nat) : Prop where
  hQ : ∀ c a w n v, Q (.panic c) (a.put (some n) v) w → Q (.panic c) a w
  hc : c < pP
  hd : d < pP
  hp : p < pP
  hb8 : Blk u b8 (vals .u64 16 (F.dg c)) 47
  nb8 : b8 ∉ ([] : List Nat)
  hb9 : Blk u b9 (vals .u64 16 (F.dg d)) 47
  nb9 : b9 ∉ ([] : List Nat)
  hb12 : Blk u b12 (vals .u64 16 (F.dg p)) 47
  nb12 : b12 ∉ ([] : List Nat)
  H : ∀ (n18 : Nat) (w : World), Kp [] u w → u.heap.size ≤ n18 → Blk w n18 (vals .u64 16 (F.dg (mm (sm c d) p))) 47 → Q .normal { tmps := List.toArray (z0 :: z1 :: z2 :: z3 :: z4 :: z5 :: z6 :: z7 :: (.pointer (some ⟨b8, 0, none⟩)) :: (.pointer (some ⟨b9, 0, none⟩)) :: z10 :: z11 :: (.pointer (some ⟨b12, 0, none⟩)) :: z13 :: z14 :: z15 :: z16 :: z17 :: (.pointer (some ⟨n18, 0, none⟩)) :: z19 :: z20 :: z21 :: z22 :: z23 :: z24 :: z25 :: z26 :: z27 :: z28 :: z29 :: z30 :: z31 :: z32 :: z33 :: z34 :: z35 :: z36 :: z37 :: z38 :: z39 :: z40 :: z41 :: z42 :: z43 :: z44 :: z45 :: z46 :: z47 :: z48 :: z49 :: z50 :: z51 :: z52 :: z53 :: z54 :: z55 :: z56 :: z57 :: z58 :: z59 :: z60 :: z61 :: z62 :: z63 :: z64 :: z65 :: z66 :: z67 :: z68 :: z69 :: z70 :: z71 :: z72 :: z73 :: z74 :: z75 :: z76 :: z77 :: z78 :: (.agg (vals .u64 16 (F.dg c))) :: (.agg (vals .u64 16 (F.dg d))) :: (.agg (vals .u64 16 (F.dg (sm c d)))) :: (.agg (vals .u64 16 (F.dg p))) :: (.agg (vals .u64 16 (F.dg (mm (sm c d) p)))) :: zz), defers := [] } w
section
variable {Q : Exit → Act → World → Prop} {u : World} {z0 z1 z2 z3 z4 z5 z6 z7 z10 z11 z13 z14 z15 z16 z17 z18 z19 z20 z21 z22 z23 z24 z25 z26 z27 z28 z29 z30 z31 z32 z33 z34 z35 z36 z37 z38 z39 z40 z41 z42 z43 z44 z45 z46 z47 z48 z49 z50 z51 z52 z53 z54 z55 z56 z57 z58 z59 z60 z61 z62 z63 z64 z65 z66 z67 z68 z69 z70 z71 z72 z73 z74 z75 z76 z77 z78 z79 z80 z81 z82 z83 : Value} {zz : List Value} {b8 b9 b12 : Nat} {c d p : Nat}
set_option maxRecDepth 100000 in
set_option maxHeartbeats 2000000 in
theorem rf22_0 (C : rf22C Q u z0 z1 z2 z3 z4 z5 z6 z7 z10 z11 z13 z14 z15 z16 z17 z18 z19 z20 z21 z22 z23 z24 z25 z26 z27 z28 z29 z30 z31 z32 z33 z34 z35 z36 z37 z38 z39 z40 z41 z42 z43 z44 z45 z46 z47 z48 z49 z50 z51 z52 z53 z54 z55 z56 z57 z58 z59 z60 z61 z62 z63 z64 z65 z66 z67 z68 z69 z70 z71 z72 z73 z74 z75 z76 z77 z78 z79 z80 z81 z82 z83 zz b8 b9 b12 c d p) {n18 : Nat} (w : World) (hS : Kp [] u w) (gn18 : u.heap.size ≤ n18) (Bn18 : Blk w n18 (vals .u64 16 (F.dg (mm (sm c d) p))) 47) :
    wpAnyH Try.prog .any rf22Ops Q (Kp [] u) 0 (List.toArray (true :: true :: true :: true :: true :: true :: true :: [])) { tmps := List.toArray (z0 :: z1 :: z2 :: z3 :: z4 :: z5 :: z6 :: z7 :: (.pointer (some ⟨b8, 0, none⟩)) :: (.pointer (some ⟨b9, 0, none⟩)) :: z10 :: z11 :: (.pointer (some ⟨b12, 0, none⟩)) :: z13 :: z14 :: z15 :: z16 :: z17 :: (.pointer (some ⟨n18, 0, none⟩)) :: z19 :: z20 :: z21 :: z22 :: z23 :: z24 :: z25 :: z26 :: z27 :: z28 :: z29 :: z30 :: z31 :: z32 :: z33 :: z34 :: z35 :: z36 :: z37 :: z38 :: z39 :: z40 :: z41 :: z42 :: z43 :: z44 :: z45 :: z46 :: z47 :: z48 :: z49 :: z50 :: z51 :: z52 :: z53 :: z54 :: z55 :: z56 :: z57 :: z58 :: z59 :: z60 :: z61 :: z62 :: z63 :: z64 :: z65 :: z66 :: z67 :: z68 :: z69 :: z70 :: z71 :: z72 :: z73 :: z74 :: z75 :: z76 :: z77 :: z78 :: (.agg (vals .u64 16 (F.dg c))) :: (.agg (vals .u64 16 (F.dg d))) :: (.agg (vals .u64 16 (F.dg (sm c d)))) :: (.agg (vals .u64 16 (F.dg p))) :: (.agg (vals .u64 16 (F.dg (mm (sm c d) p)))) :: zz), defers := [] } w := by
  exact wpAnyH_done (by kernel_rfl) (C.H n18 w hS gn18 Bn18) _
set_option maxRecDepth 100000 in
set_option maxHeartbeats 2000000 in
theorem rf22_1 (C : rf22C Q u z0 z1 z2 z3 z4 z5 z6 z7 z10 z11 z13 z14 z15 z16 z17 z18 z19 z20 z21 z22 z23 z24 z25 z26 z27 z28 z29 z30 z31 z32 z33 z34 z35 z36 z37 z38 z39 z40 z41 z42 z43 z44 z45 z46 z47 z48 z49 z50 z51 z52 z53 z54 z55 z56 z57 z58 z59 z60 z61 z62 z63 z64 z65 z66 z67 z68 z69 z70 z71 z72 z73 z74 z75 z76 z77 z78 z79 z80 z81 z82 z83 zz b8 b9 b12 c d p) {n18 : Nat} (w : World) (hS : Kp [] u w) (gn18 : u.heap.size ≤ n18) (Bn18 : Blk w n18 (vals .u64 16 (fun _ => 0)) 47) :
    wpAnyH Try.prog .any rf22Ops Q (Kp [] u) 1 (List.toArray (true :: true :: true :: true :: true :: true :: false :: [])) { tmps := List.toArray (z0 :: z1 :: z2 :: z3 :: z4 :: z5 :: z6 :: z7 :: (.pointer (some ⟨b8, 0, none⟩)) :: (.pointer (some ⟨b9, 0, none⟩)) :: z10 :: z11 :: (.pointer (some ⟨b12, 0, none⟩)) :: z13 :: z14 :: z15 :: z16 :: z17 :: (.pointer (some ⟨n18, 0, none⟩)) :: z19 :: z20 :: z21 :: z22 :: z23 :: z24 :: z25 :: z26 :: z27 :: z28 :: z29 :: z30 :: z31 :: z32 :: z33 :: z34 :: z35 :: z36 :: z37 :: z38 :: z39 :: z40 :: z41 :: z42 :: z43 :: z44 :: z45 :: z46 :: z47 :: z48 :: z49 :: z50 :: z51 :: z52 :: z53 :: z54 :: z55 :: z56 :: z57 :: z58 :: z59 :: z60 :: z61 :: z62 :: z63 :: z64 :: z65 :: z66 :: z67 :: z68 :: z69 :: z70 :: z71 :: z72 :: z73 :: z74 :: z75 :: z76 :: z77 :: z78 :: (.agg (vals .u64 16 (F.dg c))) :: (.agg (vals .u64 16 (F.dg d))) :: (.agg (vals .u64 16 (F.dg (sm c d)))) :: (.agg (vals .u64 16 (F.dg p))) :: (.agg (vals .u64 16 (F.dg (mm (sm c d) p)))) :: zz), defers := [] } w := by
  obtain ⟨hQ, hc, hd, hp, hb8, nb8, hb9, nb9, hb12, nb12, _⟩ := id C
  refine wpAnyH_ready (rs := [6]) (by kernel_rfl) (by simp) ?_
  refine AllReadyH.cons (o := rf22Op6) rfl (fun K hK => ?_) AllReadyH.nil
  rw [if_pos (by rfl)]
  refine wp_store_row 47 _ _ rfl n18 (vals .u64 16 (F.dg (mm (sm c d) p))) (by kernel_rfl) (by kernel_rfl) 47 _ Bn18 (size_rn _) (by simp only [vals_size]) (vals_one _ _ _) ?_
  have hS' := hS.new gn18 (vals .u64 16 (F.dg (mm (sm c d) p)))
  refine hK.out _ _ hS' (fun _ => ?_)
  exact wpAnyH_at (by kernel_rfl) (by kernel_rfl) (rf22_0 C (w.setRow n18 (vals .u64 16 (F.dg (mm (sm c d) p)))) hS' gn18 (Bn18.row (vals .u64 16 (F.dg (mm (sm c d) p)))))
set_option maxRecDepth 100000 in
set_option maxHeartbeats 2000000 in
theorem rf22_2 (C : rf22C Q u z0 z1 z2 z3 z4 z5 z6 z7 z10 z11 z13 z14 z15 z16 z17 z18 z19 z20 z21 z22 z23 z24 z25 z26 z27 z28 z29 z30 z31 z32 z33 z34 z35 z36 z37 z38 z39 z40 z41 z42 z43 z44 z45 z46 z47 z48 z49 z50 z51 z52 z53 z54 z55 z56 z57 z58 z59 z60 z61 z62 z63 z64 z65 z66 z67 z68 z69 z70 z71 z72 z73 z74 z75 z76 z77 z78 z79 z80 z81 z82 z83 zz b8 b9 b12 c d p) {n18 : Nat} (w : World) (hS : Kp [] u w) (gn18 : u.heap.size ≤ n18) (Bn18 : Blk w n18 (vals .u64 16 (fun _ => 0)) 47) :
    wpAnyH Try.prog .any rf22Ops Q (Kp [] u) 2 (List.toArray (true :: true :: true :: true :: false :: true :: false :: [])) { tmps := List.toArray (z0 :: z1 :: z2 :: z3 :: z4 :: z5 :: z6 :: z7 :: (.pointer (some ⟨b8, 0, none⟩)) :: (.pointer (some ⟨b9, 0, none⟩)) :: z10 :: z11 :: (.pointer (some ⟨b12, 0, none⟩)) :: z13 :: z14 :: z15 :: z16 :: z17 :: (.pointer (some ⟨n18, 0, none⟩)) :: z19 :: z20 :: z21 :: z22 :: z23 :: z24 :: z25 :: z26 :: z27 :: z28 :: z29 :: z30 :: z31 :: z32 :: z33 :: z34 :: z35 :: z36 :: z37 :: z38 :: z39 :: z40 :: z41 :: z42 :: z43 :: z44 :: z45 :: z46 :: z47 :: z48 :: z49 :: z50 :: z51 :: z52 :: z53 :: z54 :: z55 :: z56 :: z57 :: z58 :: z59 :: z60 :: z61 :: z62 :: z63 :: z64 :: z65 :: z66 :: z67 :: z68 :: z69 :: z70 :: z71 :: z72 :: z73 :: z74 :: z75 :: z76 :: z77 :: z78 :: (.agg (vals .u64 16 (F.dg c))) :: (.agg (vals .u64 16 (F.dg d))) :: (.agg (vals .u64 16 (F.dg (sm c d)))) :: (.agg (vals .u64 16 (F.dg p))) :: z83 :: zz), defers := [] } w := by
  obtain ⟨hQ, hc, hd, hp, hb8, nb8, hb9, nb9, hb12, nb12, _⟩ := id C
  refine wpAnyH_ready (rs := [4]) (by kernel_rfl) (by simp) ?_
  refine AllReadyH.cons (o := rf22Op4) rfl (fun K hK => ?_) AllReadyH.nil
  rw [if_pos (by rfl)]
  refine wp_call_val 32 #[.agg (vals .u64 16 (F.dg (sm c d))), .agg (vals .u64 16 (F.dg p))] (by kernel_rfl) (.agg (vals .u64 16 (F.dg (mm (sm c d) p)))) (rmul_c (sm c d) p _ (sm_lt _ _) hp) ?_
  intro w' hbw
  have hS' := hS.call hbw
  refine hK.out _ _ hS' (fun _ => ?_)
  exact wpAnyH_at (by kernel_rfl) (by kernel_rfl) (rf22_1 C w' hS' gn18 (Bn18.call hbw))
set_option maxRecDepth 100000 in
set_option maxHeartbeats 2000000 in
theorem rf22_3 (C : rf22C Q u z0 z1 z2 z3 z4 z5 z6 z7 z10 z11 z13 z14 z15 z16 z17 z18 z19 z20 z21 z22 z23 z24 z25 z26 z27 z28 z29 z30 z31 z32 z33 z34 z35 z36 z37 z38 z39 z40 z41 z42 z43 z44 z45 z46 z47 z48 z49 z50 z51 z52 z53 z54 z55 z56 z57 z58 z59 z60 z61 z62 z63 z64 z65 z66 z67 z68 z69 z70 z71 z72 z73 z74 z75 z76 z77 z78 z79 z80 z81 z82 z83 zz b8 b9 b12 c d p) (w : World) (hS : Kp [] u w) :
    wpAnyH Try.prog .any rf22Ops Q (Kp [] u) 2 (List.toArray (true :: true :: true :: true :: true :: false :: false :: [])) { tmps := List.toArray (z0 :: z1 :: z2 :: z3 :: z4 :: z5 :: z6 :: z7 :: (.pointer (some ⟨b8, 0, none⟩)) :: (.pointer (some ⟨b9, 0, none⟩)) :: z10 :: z11 :: (.pointer (some ⟨b12, 0, none⟩)) :: z13 :: z14 :: z15 :: z16 :: z17 :: z18 :: z19 :: z20 :: z21 :: z22 :: z23 :: z24 :: z25 :: z26 :: z27 :: z28 :: z29 :: z30 :: z31 :: z32 :: z33 :: z34 :: z35 :: z36 :: z37 :: z38 :: z39 :: z40 :: z41 :: z42 :: z43 :: z44 :: z45 :: z46 :: z47 :: z48 :: z49 :: z50 :: z51 :: z52 :: z53 :: z54 :: z55 :: z56 :: z57 :: z58 :: z59 :: z60 :: z61 :: z62 :: z63 :: z64 :: z65 :: z66 :: z67 :: z68 :: z69 :: z70 :: z71 :: z72 :: z73 :: z74 :: z75 :: z76 :: z77 :: z78 :: (.agg (vals .u64 16 (F.dg c))) :: (.agg (vals .u64 16 (F.dg d))) :: (.agg (vals .u64 16 (F.dg (sm c d)))) :: (.agg (vals .u64 16 (F.dg p))) :: (.agg (vals .u64 16 (F.dg (mm (sm c d) p)))) :: zz), defers := [] } w := by
  obtain ⟨hQ, hc, hd, hp, hb8, nb8, hb9, nb9, hb12, nb12, _⟩ := id C
  refine wpAnyH_ready (rs := [5]) (by kernel_rfl) (by simp) ?_
  refine AllReadyH.cons (o := rf22Op5) rfl (fun K hK => ?_) AllReadyH.nil
  rw [if_pos (by rfl)]
  refine wp_new _ 47 (alloc_rn _ _ _ rfl) ?_
  intro n18 w' eb Bn18 hbw
  have hS' := hS.call hbw
  refine hK.out _ _ hS' (fun _ => ?_)
  exact wpAnyH_at (by kernel_rfl) (by kernel_rfl) (rf22_1 C w' hS' (by rw [eb]; exact hS.size) Bn18)
set_option maxRecDepth 100000 in
set_option maxHeartbeats 2000000 in
theorem rf22_4 (C : rf22C Q u z0 z1 z2 z3 z4 z5 z6 z7 z10 z11 z13 z14 z15 z16 z17 z18 z19 z20 z21 z22 z23 z24 z25 z26 z27 z28 z29 z30 z31 z32 z33 z34 z35 z36 z37 z38 z39 z40 z41 z42 z43 z44 z45 z46 z47 z48 z49 z50 z51 z52 z53 z54 z55 z56 z57 z58 z59 z60 z61 z62 z63 z64 z65 z66 z67 z68 z69 z70 z71 z72 z73 z74 z75 z76 z77 z78 z79 z80 z81 z82 z83 zz b8 b9 b12 c d p) {n18 : Nat} (w : World) (hS : Kp [] u w) (gn18 : u.heap.size ≤ n18) (Bn18 : Blk w n18 (vals .u64 16 (fun _ => 0)) 47) :
    wpAnyH Try.prog .any rf22Ops Q (Kp [] u) 3 (List.toArray (true :: true :: false :: true :: false :: true :: false :: [])) { tmps := List.toArray (z0 :: z1 :: z2 :: z3 :: z4 :: z5 :: z6 :: z7 :: (.pointer (some ⟨b8, 0, none⟩)) :: (.pointer (some ⟨b9, 0, none⟩)) :: z10 :: z11 :: (.pointer (some ⟨b12, 0, none⟩)) :: z13 :: z14 :: z15 :: z16 :: z17 :: (.pointer (some ⟨n18, 0, none⟩)) :: z19 :: z20 :: z21 :: z22 :: z23 :: z24 :: z25 :: z26 :: z27 :: z28 :: z29 :: z30 :: z31 :: z32 :: z33 :: z34 :: z35 :: z36 :: z37 :: z38 :: z39 :: z40 :: z41 :: z42 :: z43 :: z44 :: z45 :: z46 :: z47 :: z48 :: z49 :: z50 :: z51 :: z52 :: z53 :: z54 :: z55 :: z56 :: z57 :: z58 :: z59 :: z60 :: z61 :: z62 :: z63 :: z64 :: z65 :: z66 :: z67 :: z68 :: z69 :: z70 :: z71 :: z72 :: z73 :: z74 :: z75 :: z76 :: z77 :: z78 :: (.agg (vals .u64 16 (F.dg c))) :: (.agg (vals .u64 16 (F.dg d))) :: z81 :: (.agg (vals .u64 16 (F.dg p))) :: z83 :: zz), defers := [] } w := by
  obtain ⟨hQ, hc, hd, hp, hb8, nb8, hb9, nb9, hb12, nb12, _⟩ := id C
  refine wpAnyH_ready (rs := [2]) (by kernel_rfl) (by simp) ?_
  refine AllReadyH.cons (o := rf22Op2) rfl (fun K hK => ?_) AllReadyH.nil
  rw [if_pos (by rfl)]
  refine wp_call_val 31 #[.agg (vals .u64 16 (F.dg c)), .agg (vals .u64 16 (F.dg d))] (by kernel_rfl) (.agg (vals .u64 16 (F.dg (sm c d)))) (rsub_c c d _ hc hd) ?_
  intro w' hbw
  have hS' := hS.call hbw
  refine hK.out _ _ hS' (fun _ => ?_)
  exact wpAnyH_at (by kernel_rfl) (by kernel_rfl) (rf22_2 C w' hS' gn18 (Bn18.call hbw))
set_option maxRecDepth 100000 in
set_option maxHeartbeats 2000000 in
theorem rf22_5 (C : rf22C Q u z0 z1 z2 z3 z4 z5 z6 z7 z10 z11 z13 z14 z15 z16 z17 z18 z19 z20 z21 z22 z23 z24 z25 z26 z27 z28 z29 z30 z31 z32 z33 z34 z35 z36 z37 z38 z39 z40 z41 z42 z43 z44 z45 z46 z47 z48 z49 z50 z51 z52 z53 z54 z55 z56 z57 z58 z59 z60 z61 z62 z63 z64 z65 z66 z67 z68 z69 z70 z71 z72 z73 z74 z75 z76 z77 z78 z79 z80 z81 z82 z83 zz b8 b9 b12 c d p) (w : World) (hS : Kp [] u w) :
    wpAnyH Try.prog .any rf22Ops Q (Kp [] u) 3 (List.toArray (true :: true :: true :: true :: false :: false :: false :: [])) { tmps := List.toArray (z0 :: z1 :: z2 :: z3 :: z4 :: z5 :: z6 :: z7 :: (.pointer (some ⟨b8, 0, none⟩)) :: (.pointer (some ⟨b9, 0, none⟩)) :: z10 :: z11 :: (.pointer (some ⟨b12, 0, none⟩)) :: z13 :: z14 :: z15 :: z16 :: z17 :: z18 :: z19 :: z20 :: z21 :: z22 :: z23 :: z24 :: z25 :: z26 :: z27 :: z28 :: z29 :: z30 :: z31 :: z32 :: z33 :: z34 :: z35 :: z36 :: z37 :: z38 :: z39 :: z40 :: z41 :: z42 :: z43 :: z44 :: z45 :: z46 :: z47 :: z48 :: z49 :: z50 :: z51 :: z52 :: z53 :: z54 :: z55 :: z56 :: z57 :: z58 :: z59 :: z60 :: z61 :: z62 :: z63 :: z64 :: z65 :: z66 :: z67 :: z68 :: z69 :: z70 :: z71 :: z72 :: z73 :: z74 :: z75 :: z76 :: z77 :: z78 :: (.agg (vals .u64 16 (F.dg c))) :: (.agg (vals .u64 16 (F.dg d))) :: (.agg (vals .u64 16 (F.dg (sm c d)))) :: (.agg (vals .u64 16 (F.dg p))) :: z83 :: zz), defers := [] } w := by
  obtain ⟨hQ, hc, hd, hp, hb8, nb8, hb9, nb9, hb12, nb12, _⟩ := id C
  refine wpAnyH_ready (rs := [4, 5]) (by kernel_rfl) (by simp) ?_
  refine AllReadyH.cons (o := rf22Op4) rfl (fun K hK => ?_) ?_
  · skip
    rw [if_pos (by rfl)]
    refine wp_call_val 32 #[.agg (vals .u64 16 (F.dg (sm c d))), .agg (vals .u64 16 (F.dg p))] (by kernel_rfl) (.agg (vals .u64 16 (F.dg (mm (sm c d) p)))) (rmul_c (sm c d) p _ (sm_lt _ _) hp) ?_
    intro w' hbw
    have hS' := hS.call hbw
    refine hK.out _ _ hS' (fun _ => ?_)
    exact wpAnyH_at (by kernel_rfl) (by kernel_rfl) (rf22_3 C w' hS' )
  refine AllReadyH.cons (o := rf22Op5) rfl (fun K hK => ?_) AllReadyH.nil
  rw [if_pos (by rfl)]
  refine wp_new _ 47 (alloc_rn _ _ _ rfl) ?_
  intro n18 w' eb Bn18 hbw
  have hS' := hS.call hbw
  refine hK.out _ _ hS' (fun _ => ?_)
  exact wpAnyH_at (by kernel_rfl) (by kernel_rfl) (rf22_2 C w' hS' (by rw [eb]; exact hS.size) Bn18)
set_option maxRecDepth 100000 in
set_option maxHeartbeats 2000000 in
theorem rf22_6 (C : rf22C Q u z0 z1 z2 z3 z4 z5 z6 z7 z10 z11 z13 z14 z15 z16 z17 z18 z19 z20 z21 z22 z23 z24 z25 z26 z27 z28 z29 z30 z31 z32 z33 z34 z35 z36 z37 z38 z39 z40 z41 z42 z43 z44 z45 z46 z47 z48 z49 z50 z51 z52 z53 z54 z55 z56 z57 z58 z59 z60 z61 z62 z63 z64 z65 z66 z67 z68 z69 z70 z71 z72 z73 z74 z75 z76 z77 z78 z79 z80 z81 z82 z83 zz b8 b9 b12 c d p) (w : World) (hS : Kp [] u w) :
    wpAnyH Try.prog .any rf22Ops Q (Kp [] u) 4 (List.toArray (true :: true :: false :: true :: false :: false :: false :: [])) { tmps := List.toArray (z0 :: z1 :: z2 :: z3 :: z4 :: z5 :: z6 :: z7 :: (.pointer (some ⟨b8, 0, none⟩)) :: (.pointer (some ⟨b9, 0, none⟩)) :: z10 :: z11 :: (.pointer (some ⟨b12, 0, none⟩)) :: z13 :: z14 :: z15 :: z16 :: z17 :: z18 :: z19 :: z20 :: z21 :: z22 :: z23 :: z24 :: z25 :: z26 :: z27 :: z28 :: z29 :: z30 :: z31 :: z32 :: z33 :: z34 :: z35 :: z36 :: z37 :: z38 :: z39 :: z40 :: z41 :: z42 :: z43 :: z44 :: z45 :: z46 :: z47 :: z48 :: z49 :: z50 :: z51 :: z52 :: z53 :: z54 :: z55 :: z56 :: z57 :: z58 :: z59 :: z60 :: z61 :: z62 :: z63 :: z64 :: z65 :: z66 :: z67 :: z68 :: z69 :: z70 :: z71 :: z72 :: z73 :: z74 :: z75 :: z76 :: z77 :: z78 :: (.agg (vals .u64 16 (F.dg c))) :: (.agg (vals .u64 16 (F.dg d))) :: z81 :: (.agg (vals .u64 16 (F.dg p))) :: z83 :: zz), defers := [] } w := by
  obtain ⟨hQ, hc, hd, hp, hb8, nb8, hb9, nb9, hb12, nb12, _⟩ := id C
  refine wpAnyH_ready (rs := [2, 5]) (by kernel_rfl) (by simp) ?_
  refine AllReadyH.cons (o := rf22Op2) rfl (fun K hK => ?_) ?_
  · skip
    rw [if_pos (by rfl)]
    refine wp_call_val 31 #[.agg (vals .u64 16 (F.dg c)), .agg (vals .u64 16 (F.dg d))] (by kernel_rfl) (.agg (vals .u64 16 (F.dg (sm c d)))) (rsub_c c d _ hc hd) ?_
    intro w' hbw
    have hS' := hS.call hbw
    refine hK.out _ _ hS' (fun _ => ?_)
    exact wpAnyH_at (by kernel_rfl) (by kernel_rfl) (rf22_5 C w' hS' )
  refine AllReadyH.cons (o := rf22Op5) rfl (fun K hK => ?_) AllReadyH.nil
  rw [if_pos (by rfl)]
  refine wp_new _ 47 (alloc_rn _ _ _ rfl) ?_
  intro n18 w' eb Bn18 hbw
  have hS' := hS.call hbw
  refine hK.out _ _ hS' (fun _ => ?_)
  exact wpAnyH_at (by kernel_rfl) (by kernel_rfl) (rf22_4 C w' hS' (by rw [eb]; exact hS.size) Bn18)
end
set_option maxRecDepth 100000 in
set_option maxHeartbeats 2000000 in
theorem rf22_region (Q : Exit → Act → World → Prop) (hQ : ∀ c a w n v, Q (.panic c) (a.put (some n) v) w → Q (.panic c) a w) (u : World) (z0 z1 z2 z3 z4 z5 z6 z7 z10 z11 z13 z14 z15 z16 z17 z18 z19 z20 z21 z22 z23 z24 z25 z26 z27 z28 z29 z30 z31 z32 z33 z34 z35 z36 z37 z38 z39 z40 z41 z42 z43 z44 z45 z46 z47 z48 z49 z50 z51 z52 z53 z54 z55 z56 z57 z58 z59 z60 z61 z62 z63 z64 z65 z66 z67 z68 z69 z70 z71 z72 z73 z74 z75 z76 z77 z78 z79 z80 z81 z82 z83 : Value) (zz : List Value) (b8 b9 b12 : Nat) (c d p : Nat) (hc : c < pP) (hd : d < pP) (hp : p < pP) (hb8 : Blk u b8 (vals .u64 16 (F.dg c)) 47) (nb8 : b8 ∉ ([] : List Nat)) (hb9 : Blk u b9 (vals .u64 16 (F.dg d)) 47) (nb9 : b9 ∉ ([] : List Nat)) (hb12 : Blk u b12 (vals .u64 16 (F.dg p)) 47) (nb12 : b12 ∉ ([] : List Nat)) (H : ∀ (n18 : Nat) (w : World), Kp [] u w → u.heap.size ≤ n18 → Blk w n18 (vals .u64 16 (F.dg (mm (sm c d) p))) 47 → Q .normal { tmps := List.toArray (z0 :: z1 :: z2 :: z3 :: z4 :: z5 :: z6 :: z7 :: (.pointer (some ⟨b8, 0, none⟩)) :: (.pointer (some ⟨b9, 0, none⟩)) :: z10 :: z11 :: (.pointer (some ⟨b12, 0, none⟩)) :: z13 :: z14 :: z15 :: z16 :: z17 :: (.pointer (some ⟨n18, 0, none⟩)) :: z19 :: z20 :: z21 :: z22 :: z23 :: z24 :: z25 :: z26 :: z27 :: z28 :: z29 :: z30 :: z31 :: z32 :: z33 :: z34 :: z35 :: z36 :: z37 :: z38 :: z39 :: z40 :: z41 :: z42 :: z43 :: z44 :: z45 :: z46 :: z47 :: z48 :: z49 :: z50 :: z51 :: z52 :: z53 :: z54 :: z55 :: z56 :: z57 :: z58 :: z59 :: z60 :: z61 :: z62 :: z63 :: z64 :: z65 :: z66 :: z67 :: z68 :: z69 :: z70 :: z71 :: z72 :: z73 :: z74 :: z75 :: z76 :: z77 :: z78 :: (.agg (vals .u64 16 (F.dg c))) :: (.agg (vals .u64 16 (F.dg d))) :: (.agg (vals .u64 16 (F.dg (sm c d)))) :: (.agg (vals .u64 16 (F.dg p))) :: (.agg (vals .u64 16 (F.dg (mm (sm c d) p)))) :: zz), defers := [] } w) :
    (Code.region 22 rf22Ops true).wp Try.prog Q { tmps := List.toArray (z0 :: z1 :: z2 :: z3 :: z4 :: z5 :: z6 :: z7 :: (.pointer (some ⟨b8, 0, none⟩)) :: (.pointer (some ⟨b9, 0, none⟩)) :: z10 :: z11 :: (.pointer (some ⟨b12, 0, none⟩)) :: z13 :: z14 :: z15 :: z16 :: z17 :: z18 :: z19 :: z20 :: z21 :: z22 :: z23 :: z24 :: z25 :: z26 :: z27 :: z28 :: z29 :: z30 :: z31 :: z32 :: z33 :: z34 :: z35 :: z36 :: z37 :: z38 :: z39 :: z40 :: z41 :: z42 :: z43 :: z44 :: z45 :: z46 :: z47 :: z48 :: z49 :: z50 :: z51 :: z52 :: z53 :: z54 :: z55 :: z56 :: z57 :: z58 :: z59 :: z60 :: z61 :: z62 :: z63 :: z64 :: z65 :: z66 :: z67 :: z68 :: z69 :: z70 :: z71 :: z72 :: z73 :: z74 :: z75 :: z76 :: z77 :: z78 :: z79 :: z80 :: z81 :: z82 :: z83 :: zz), defers := [] } u := by
  have C : rf22C Q u z0 z1 z2 z3 z4 z5 z6 z7 z10 z11 z13 z14 z15 z16 z17 z18 z19 z20 z21 z22 z23 z24 z25 z26 z27 z28 z29 z30 z31 z32 z33 z34 z35 z36 z37 z38 z39 z40 z41 z42 z43 z44 z45 z46 z47 z48 z49 z50 z51 z52 z53 z54 z55 z56 z57 z58 z59 z60 z61 z62 z63 z64 z65 z66 z67 z68 z69 z70 z71 z72 z73 z74 z75 z76 z77 z78 z79 z80 z81 z82 z83 zz b8 b9 b12 c d p := ⟨hQ, hc, hd, hp, hb8, nb8, hb9, nb9, hb12, nb12, H⟩
  refine wp_region_held_drew (S := (Kp [] u)) (by kernel_rfl) (Kp.drew _ u) (fun hS' => ?_)
  refine wpAnyH_take (i := 0) (oi := rf22Op0) (v := .agg (vals .u64 16 (F.dg c))) rfl (by kernel_rfl) (by kernel_rfl) (by kernel_rfl) (fun _ _ _ => hQ _ _ _ _ _) (yields_S (fun _ h => h.keep _ _ _ nb8 hb8) (by kernel_rfl) 47 _ rfl (by kernel_rfl) _ Try.underlying47 rfl (size_rn _)) hS' ?_
  refine wpAnyH_take (i := 1) (oi := rf22Op1) (v := .agg (vals .u64 16 (F.dg d))) rfl (by kernel_rfl) (by kernel_rfl) (by kernel_rfl) (fun _ _ _ => hQ _ _ _ _ _) (yields_S (fun _ h => h.keep _ _ _ nb9 hb9) (by kernel_rfl) 47 _ rfl (by kernel_rfl) _ Try.underlying47 rfl (size_rn _)) hS' ?_
  refine wpAnyH_take (i := 3) (oi := rf22Op3) (v := .agg (vals .u64 16 (F.dg p))) rfl (by kernel_rfl) (by kernel_rfl) (by kernel_rfl) (fun _ _ _ => hQ _ _ _ _ _) (yields_S (fun _ h => h.keep _ _ _ nb12 hb12) (by kernel_rfl) 47 _ rfl (by kernel_rfl) _ Try.underlying47 rfl (size_rn _)) hS' ?_
  exact wpAnyH_at (by kernel_rfl) (by kernel_rfl) (rf22_6 C u.drew hS' )
def rf23Op0 : Oper := { dst := some 84, op := Op.load 47 (Operand.tmp 14), type := 47, pos := "ref.go:29", after := #[], guard := none }
def rf23Op1 : Oper := { dst := some 85, op := Op.load 47 (Operand.tmp 15), type := 47, pos := "ref.go:29", after := #[], guard := none }
def rf23Op2 : Oper := { dst := some 86, op := Op.call { callee := Callee.value (Operand.func 32), args := #[Operand.tmp 84, Operand.tmp 85], argTypes := #[47, 47] }, type := 47, pos := "ref.go:29", after := #[{ on := 0, ground := Ground.data }, { on := 1, ground := Ground.data }], guard := none }
def rf23Op3 : Oper := { dst := none, op := Op.store 47 (Operand.tmp 6) (Operand.tmp 86), type := 0, pos := "ref.go:29", after := #[{ on := 2, ground := Ground.data }, { on := 2, ground := Ground.chain }, { on := 0, ground := Ground.phase }, { on := 1, ground := Ground.phase }, { on := 2, ground := Ground.phase }], guard := none }
def rf23Ops : Array Oper := #[rf23Op0, rf23Op1, rf23Op2, rf23Op3]
set_option maxRecDepth 100000 in
set_option maxHeartbeats 2000000 in
theorem rf23_region (Q : Exit → Act → World → Prop) (hQ : ∀ c a w n v, Q (.panic c) (a.put (some n) v) w → Q (.panic c) a w) (u : World) (z0 z1 z2 z3 z4 z5 z7 z8 z9 z10 z11 z12 z13 z16 z17 z18 z19 z20 z21 z22 z23 z24 z25 z26 z27 z28 z29 z30 z31 z32 z33 z34 z35 z36 z37 z38 z39 z40 z41 z42 z43 z44 z45 z46 z47 z48 z49 z50 z51 z52 z53 z54 z55 z56 z57 z58 z59 z60 z61 z62 z63 z64 z65 z66 z67 z68 z69 z70 z71 z72 z73 z74 z75 z76 z77 z78 z79 z80 z81 z82 z83 z84 z85 z86 : Value) (zz : List Value) (b6 b14 b15 : Nat) (a s t : Nat) (hs : s < pP) (ht : t < pP) (hb6 : Blk u b6 (vals .u64 16 (F.dg a)) 47) (hb14 : Blk u b14 (vals .u64 16 (F.dg s)) 47) (nb14 : b14 ∉ ([b6] : List Nat)) (hb15 : Blk u b15 (vals .u64 16 (F.dg t)) 47) (nb15 : b15 ∉ ([b6] : List Nat)) (H : ∀ (w : World), Kp [b6] u w → Blk w b6 (vals .u64 16 (F.dg (mm s t))) 47 → Q .normal { tmps := List.toArray (z0 :: z1 :: z2 :: z3 :: z4 :: z5 :: (.pointer (some ⟨b6, 0, none⟩)) :: z7 :: z8 :: z9 :: z10 :: z11 :: z12 :: z13 :: (.pointer (some ⟨b14, 0, none⟩)) :: (.pointer (some ⟨b15, 0, none⟩)) :: z16 :: z17 :: z18 :: z19 :: z20 :: z21 :: z22 :: z23 :: z24 :: z25 :: z26 :: z27 :: z28 :: z29 :: z30 :: z31 :: z32 :: z33 :: z34 :: z35 :: z36 :: z37 :: z38 :: z39 :: z40 :: z41 :: z42 :: z43 :: z44 :: z45 :: z46 :: z47 :: z48 :: z49 :: z50 :: z51 :: z52 :: z53 :: z54 :: z55 :: z56 :: z57 :: z58 :: z59 :: z60 :: z61 :: z62 :: z63 :: z64 :: z65 :: z66 :: z67 :: z68 :: z69 :: z70 :: z71 :: z72 :: z73 :: z74 :: z75 :: z76 :: z77 :: z78 :: z79 :: z80 :: z81 :: z82 :: z83 :: (.agg (vals .u64 16 (F.dg s))) :: (.agg (vals .u64 16 (F.dg t))) :: (.agg (vals .u64 16 (F.dg (mm s t)))) :: zz), defers := [] } w) :
    (Code.region 23 rf23Ops false).wp Try.prog Q { tmps := List.toArray (z0 :: z1 :: z2 :: z3 :: z4 :: z5 :: (.pointer (some ⟨b6, 0, none⟩)) :: z7 :: z8 :: z9 :: z10 :: z11 :: z12 :: z13 :: (.pointer (some ⟨b14, 0, none⟩)) :: (.pointer (some ⟨b15, 0, none⟩)) :: z16 :: z17 :: z18 :: z19 :: z20 :: z21 :: z22 :: z23 :: z24 :: z25 :: z26 :: z27 :: z28 :: z29 :: z30 :: z31 :: z32 :: z33 :: z34 :: z35 :: z36 :: z37 :: z38 :: z39 :: z40 :: z41 :: z42 :: z43 :: z44 :: z45 :: z46 :: z47 :: z48 :: z49 :: z50 :: z51 :: z52 :: z53 :: z54 :: z55 :: z56 :: z57 :: z58 :: z59 :: z60 :: z61 :: z62 :: z63 :: z64 :: z65 :: z66 :: z67 :: z68 :: z69 :: z70 :: z71 :: z72 :: z73 :: z74 :: z75 :: z76 :: z77 :: z78 :: z79 :: z80 :: z81 :: z82 :: z83 :: z84 :: z85 :: z86 :: zz), defers := [] } u := by
  have _ := hQ
  have _ := u
  have _ := z0
  have _ := z1
  have _ := z2
  have _ := z3
  have _ := z4
  have _ := z5
  have _ := z7
  have _ := z8
  have _ := z9
  have _ := z10
  have _ := z11
  have _ := z12
  have _ := z13
  have _ := z16
  have _ := z17
  have _ := z18
  have _ := z19
  have _ := z20
  have _ := z21
  have _ := z22
  have _ := z23
  have _ := z24
  have _ := z25
  have _ := z26
  have _ := z27
  have _ := z28
  have _ := z29
  have _ := z30
  have _ := z31
  have _ := z32
  have _ := z33
  have _ := z34
  have _ := z35
  have _ := z36
  have _ := z37
  have _ := z38
  have _ := z39
  have _ := z40
  have _ := z41
  have _ := z42
  have _ := z43
  have _ := z44
  have _ := z45
  have _ := z46
  have _ := z47
  have _ := z48
  have _ := z49
  have _ := z50
  have _ := z51
  have _ := z52
  have _ := z53
  have _ := z54
  have _ := z55
  have _ := z56
  have _ := z57
  have _ := z58
  have _ := z59
  have _ := z60
  have _ := z61
  have _ := z62
  have _ := z63
  have _ := z64
  have _ := z65
  have _ := z66
  have _ := z67
  have _ := z68
  have _ := z69
  have _ := z70
  have _ := z71
  have _ := z72
  have _ := z73
  have _ := z74
  have _ := z75
  have _ := z76
  have _ := z77
  have _ := z78
  have _ := z79
  have _ := z80
  have _ := z81
  have _ := z82
  have _ := z83
  have _ := z84
  have _ := z85
  have _ := z86
  have _ := zz
  have _ := b6
  have _ := b14
  have _ := b15
  have _ := a
  have _ := s
  have _ := t
  have _ := hs
  have _ := ht
  have _ := hb6
  have _ := hb14
  have _ := nb14
  have _ := hb15
  have _ := nb15
  refine wp_region_list (show wpList _ rf23Ops _ [rf23Op0, rf23Op1, rf23Op2, rf23Op3] _ _ from ?_)
  have hS : Kp [b6] u u := Kp.refl _ u
  have Bb6 := hb6
  refine wpList_plain rfl (fun K hK => ?_)
  refine wp_load_row 47 _ rfl b14 (by kernel_rfl) 47 _ (0, 0) _ (hS.keep _ _ _ nb14 hb14) Try.underlying47 rfl (size_rn _) ?_
  have hS' := hS
  refine hK _ _ ?_
  clear hK K
  have qBb6 : Blk u b6 (vals .u64 16 (F.dg a)) 47 := Bb6
  clear hS Bb6
  have Bb6 := qBb6
  have hS := hS'
  clear hS' qBb6
  refine wpList_fr (a' := { tmps := List.toArray (z0 :: z1 :: z2 :: z3 :: z4 :: z5 :: (.pointer (some ⟨b6, 0, none⟩)) :: z7 :: z8 :: z9 :: z10 :: z11 :: z12 :: z13 :: (.pointer (some ⟨b14, 0, none⟩)) :: (.pointer (some ⟨b15, 0, none⟩)) :: z16 :: z17 :: z18 :: z19 :: z20 :: z21 :: z22 :: z23 :: z24 :: z25 :: z26 :: z27 :: z28 :: z29 :: z30 :: z31 :: z32 :: z33 :: z34 :: z35 :: z36 :: z37 :: z38 :: z39 :: z40 :: z41 :: z42 :: z43 :: z44 :: z45 :: z46 :: z47 :: z48 :: z49 :: z50 :: z51 :: z52 :: z53 :: z54 :: z55 :: z56 :: z57 :: z58 :: z59 :: z60 :: z61 :: z62 :: z63 :: z64 :: z65 :: z66 :: z67 :: z68 :: z69 :: z70 :: z71 :: z72 :: z73 :: z74 :: z75 :: z76 :: z77 :: z78 :: z79 :: z80 :: z81 :: z82 :: z83 :: (.agg (vals .u64 16 (F.dg s))) :: z85 :: z86 :: zz), defers := [] }) (by kernel_rfl) ?_
  refine wpList_plain rfl (fun K hK => ?_)
  refine wp_load_row 47 _ rfl b15 (by kernel_rfl) 47 _ (0, 0) _ (hS.keep _ _ _ nb15 hb15) Try.underlying47 rfl (size_rn _) ?_
  have hS' := hS
  refine hK _ _ ?_
  clear hK K
  have qBb6 : Blk u b6 (vals .u64 16 (F.dg a)) 47 := Bb6
  clear hS Bb6
  have Bb6 := qBb6
  have hS := hS'
  clear hS' qBb6
  refine wpList_fr (a' := { tmps := List.toArray (z0 :: z1 :: z2 :: z3 :: z4 :: z5 :: (.pointer (some ⟨b6, 0, none⟩)) :: z7 :: z8 :: z9 :: z10 :: z11 :: z12 :: z13 :: (.pointer (some ⟨b14, 0, none⟩)) :: (.pointer (some ⟨b15, 0, none⟩)) :: z16 :: z17 :: z18 :: z19 :: z20 :: z21 :: z22 :: z23 :: z24 :: z25 :: z26 :: z27 :: z28 :: z29 :: z30 :: z31 :: z32 :: z33 :: z34 :: z35 :: z36 :: z37 :: z38 :: z39 :: z40 :: z41 :: z42 :: z43 :: z44 :: z45 :: z46 :: z47 :: z48 :: z49 :: z50 :: z51 :: z52 :: z53 :: z54 :: z55 :: z56 :: z57 :: z58 :: z59 :: z60 :: z61 :: z62 :: z63 :: z64 :: z65 :: z66 :: z67 :: z68 :: z69 :: z70 :: z71 :: z72 :: z73 :: z74 :: z75 :: z76 :: z77 :: z78 :: z79 :: z80 :: z81 :: z82 :: z83 :: (.agg (vals .u64 16 (F.dg s))) :: (.agg (vals .u64 16 (F.dg t))) :: z86 :: zz), defers := [] }) (by kernel_rfl) ?_
  refine wpList_plain rfl (fun K hK => ?_)
  refine wp_call_val 32 #[.agg (vals .u64 16 (F.dg s)), .agg (vals .u64 16 (F.dg t))] (by kernel_rfl) (.agg (vals .u64 16 (F.dg (mm s t)))) (rmul_c s t _ hs ht) ?_
  intro w2 hbw
  have hS' := hS.call hbw
  refine hK _ _ ?_
  clear hK K
  have qBb6 : Blk w2 b6 (vals .u64 16 (F.dg a)) 47 := (Bb6.call hbw)
  clear hS Bb6
  have Bb6 := qBb6
  have hS := hS'
  clear hS' qBb6
  refine wpList_fr (a' := { tmps := List.toArray (z0 :: z1 :: z2 :: z3 :: z4 :: z5 :: (.pointer (some ⟨b6, 0, none⟩)) :: z7 :: z8 :: z9 :: z10 :: z11 :: z12 :: z13 :: (.pointer (some ⟨b14, 0, none⟩)) :: (.pointer (some ⟨b15, 0, none⟩)) :: z16 :: z17 :: z18 :: z19 :: z20 :: z21 :: z22 :: z23 :: z24 :: z25 :: z26 :: z27 :: z28 :: z29 :: z30 :: z31 :: z32 :: z33 :: z34 :: z35 :: z36 :: z37 :: z38 :: z39 :: z40 :: z41 :: z42 :: z43 :: z44 :: z45 :: z46 :: z47 :: z48 :: z49 :: z50 :: z51 :: z52 :: z53 :: z54 :: z55 :: z56 :: z57 :: z58 :: z59 :: z60 :: z61 :: z62 :: z63 :: z64 :: z65 :: z66 :: z67 :: z68 :: z69 :: z70 :: z71 :: z72 :: z73 :: z74 :: z75 :: z76 :: z77 :: z78 :: z79 :: z80 :: z81 :: z82 :: z83 :: (.agg (vals .u64 16 (F.dg s))) :: (.agg (vals .u64 16 (F.dg t))) :: (.agg (vals .u64 16 (F.dg (mm s t)))) :: zz), defers := [] }) (by kernel_rfl) ?_
  refine wpList_plain rfl (fun K hK => ?_)
  refine wp_store_row 47 _ _ rfl b6 (vals .u64 16 (F.dg (mm s t))) (by kernel_rfl) (by kernel_rfl) 47 _ Bb6 (size_rn _) (by simp only [vals_size]) (vals_one _ _ _) ?_
  have hS' := hS.old (x := b6) (by simp) (vals .u64 16 (F.dg (mm s t)))
  refine hK _ _ ?_
  clear hK K
  have qBb6 : Blk (w2.setRow b6 (vals .u64 16 (F.dg (mm s t)))) b6 (vals .u64 16 (F.dg (mm s t))) 47 := (Bb6.row (vals .u64 16 (F.dg (mm s t))))
  clear hS Bb6
  have Bb6 := qBb6
  have hS := hS'
  clear hS' qBb6
  refine wpList_fr (a' := { tmps := List.toArray (z0 :: z1 :: z2 :: z3 :: z4 :: z5 :: (.pointer (some ⟨b6, 0, none⟩)) :: z7 :: z8 :: z9 :: z10 :: z11 :: z12 :: z13 :: (.pointer (some ⟨b14, 0, none⟩)) :: (.pointer (some ⟨b15, 0, none⟩)) :: z16 :: z17 :: z18 :: z19 :: z20 :: z21 :: z22 :: z23 :: z24 :: z25 :: z26 :: z27 :: z28 :: z29 :: z30 :: z31 :: z32 :: z33 :: z34 :: z35 :: z36 :: z37 :: z38 :: z39 :: z40 :: z41 :: z42 :: z43 :: z44 :: z45 :: z46 :: z47 :: z48 :: z49 :: z50 :: z51 :: z52 :: z53 :: z54 :: z55 :: z56 :: z57 :: z58 :: z59 :: z60 :: z61 :: z62 :: z63 :: z64 :: z65 :: z66 :: z67 :: z68 :: z69 :: z70 :: z71 :: z72 :: z73 :: z74 :: z75 :: z76 :: z77 :: z78 :: z79 :: z80 :: z81 :: z82 :: z83 :: (.agg (vals .u64 16 (F.dg s))) :: (.agg (vals .u64 16 (F.dg t))) :: (.agg (vals .u64 16 (F.dg (mm s t)))) :: zz), defers := [] }) (by kernel_rfl) ?_
  generalize (w2.setRow b6 (vals .u64 16 (F.dg (mm s t)))) = w3 at *
  refine wpList_nil ?_
  exact H  w3 hS Bb6
def rf24Op0 : Oper := { dst := some 87, op := Op.load 47 (Operand.tmp 16), type := 47, pos := "ref.go:30", after := #[], guard := none }
def rf24Op1 : Oper := { dst := some 88, op := Op.load 47 (Operand.tmp 14), type := 47, pos := "ref.go:30", after := #[], guard := none }
def rf24Op2 : Oper := { dst := some 89, op := Op.call { callee := Callee.value (Operand.func 29), args := #[Operand.const (Value.int IntKind.u64 121665)], argTypes := #[29] }, type := 47, pos := "ref.go:30", after := #[], guard := none }
def rf24Op3 : Oper := { dst := some 90, op := Op.load 47 (Operand.tmp 16), type := 47, pos := "ref.go:30", after := #[], guard := none }
def rf24Op4 : Oper := { dst := some 91, op := Op.call { callee := Callee.value (Operand.func 32), args := #[Operand.tmp 89, Operand.tmp 90], argTypes := #[47, 47] }, type := 47, pos := "ref.go:30", after := #[{ on := 2, ground := Ground.data }, { on := 3, ground := Ground.data }, { on := 2, ground := Ground.chain }], guard := none }
def rf24Op5 : Oper := { dst := some 92, op := Op.call { callee := Callee.value (Operand.func 30), args := #[Operand.tmp 88, Operand.tmp 91], argTypes := #[47, 47] }, type := 47, pos := "ref.go:30", after := #[{ on := 1, ground := Ground.data }, { on := 4, ground := Ground.data }, { on := 4, ground := Ground.chain }], guard := none }
def rf24Op6 : Oper := { dst := some 93, op := Op.call { callee := Callee.value (Operand.func 32), args := #[Operand.tmp 87, Operand.tmp 92], argTypes := #[47, 47] }, type := 47, pos := "ref.go:30", after := #[{ on := 0, ground := Ground.data }, { on := 5, ground := Ground.data }, { on := 5, ground := Ground.chain }], guard := none }
def rf24Op7 : Oper := { dst := none, op := Op.store 47 (Operand.tmp 7) (Operand.tmp 93), type := 0, pos := "ref.go:30", after := #[{ on := 6, ground := Ground.data }, { on := 6, ground := Ground.chain }, { on := 0, ground := Ground.phase }, { on := 1, ground := Ground.phase }, { on := 2, ground := Ground.phase }, { on := 3, ground := Ground.phase }, { on := 4, ground := Ground.phase }, { on := 5, ground := Ground.phase }, { on := 6, ground := Ground.phase }], guard := none }
def rf24Ops : Array Oper := #[rf24Op0, rf24Op1, rf24Op2, rf24Op3, rf24Op4, rf24Op5, rf24Op6, rf24Op7]
structure rf24C (Q : Exit → Act → World → Prop) (u : World) (z0 z1 z2 z3 z4 z5 z6 z8 z9 z10 z11 z12 z13 z15 z17 z18 z19 z20 z21 z22 z23 z24 z25 z26 z27 z28 z29 z30 z31 z32 z33 z34 z35 z36 z37 z38 z39 z40 z41 z42 z43 z44 z45 z46 z47 z48 z49 z50 z51 z52 z53 z54 z55 z56 z57 z58 z59 z60 z61 z62 z63 z64 z65 z66 z67 z68 z69 z70 z71 z72 z73 z74 z75 z76 z77 z78 z79 z80 z81 z82 z83 z84 z85 z86 z87 z88 z89 z90 z91 z92 z93 : Value) (zz : List Value) (b7 b14 b16 : Nat) (b s e : Nat) : Prop where
  hQ : ∀ c a w n v, Q (.panic c) (a.put (some n) v) w → Q (.panic c) a w
  hs : s < pP
  he : e < pP
  hb7 : Blk u b7 (vals .u64 16 (F.dg b)) 47
  hb14 : Blk u b14 (vals .u64 16 (F.dg s)) 47
  nb14 : b14 ∉ ([b7] : List Nat)
  hb16 : Blk u b16 (vals .u64 16 (F.dg e)) 47
  nb16 : b16 ∉ ([b7] : List Nat)
  H : ∀ (w : World), Kp [b7] u w → Blk w b7 (vals .u64 16 (F.dg (mm e (am s (mm 121665 e))))) 47 → Q .normal { tmps := List.toArray (z0 :: z1 :: z2 :: z3 :: z4 :: z5 :: z6 :: (.pointer (some ⟨b7, 0, none⟩)) :: z8 :: z9 :: z10 :: z11 :: z12 :: z13 :: (.pointer (some ⟨b14, 0, none⟩)) :: z15 :: (.pointer (some ⟨b16, 0, none⟩)) :: z17 :: z18 :: z19 :: z20 :: z21 :: z22 :: z23 :: z24 :: z25 :: z26 :: z27 :: z28 :: z29 :: z30 :: z31 :: z32 :: z33 :: z34 :: z35 :: z36 :: z37 :: z38 :: z39 :: z40 :: z41 :: z42 :: z43 :: z44 :: z45 :: z46 :: z47 :: z48 :: z49 :: z50 :: z51 :: z52 :: z53 :: z54 :: z55 :: z56 :: z57 :: z58 :: z59 :: z60 :: z61 :: z62 :: z63 :: z64 :: z65 :: z66 :: z67 :: z68 :: z69 :: z70 :: z71 :: z72 :: z73 :: z74 :: z75 :: z76 :: z77 :: z78 :: z79 :: z80 :: z81 :: z82 :: z83 :: z84 :: z85 :: z86 :: (.agg (vals .u64 16 (F.dg e))) :: (.agg (vals .u64 16 (F.dg s))) :: (.agg (vals .u64 16 (F.dg 121665))) :: (.agg (vals .u64 16 (F.dg e))) :: (.agg (vals .u64 16 (F.dg (mm 121665 e)))) :: (.agg (vals .u64 16 (F.dg (am s (mm 121665 e))))) :: (.agg (vals .u64 16 (F.dg (mm e (am s (mm 121665 e)))))) :: zz), defers := [] } w
section
variable {Q : Exit → Act → World → Prop} {u : World} {z0 z1 z2 z3 z4 z5 z6 z8 z9 z10 z11 z12 z13 z15 z17 z18 z19 z20 z21 z22 z23 z24 z25 z26 z27 z28 z29 z30 z31 z32 z33 z34 z35 z36 z37 z38 z39 z40 z41 z42 z43 z44 z45 z46 z47 z48 z49 z50 z51 z52 z53 z54 z55 z56 z57 z58 z59 z60 z61 z62 z63 z64 z65 z66 z67 z68 z69 z70 z71 z72 z73 z74 z75 z76 z77 z78 z79 z80 z81 z82 z83 z84 z85 z86 z87 z88 z89 z90 z91 z92 z93 : Value} {zz : List Value} {b7 b14 b16 : Nat} {b s e : Nat}
set_option maxRecDepth 100000 in
set_option maxHeartbeats 2000000 in
theorem rf24_0 (C : rf24C Q u z0 z1 z2 z3 z4 z5 z6 z8 z9 z10 z11 z12 z13 z15 z17 z18 z19 z20 z21 z22 z23 z24 z25 z26 z27 z28 z29 z30 z31 z32 z33 z34 z35 z36 z37 z38 z39 z40 z41 z42 z43 z44 z45 z46 z47 z48 z49 z50 z51 z52 z53 z54 z55 z56 z57 z58 z59 z60 z61 z62 z63 z64 z65 z66 z67 z68 z69 z70 z71 z72 z73 z74 z75 z76 z77 z78 z79 z80 z81 z82 z83 z84 z85 z86 z87 z88 z89 z90 z91 z92 z93 zz b7 b14 b16 b s e) (w : World) (hS : Kp [b7] u w) (Bb7 : Blk w b7 (vals .u64 16 (F.dg (mm e (am s (mm 121665 e))))) 47) :
    wpAnyH Try.prog .any rf24Ops Q (Kp [b7] u) 0 (List.toArray (true :: true :: true :: true :: true :: true :: true :: true :: [])) { tmps := List.toArray (z0 :: z1 :: z2 :: z3 :: z4 :: z5 :: z6 :: (.pointer (some ⟨b7, 0, none⟩)) :: z8 :: z9 :: z10 :: z11 :: z12 :: z13 :: (.pointer (some ⟨b14, 0, none⟩)) :: z15 :: (.pointer (some ⟨b16, 0, none⟩)) :: z17 :: z18 :: z19 :: z20 :: z21 :: z22 :: z23 :: z24 :: z25 :: z26 :: z27 :: z28 :: z29 :: z30 :: z31 :: z32 :: z33 :: z34 :: z35 :: z36 :: z37 :: z38 :: z39 :: z40 :: z41 :: z42 :: z43 :: z44 :: z45 :: z46 :: z47 :: z48 :: z49 :: z50 :: z51 :: z52 :: z53 :: z54 :: z55 :: z56 :: z57 :: z58 :: z59 :: z60 :: z61 :: z62 :: z63 :: z64 :: z65 :: z66 :: z67 :: z68 :: z69 :: z70 :: z71 :: z72 :: z73 :: z74 :: z75 :: z76 :: z77 :: z78 :: z79 :: z80 :: z81 :: z82 :: z83 :: z84 :: z85 :: z86 :: (.agg (vals .u64 16 (F.dg e))) :: (.agg (vals .u64 16 (F.dg s))) :: (.agg (vals .u64 16 (F.dg 121665))) :: (.agg (vals .u64 16 (F.dg e))) :: (.agg (vals .u64 16 (F.dg (mm 121665 e)))) :: (.agg (vals .u64 16 (F.dg (am s (mm 121665 e))))) :: (.agg (vals .u64 16 (F.dg (mm e (am s (mm 121665 e)))))) :: zz), defers := [] } w := by
  exact wpAnyH_done (by kernel_rfl) (C.H  w hS Bb7) _
set_option maxRecDepth 100000 in
set_option maxHeartbeats 2000000 in
theorem rf24_1 (C : rf24C Q u z0 z1 z2 z3 z4 z5 z6 z8 z9 z10 z11 z12 z13 z15 z17 z18 z19 z20 z21 z22 z23 z24 z25 z26 z27 z28 z29 z30 z31 z32 z33 z34 z35 z36 z37 z38 z39 z40 z41 z42 z43 z44 z45 z46 z47 z48 z49 z50 z51 z52 z53 z54 z55 z56 z57 z58 z59 z60 z61 z62 z63 z64 z65 z66 z67 z68 z69 z70 z71 z72 z73 z74 z75 z76 z77 z78 z79 z80 z81 z82 z83 z84 z85 z86 z87 z88 z89 z90 z91 z92 z93 zz b7 b14 b16 b s e) (w : World) (hS : Kp [b7] u w) (Bb7 : Blk w b7 (vals .u64 16 (F.dg b)) 47) :
    wpAnyH Try.prog .any rf24Ops Q (Kp [b7] u) 1 (List.toArray (true :: true :: true :: true :: true :: true :: true :: false :: [])) { tmps := List.toArray (z0 :: z1 :: z2 :: z3 :: z4 :: z5 :: z6 :: (.pointer (some ⟨b7, 0, none⟩)) :: z8 :: z9 :: z10 :: z11 :: z12 :: z13 :: (.pointer (some ⟨b14, 0, none⟩)) :: z15 :: (.pointer (some ⟨b16, 0, none⟩)) :: z17 :: z18 :: z19 :: z20 :: z21 :: z22 :: z23 :: z24 :: z25 :: z26 :: z27 :: z28 :: z29 :: z30 :: z31 :: z32 :: z33 :: z34 :: z35 :: z36 :: z37 :: z38 :: z39 :: z40 :: z41 :: z42 :: z43 :: z44 :: z45 :: z46 :: z47 :: z48 :: z49 :: z50 :: z51 :: z52 :: z53 :: z54 :: z55 :: z56 :: z57 :: z58 :: z59 :: z60 :: z61 :: z62 :: z63 :: z64 :: z65 :: z66 :: z67 :: z68 :: z69 :: z70 :: z71 :: z72 :: z73 :: z74 :: z75 :: z76 :: z77 :: z78 :: z79 :: z80 :: z81 :: z82 :: z83 :: z84 :: z85 :: z86 :: (.agg (vals .u64 16 (F.dg e))) :: (.agg (vals .u64 16 (F.dg s))) :: (.agg (vals .u64 16 (F.dg 121665))) :: (.agg (vals .u64 16 (F.dg e))) :: (.agg (vals .u64 16 (F.dg (mm 121665 e)))) :: (.agg (vals .u64 16 (F.dg (am s (mm 121665 e))))) :: (.agg (vals .u64 16 (F.dg (mm e (am s (mm 121665 e)))))) :: zz), defers := [] } w := by
  obtain ⟨hQ, hs, he, hb7, hb14, nb14, hb16, nb16, _⟩ := id C
  refine wpAnyH_ready (rs := [7]) (by kernel_rfl) (by simp) ?_
  refine AllReadyH.cons (o := rf24Op7) rfl (fun K hK => ?_) AllReadyH.nil
  rw [if_pos (by rfl)]
  refine wp_store_row 47 _ _ rfl b7 (vals .u64 16 (F.dg (mm e (am s (mm 121665 e))))) (by kernel_rfl) (by kernel_rfl) 47 _ Bb7 (size_rn _) (by simp only [vals_size]) (vals_one _ _ _) ?_
  have hS' := hS.old (x := b7) (by simp) (vals .u64 16 (F.dg (mm e (am s (mm 121665 e)))))
  refine hK.out _ _ hS' (fun _ => ?_)
  exact wpAnyH_at (by kernel_rfl) (by kernel_rfl) (rf24_0 C (w.setRow b7 (vals .u64 16 (F.dg (mm e (am s (mm 121665 e)))))) hS' (Bb7.row (vals .u64 16 (F.dg (mm e (am s (mm 121665 e)))))))
set_option maxRecDepth 100000 in
set_option maxHeartbeats 2000000 in
theorem rf24_2 (C : rf24C Q u z0 z1 z2 z3 z4 z5 z6 z8 z9 z10 z11 z12 z13 z15 z17 z18 z19 z20 z21 z22 z23 z24 z25 z26 z27 z28 z29 z30 z31 z32 z33 z34 z35 z36 z37 z38 z39 z40 z41 z42 z43 z44 z45 z46 z47 z48 z49 z50 z51 z52 z53 z54 z55 z56 z57 z58 z59 z60 z61 z62 z63 z64 z65 z66 z67 z68 z69 z70 z71 z72 z73 z74 z75 z76 z77 z78 z79 z80 z81 z82 z83 z84 z85 z86 z87 z88 z89 z90 z91 z92 z93 zz b7 b14 b16 b s e) (w : World) (hS : Kp [b7] u w) (Bb7 : Blk w b7 (vals .u64 16 (F.dg b)) 47) :
    wpAnyH Try.prog .any rf24Ops Q (Kp [b7] u) 2 (List.toArray (true :: true :: true :: true :: true :: true :: false :: false :: [])) { tmps := List.toArray (z0 :: z1 :: z2 :: z3 :: z4 :: z5 :: z6 :: (.pointer (some ⟨b7, 0, none⟩)) :: z8 :: z9 :: z10 :: z11 :: z12 :: z13 :: (.pointer (some ⟨b14, 0, none⟩)) :: z15 :: (.pointer (some ⟨b16, 0, none⟩)) :: z17 :: z18 :: z19 :: z20 :: z21 :: z22 :: z23 :: z24 :: z25 :: z26 :: z27 :: z28 :: z29 :: z30 :: z31 :: z32 :: z33 :: z34 :: z35 :: z36 :: z37 :: z38 :: z39 :: z40 :: z41 :: z42 :: z43 :: z44 :: z45 :: z46 :: z47 :: z48 :: z49 :: z50 :: z51 :: z52 :: z53 :: z54 :: z55 :: z56 :: z57 :: z58 :: z59 :: z60 :: z61 :: z62 :: z63 :: z64 :: z65 :: z66 :: z67 :: z68 :: z69 :: z70 :: z71 :: z72 :: z73 :: z74 :: z75 :: z76 :: z77 :: z78 :: z79 :: z80 :: z81 :: z82 :: z83 :: z84 :: z85 :: z86 :: (.agg (vals .u64 16 (F.dg e))) :: (.agg (vals .u64 16 (F.dg s))) :: (.agg (vals .u64 16 (F.dg 121665))) :: (.agg (vals .u64 16 (F.dg e))) :: (.agg (vals .u64 16 (F.dg (mm 121665 e)))) :: (.agg (vals .u64 16 (F.dg (am s (mm 121665 e))))) :: z93 :: zz), defers := [] } w := by
  obtain ⟨hQ, hs, he, hb7, hb14, nb14, hb16, nb16, _⟩ := id C
  refine wpAnyH_ready (rs := [6]) (by kernel_rfl) (by simp) ?_
  refine AllReadyH.cons (o := rf24Op6) rfl (fun K hK => ?_) AllReadyH.nil
  rw [if_pos (by rfl)]
  refine wp_call_val 32 #[.agg (vals .u64 16 (F.dg e)), .agg (vals .u64 16 (F.dg (am s (mm 121665 e))))] (by kernel_rfl) (.agg (vals .u64 16 (F.dg (mm e (am s (mm 121665 e)))))) (rmul_c e (am s (mm 121665 e)) _ he (am_lt _ _)) ?_
  intro w' hbw
  have hS' := hS.call hbw
  refine hK.out _ _ hS' (fun _ => ?_)
  exact wpAnyH_at (by kernel_rfl) (by kernel_rfl) (rf24_1 C w' hS' (Bb7.call hbw))
set_option maxRecDepth 100000 in
set_option maxHeartbeats 2000000 in
theorem rf24_3 (C : rf24C Q u z0 z1 z2 z3 z4 z5 z6 z8 z9 z10 z11 z12 z13 z15 z17 z18 z19 z20 z21 z22 z23 z24 z25 z26 z27 z28 z29 z30 z31 z32 z33 z34 z35 z36 z37 z38 z39 z40 z41 z42 z43 z44 z45 z46 z47 z48 z49 z50 z51 z52 z53 z54 z55 z56 z57 z58 z59 z60 z61 z62 z63 z64 z65 z66 z67 z68 z69 z70 z71 z72 z73 z74 z75 z76 z77 z78 z79 z80 z81 z82 z83 z84 z85 z86 z87 z88 z89 z90 z91 z92 z93 zz b7 b14 b16 b s e) (w : World) (hS : Kp [b7] u w) (Bb7 : Blk w b7 (vals .u64 16 (F.dg b)) 47) :
    wpAnyH Try.prog .any rf24Ops Q (Kp [b7] u) 3 (List.toArray (true :: true :: true :: true :: true :: false :: false :: false :: [])) { tmps := List.toArray (z0 :: z1 :: z2 :: z3 :: z4 :: z5 :: z6 :: (.pointer (some ⟨b7, 0, none⟩)) :: z8 :: z9 :: z10 :: z11 :: z12 :: z13 :: (.pointer (some ⟨b14, 0, none⟩)) :: z15 :: (.pointer (some ⟨b16, 0, none⟩)) :: z17 :: z18 :: z19 :: z20 :: z21 :: z22 :: z23 :: z24 :: z25 :: z26 :: z27 :: z28 :: z29 :: z30 :: z31 :: z32 :: z33 :: z34 :: z35 :: z36 :: z37 :: z38 :: z39 :: z40 :: z41 :: z42 :: z43 :: z44 :: z45 :: z46 :: z47 :: z48 :: z49 :: z50 :: z51 :: z52 :: z53 :: z54 :: z55 :: z56 :: z57 :: z58 :: z59 :: z60 :: z61 :: z62 :: z63 :: z64 :: z65 :: z66 :: z67 :: z68 :: z69 :: z70 :: z71 :: z72 :: z73 :: z74 :: z75 :: z76 :: z77 :: z78 :: z79 :: z80 :: z81 :: z82 :: z83 :: z84 :: z85 :: z86 :: (.agg (vals .u64 16 (F.dg e))) :: (.agg (vals .u64 16 (F.dg s))) :: (.agg (vals .u64 16 (F.dg 121665))) :: (.agg (vals .u64 16 (F.dg e))) :: (.agg (vals .u64 16 (F.dg (mm 121665 e)))) :: z92 :: z93 :: zz), defers := [] } w := by
  obtain ⟨hQ, hs, he, hb7, hb14, nb14, hb16, nb16, _⟩ := id C
  refine wpAnyH_ready (rs := [5]) (by kernel_rfl) (by simp) ?_
  refine AllReadyH.cons (o := rf24Op5) rfl (fun K hK => ?_) AllReadyH.nil
  rw [if_pos (by rfl)]
  refine wp_call_val 30 #[.agg (vals .u64 16 (F.dg s)), .agg (vals .u64 16 (F.dg (mm 121665 e)))] (by kernel_rfl) (.agg (vals .u64 16 (F.dg (am s (mm 121665 e))))) (radd_c s (mm 121665 e) _ hs (mm_lt _ _)) ?_
  intro w' hbw
  have hS' := hS.call hbw
  refine hK.out _ _ hS' (fun _ => ?_)
  exact wpAnyH_at (by kernel_rfl) (by kernel_rfl) (rf24_2 C w' hS' (Bb7.call hbw))
set_option maxRecDepth 100000 in
set_option maxHeartbeats 2000000 in
theorem rf24_4 (C : rf24C Q u z0 z1 z2 z3 z4 z5 z6 z8 z9 z10 z11 z12 z13 z15 z17 z18 z19 z20 z21 z22 z23 z24 z25 z26 z27 z28 z29 z30 z31 z32 z33 z34 z35 z36 z37 z38 z39 z40 z41 z42 z43 z44 z45 z46 z47 z48 z49 z50 z51 z52 z53 z54 z55 z56 z57 z58 z59 z60 z61 z62 z63 z64 z65 z66 z67 z68 z69 z70 z71 z72 z73 z74 z75 z76 z77 z78 z79 z80 z81 z82 z83 z84 z85 z86 z87 z88 z89 z90 z91 z92 z93 zz b7 b14 b16 b s e) (w : World) (hS : Kp [b7] u w) (Bb7 : Blk w b7 (vals .u64 16 (F.dg b)) 47) :
    wpAnyH Try.prog .any rf24Ops Q (Kp [b7] u) 4 (List.toArray (true :: true :: true :: true :: false :: false :: false :: false :: [])) { tmps := List.toArray (z0 :: z1 :: z2 :: z3 :: z4 :: z5 :: z6 :: (.pointer (some ⟨b7, 0, none⟩)) :: z8 :: z9 :: z10 :: z11 :: z12 :: z13 :: (.pointer (some ⟨b14, 0, none⟩)) :: z15 :: (.pointer (some ⟨b16, 0, none⟩)) :: z17 :: z18 :: z19 :: z20 :: z21 :: z22 :: z23 :: z24 :: z25 :: z26 :: z27 :: z28 :: z29 :: z30 :: z31 :: z32 :: z33 :: z34 :: z35 :: z36 :: z37 :: z38 :: z39 :: z40 :: z41 :: z42 :: z43 :: z44 :: z45 :: z46 :: z47 :: z48 :: z49 :: z50 :: z51 :: z52 :: z53 :: z54 :: z55 :: z56 :: z57 :: z58 :: z59 :: z60 :: z61 :: z62 :: z63 :: z64 :: z65 :: z66 :: z67 :: z68 :: z69 :: z70 :: z71 :: z72 :: z73 :: z74 :: z75 :: z76 :: z77 :: z78 :: z79 :: z80 :: z81 :: z82 :: z83 :: z84 :: z85 :: z86 :: (.agg (vals .u64 16 (F.dg e))) :: (.agg (vals .u64 16 (F.dg s))) :: (.agg (vals .u64 16 (F.dg 121665))) :: (.agg (vals .u64 16 (F.dg e))) :: z91 :: z92 :: z93 :: zz), defers := [] } w := by
  obtain ⟨hQ, hs, he, hb7, hb14, nb14, hb16, nb16, _⟩ := id C
  refine wpAnyH_ready (rs := [4]) (by kernel_rfl) (by simp) ?_
  refine AllReadyH.cons (o := rf24Op4) rfl (fun K hK => ?_) AllReadyH.nil
  rw [if_pos (by rfl)]
  refine wp_call_val 32 #[.agg (vals .u64 16 (F.dg 121665)), .agg (vals .u64 16 (F.dg e))] (by kernel_rfl) (.agg (vals .u64 16 (F.dg (mm 121665 e)))) (rmul_c 121665 e _ kk_lt he) ?_
  intro w' hbw
  have hS' := hS.call hbw
  refine hK.out _ _ hS' (fun _ => ?_)
  exact wpAnyH_at (by kernel_rfl) (by kernel_rfl) (rf24_3 C w' hS' (Bb7.call hbw))
set_option maxRecDepth 100000 in
set_option maxHeartbeats 2000000 in
theorem rf24_5 (C : rf24C Q u z0 z1 z2 z3 z4 z5 z6 z8 z9 z10 z11 z12 z13 z15 z17 z18 z19 z20 z21 z22 z23 z24 z25 z26 z27 z28 z29 z30 z31 z32 z33 z34 z35 z36 z37 z38 z39 z40 z41 z42 z43 z44 z45 z46 z47 z48 z49 z50 z51 z52 z53 z54 z55 z56 z57 z58 z59 z60 z61 z62 z63 z64 z65 z66 z67 z68 z69 z70 z71 z72 z73 z74 z75 z76 z77 z78 z79 z80 z81 z82 z83 z84 z85 z86 z87 z88 z89 z90 z91 z92 z93 zz b7 b14 b16 b s e) (w : World) (hS : Kp [b7] u w) (Bb7 : Blk w b7 (vals .u64 16 (F.dg b)) 47) :
    wpAnyH Try.prog .any rf24Ops Q (Kp [b7] u) 5 (List.toArray (true :: true :: false :: true :: false :: false :: false :: false :: [])) { tmps := List.toArray (z0 :: z1 :: z2 :: z3 :: z4 :: z5 :: z6 :: (.pointer (some ⟨b7, 0, none⟩)) :: z8 :: z9 :: z10 :: z11 :: z12 :: z13 :: (.pointer (some ⟨b14, 0, none⟩)) :: z15 :: (.pointer (some ⟨b16, 0, none⟩)) :: z17 :: z18 :: z19 :: z20 :: z21 :: z22 :: z23 :: z24 :: z25 :: z26 :: z27 :: z28 :: z29 :: z30 :: z31 :: z32 :: z33 :: z34 :: z35 :: z36 :: z37 :: z38 :: z39 :: z40 :: z41 :: z42 :: z43 :: z44 :: z45 :: z46 :: z47 :: z48 :: z49 :: z50 :: z51 :: z52 :: z53 :: z54 :: z55 :: z56 :: z57 :: z58 :: z59 :: z60 :: z61 :: z62 :: z63 :: z64 :: z65 :: z66 :: z67 :: z68 :: z69 :: z70 :: z71 :: z72 :: z73 :: z74 :: z75 :: z76 :: z77 :: z78 :: z79 :: z80 :: z81 :: z82 :: z83 :: z84 :: z85 :: z86 :: (.agg (vals .u64 16 (F.dg e))) :: (.agg (vals .u64 16 (F.dg s))) :: z89 :: (.agg (vals .u64 16 (F.dg e))) :: z91 :: z92 :: z93 :: zz), defers := [] } w := by
  obtain ⟨hQ, hs, he, hb7, hb14, nb14, hb16, nb16, _⟩ := id C
  refine wpAnyH_ready (rs := [2]) (by kernel_rfl) (by simp) ?_
  refine AllReadyH.cons (o := rf24Op2) rfl (fun K hK => ?_) AllReadyH.nil
  rw [if_pos (by rfl)]
  refine wp_call_val 29 #[.int IntKind.u64 121665] (by kernel_rfl) (.agg (vals .u64 16 (F.dg 121665))) (rofk_c _) ?_
  intro w' hbw
  have hS' := hS.call hbw
  refine hK.out _ _ hS' (fun _ => ?_)
  exact wpAnyH_at (by kernel_rfl) (by kernel_rfl) (rf24_4 C w' hS' (Bb7.call hbw))
end
set_option maxRecDepth 100000 in
set_option maxHeartbeats 2000000 in
theorem rf24_region (Q : Exit → Act → World → Prop) (hQ : ∀ c a w n v, Q (.panic c) (a.put (some n) v) w → Q (.panic c) a w) (u : World) (z0 z1 z2 z3 z4 z5 z6 z8 z9 z10 z11 z12 z13 z15 z17 z18 z19 z20 z21 z22 z23 z24 z25 z26 z27 z28 z29 z30 z31 z32 z33 z34 z35 z36 z37 z38 z39 z40 z41 z42 z43 z44 z45 z46 z47 z48 z49 z50 z51 z52 z53 z54 z55 z56 z57 z58 z59 z60 z61 z62 z63 z64 z65 z66 z67 z68 z69 z70 z71 z72 z73 z74 z75 z76 z77 z78 z79 z80 z81 z82 z83 z84 z85 z86 z87 z88 z89 z90 z91 z92 z93 : Value) (zz : List Value) (b7 b14 b16 : Nat) (b s e : Nat) (hs : s < pP) (he : e < pP) (hb7 : Blk u b7 (vals .u64 16 (F.dg b)) 47) (hb14 : Blk u b14 (vals .u64 16 (F.dg s)) 47) (nb14 : b14 ∉ ([b7] : List Nat)) (hb16 : Blk u b16 (vals .u64 16 (F.dg e)) 47) (nb16 : b16 ∉ ([b7] : List Nat)) (H : ∀ (w : World), Kp [b7] u w → Blk w b7 (vals .u64 16 (F.dg (mm e (am s (mm 121665 e))))) 47 → Q .normal { tmps := List.toArray (z0 :: z1 :: z2 :: z3 :: z4 :: z5 :: z6 :: (.pointer (some ⟨b7, 0, none⟩)) :: z8 :: z9 :: z10 :: z11 :: z12 :: z13 :: (.pointer (some ⟨b14, 0, none⟩)) :: z15 :: (.pointer (some ⟨b16, 0, none⟩)) :: z17 :: z18 :: z19 :: z20 :: z21 :: z22 :: z23 :: z24 :: z25 :: z26 :: z27 :: z28 :: z29 :: z30 :: z31 :: z32 :: z33 :: z34 :: z35 :: z36 :: z37 :: z38 :: z39 :: z40 :: z41 :: z42 :: z43 :: z44 :: z45 :: z46 :: z47 :: z48 :: z49 :: z50 :: z51 :: z52 :: z53 :: z54 :: z55 :: z56 :: z57 :: z58 :: z59 :: z60 :: z61 :: z62 :: z63 :: z64 :: z65 :: z66 :: z67 :: z68 :: z69 :: z70 :: z71 :: z72 :: z73 :: z74 :: z75 :: z76 :: z77 :: z78 :: z79 :: z80 :: z81 :: z82 :: z83 :: z84 :: z85 :: z86 :: (.agg (vals .u64 16 (F.dg e))) :: (.agg (vals .u64 16 (F.dg s))) :: (.agg (vals .u64 16 (F.dg 121665))) :: (.agg (vals .u64 16 (F.dg e))) :: (.agg (vals .u64 16 (F.dg (mm 121665 e)))) :: (.agg (vals .u64 16 (F.dg (am s (mm 121665 e))))) :: (.agg (vals .u64 16 (F.dg (mm e (am s (mm 121665 e)))))) :: zz), defers := [] } w) :
    (Code.region 24 rf24Ops true).wp Try.prog Q { tmps := List.toArray (z0 :: z1 :: z2 :: z3 :: z4 :: z5 :: z6 :: (.pointer (some ⟨b7, 0, none⟩)) :: z8 :: z9 :: z10 :: z11 :: z12 :: z13 :: (.pointer (some ⟨b14, 0, none⟩)) :: z15 :: (.pointer (some ⟨b16, 0, none⟩)) :: z17 :: z18 :: z19 :: z20 :: z21 :: z22 :: z23 :: z24 :: z25 :: z26 :: z27 :: z28 :: z29 :: z30 :: z31 :: z32 :: z33 :: z34 :: z35 :: z36 :: z37 :: z38 :: z39 :: z40 :: z41 :: z42 :: z43 :: z44 :: z45 :: z46 :: z47 :: z48 :: z49 :: z50 :: z51 :: z52 :: z53 :: z54 :: z55 :: z56 :: z57 :: z58 :: z59 :: z60 :: z61 :: z62 :: z63 :: z64 :: z65 :: z66 :: z67 :: z68 :: z69 :: z70 :: z71 :: z72 :: z73 :: z74 :: z75 :: z76 :: z77 :: z78 :: z79 :: z80 :: z81 :: z82 :: z83 :: z84 :: z85 :: z86 :: z87 :: z88 :: z89 :: z90 :: z91 :: z92 :: z93 :: zz), defers := [] } u := by
  have C : rf24C Q u z0 z1 z2 z3 z4 z5 z6 z8 z9 z10 z11 z12 z13 z15 z17 z18 z19 z20 z21 z22 z23 z24 z25 z26 z27 z28 z29 z30 z31 z32 z33 z34 z35 z36 z37 z38 z39 z40 z41 z42 z43 z44 z45 z46 z47 z48 z49 z50 z51 z52 z53 z54 z55 z56 z57 z58 z59 z60 z61 z62 z63 z64 z65 z66 z67 z68 z69 z70 z71 z72 z73 z74 z75 z76 z77 z78 z79 z80 z81 z82 z83 z84 z85 z86 z87 z88 z89 z90 z91 z92 z93 zz b7 b14 b16 b s e := ⟨hQ, hs, he, hb7, hb14, nb14, hb16, nb16, H⟩
  refine wp_region_held_drew (S := (Kp [b7] u)) (by kernel_rfl) (Kp.drew _ u) (fun hS' => ?_)
  refine wpAnyH_take (i := 0) (oi := rf24Op0) (v := .agg (vals .u64 16 (F.dg e))) rfl (by kernel_rfl) (by kernel_rfl) (by kernel_rfl) (fun _ _ _ => hQ _ _ _ _ _) (yields_S (fun _ h => h.keep _ _ _ nb16 hb16) (by kernel_rfl) 47 _ rfl (by kernel_rfl) _ Try.underlying47 rfl (size_rn _)) hS' ?_
  refine wpAnyH_take (i := 1) (oi := rf24Op1) (v := .agg (vals .u64 16 (F.dg s))) rfl (by kernel_rfl) (by kernel_rfl) (by kernel_rfl) (fun _ _ _ => hQ _ _ _ _ _) (yields_S (fun _ h => h.keep _ _ _ nb14 hb14) (by kernel_rfl) 47 _ rfl (by kernel_rfl) _ Try.underlying47 rfl (size_rn _)) hS' ?_
  refine wpAnyH_take (i := 3) (oi := rf24Op3) (v := .agg (vals .u64 16 (F.dg e))) rfl (by kernel_rfl) (by kernel_rfl) (by kernel_rfl) (fun _ _ _ => hQ _ _ _ _ _) (yields_S (fun _ h => h.keep _ _ _ nb16 hb16) (by kernel_rfl) 47 _ rfl (by kernel_rfl) _ Try.underlying47 rfl (size_rn _)) hS' ?_
  exact wpAnyH_at (by kernel_rfl) (by kernel_rfl) (rf24_5 C u.drew hS' hb7.drew)
def rf25Op0 : Oper := { dst := some 94, op := Op.load 47 (Operand.tmp 17), type := 47, pos := "ref.go:31", after := #[], guard := none }
def rf25Op1 : Oper := { dst := some 95, op := Op.load 47 (Operand.tmp 18), type := 47, pos := "ref.go:31", after := #[], guard := none }
def rf25Op2 : Oper := { dst := some 96, op := Op.call { callee := Callee.value (Operand.func 30), args := #[Operand.tmp 94, Operand.tmp 95], argTypes := #[47, 47] }, type := 47, pos := "ref.go:31", after := #[{ on := 0, ground := Ground.data }, { on := 1, ground := Ground.data }], guard := none }
def rf25Op3 : Oper := { dst := some 19, op := Op.alloc 47, type := 0, pos := "ref.go:31", after := #[], guard := none }
def rf25Op4 : Oper := { dst := none, op := Op.store 47 (Operand.tmp 19) (Operand.tmp 96), type := 0, pos := "ref.go:31", after := #[{ on := 3, ground := Ground.data }, { on := 2, ground := Ground.data }, { on := 2, ground := Ground.chain }, { on := 0, ground := Ground.phase }, { on := 1, ground := Ground.phase }, { on := 2, ground := Ground.phase }, { on := 3, ground := Ground.phase }], guard := none }
def rf25Ops : Array Oper := #[rf25Op0, rf25Op1, rf25Op2, rf25Op3, rf25Op4]
set_option maxRecDepth 100000 in
set_option maxHeartbeats 2000000 in
theorem rf25_region (Q : Exit → Act → World → Prop) (hQ : ∀ c a w n v, Q (.panic c) (a.put (some n) v) w → Q (.panic c) a w) (u : World) (z0 z1 z2 z3 z4 z5 z6 z7 z8 z9 z10 z11 z12 z13 z14 z15 z16 z19 z20 z21 z22 z23 z24 z25 z26 z27 z28 z29 z30 z31 z32 z33 z34 z35 z36 z37 z38 z39 z40 z41 z42 z43 z44 z45 z46 z47 z48 z49 z50 z51 z52 z53 z54 z55 z56 z57 z58 z59 z60 z61 z62 z63 z64 z65 z66 z67 z68 z69 z70 z71 z72 z73 z74 z75 z76 z77 z78 z79 z80 z81 z82 z83 z84 z85 z86 z87 z88 z89 z90 z91 z92 z93 z94 z95 z96 : Value) (zz : List Value) (b17 b18 : Nat) (x y : Nat) (hx : x < pP) (hy : y < pP) (hb17 : Blk u b17 (vals .u64 16 (F.dg x)) 47) (nb17 : b17 ∉ ([] : List Nat)) (hb18 : Blk u b18 (vals .u64 16 (F.dg y)) 47) (nb18 : b18 ∉ ([] : List Nat)) (H : ∀ (n19 : Nat) (w : World), Kp [] u w → u.heap.size ≤ n19 → Blk w n19 (vals .u64 16 (F.dg (am x y))) 47 → Q .normal { tmps := List.toArray (z0 :: z1 :: z2 :: z3 :: z4 :: z5 :: z6 :: z7 :: z8 :: z9 :: z10 :: z11 :: z12 :: z13 :: z14 :: z15 :: z16 :: (.pointer (some ⟨b17, 0, none⟩)) :: (.pointer (some ⟨b18, 0, none⟩)) :: (.pointer (some ⟨n19, 0, none⟩)) :: z20 :: z21 :: z22 :: z23 :: z24 :: z25 :: z26 :: z27 :: z28 :: z29 :: z30 :: z31 :: z32 :: z33 :: z34 :: z35 :: z36 :: z37 :: z38 :: z39 :: z40 :: z41 :: z42 :: z43 :: z44 :: z45 :: z46 :: z47 :: z48 :: z49 :: z50 :: z51 :: z52 :: z53 :: z54 :: z55 :: z56 :: z57 :: z58 :: z59 :: z60 :: z61 :: z62 :: z63 :: z64 :: z65 :: z66 :: z67 :: z68 :: z69 :: z70 :: z71 :: z72 :: z73 :: z74 :: z75 :: z76 :: z77 :: z78 :: z79 :: z80 :: z81 :: z82 :: z83 :: z84 :: z85 :: z86 :: z87 :: z88 :: z89 :: z90 :: z91 :: z92 :: z93 :: (.agg (vals .u64 16 (F.dg x))) :: (.agg (vals .u64 16 (F.dg y))) :: (.agg (vals .u64 16 (F.dg (am x y)))) :: zz), defers := [] } w) :
    (Code.region 25 rf25Ops false).wp Try.prog Q { tmps := List.toArray (z0 :: z1 :: z2 :: z3 :: z4 :: z5 :: z6 :: z7 :: z8 :: z9 :: z10 :: z11 :: z12 :: z13 :: z14 :: z15 :: z16 :: (.pointer (some ⟨b17, 0, none⟩)) :: (.pointer (some ⟨b18, 0, none⟩)) :: z19 :: z20 :: z21 :: z22 :: z23 :: z24 :: z25 :: z26 :: z27 :: z28 :: z29 :: z30 :: z31 :: z32 :: z33 :: z34 :: z35 :: z36 :: z37 :: z38 :: z39 :: z40 :: z41 :: z42 :: z43 :: z44 :: z45 :: z46 :: z47 :: z48 :: z49 :: z50 :: z51 :: z52 :: z53 :: z54 :: z55 :: z56 :: z57 :: z58 :: z59 :: z60 :: z61 :: z62 :: z63 :: z64 :: z65 :: z66 :: z67 :: z68 :: z69 :: z70 :: z71 :: z72 :: z73 :: z74 :: z75 :: z76 :: z77 :: z78 :: z79 :: z80 :: z81 :: z82 :: z83 :: z84 :: z85 :: z86 :: z87 :: z88 :: z89 :: z90 :: z91 :: z92 :: z93 :: z94 :: z95 :: z96 :: zz), defers := [] } u := by
  have _ := hQ
  have _ := u
  have _ := z0
  have _ := z1
  have _ := z2
  have _ := z3
  have _ := z4
  have _ := z5
  have _ := z6
  have _ := z7
  have _ := z8
  have _ := z9
  have _ := z10
  have _ := z11
  have _ := z12
  have _ := z13
  have _ := z14
  have _ := z15
  have _ := z16
  have _ := z19
  have _ := z20
  have _ := z21
  have _ := z22
  have _ := z23
  have _ := z24
  have _ := z25
  have _ := z26
  have _ := z27
  have _ := z28
  have _ := z29
  have _ := z30
  have _ := z31
  have _ := z32
  have _ := z33
  have _ := z34
  have _ := z35
  have _ := z36
  have _ := z37
  have _ := z38
  have _ := z39
  have _ := z40
  have _ := z41
  have _ := z42
  have _ := z43
  have _ := z44
  have _ := z45
  have _ := z46
  have _ := z47
  have _ := z48
  have _ := z49
  have _ := z50
  have _ := z51
  have _ := z52
  have _ := z53
  have _ := z54
  have _ := z55
  have _ := z56
  have _ := z57
  have _ := z58
  have _ := z59
  have _ := z60
  have _ := z61
  have _ := z62
  have _ := z63
  have _ := z64
  have _ := z65
  have _ := z66
  have _ := z67
  have _ := z68
  have _ := z69
  have _ := z70
  have _ := z71
  have _ := z72
  have _ := z73
  have _ := z74
  have _ := z75
  have _ := z76
  have _ := z77
  have _ := z78
  have _ := z79
  have _ := z80
  have _ := z81
  have _ := z82
  have _ := z83
  have _ := z84
  have _ := z85
  have _ := z86
  have _ := z87
  have _ := z88
  have _ := z89
  have _ := z90
  have _ := z91
  have _ := z92
  have _ := z93
  have _ := z94
  have _ := z95
  have _ := z96
  have _ := zz
  have _ := b17
  have _ := b18
  have _ := x
  have _ := y
  have _ := hx
  have _ := hy
  have _ := hb17
  have _ := nb17
  have _ := hb18
  have _ := nb18
  refine wp_region_list (show wpList _ rf25Ops _ [rf25Op0, rf25Op1, rf25Op2, rf25Op3, rf25Op4] _ _ from ?_)
  have hS : Kp [] u u := Kp.refl _ u
  refine wpList_plain rfl (fun K hK => ?_)
  refine wp_load_row 47 _ rfl b17 (by kernel_rfl) 47 _ (0, 0) _ (hS.keep _ _ _ nb17 hb17) Try.underlying47 rfl (size_rn _) ?_
  have hS' := hS
  refine hK _ _ ?_
  clear hK K
  clear hS
  have hS := hS'
  clear hS'
  refine wpList_fr (a' := { tmps := List.toArray (z0 :: z1 :: z2 :: z3 :: z4 :: z5 :: z6 :: z7 :: z8 :: z9 :: z10 :: z11 :: z12 :: z13 :: z14 :: z15 :: z16 :: (.pointer (some ⟨b17, 0, none⟩)) :: (.pointer (some ⟨b18, 0, none⟩)) :: z19 :: z20 :: z21 :: z22 :: z23 :: z24 :: z25 :: z26 :: z27 :: z28 :: z29 :: z30 :: z31 :: z32 :: z33 :: z34 :: z35 :: z36 :: z37 :: z38 :: z39 :: z40 :: z41 :: z42 :: z43 :: z44 :: z45 :: z46 :: z47 :: z48 :: z49 :: z50 :: z51 :: z52 :: z53 :: z54 :: z55 :: z56 :: z57 :: z58 :: z59 :: z60 :: z61 :: z62 :: z63 :: z64 :: z65 :: z66 :: z67 :: z68 :: z69 :: z70 :: z71 :: z72 :: z73 :: z74 :: z75 :: z76 :: z77 :: z78 :: z79 :: z80 :: z81 :: z82 :: z83 :: z84 :: z85 :: z86 :: z87 :: z88 :: z89 :: z90 :: z91 :: z92 :: z93 :: (.agg (vals .u64 16 (F.dg x))) :: z95 :: z96 :: zz), defers := [] }) (by kernel_rfl) ?_
  refine wpList_plain rfl (fun K hK => ?_)
  refine wp_load_row 47 _ rfl b18 (by kernel_rfl) 47 _ (0, 0) _ (hS.keep _ _ _ nb18 hb18) Try.underlying47 rfl (size_rn _) ?_
  have hS' := hS
  refine hK _ _ ?_
  clear hK K
  clear hS
  have hS := hS'
  clear hS'
  refine wpList_fr (a' := { tmps := List.toArray (z0 :: z1 :: z2 :: z3 :: z4 :: z5 :: z6 :: z7 :: z8 :: z9 :: z10 :: z11 :: z12 :: z13 :: z14 :: z15 :: z16 :: (.pointer (some ⟨b17, 0, none⟩)) :: (.pointer (some ⟨b18, 0, none⟩)) :: z19 :: z20 :: z21 :: z22 :: z23 :: z24 :: z25 :: z26 :: z27 :: z28 :: z29 :: z30 :: z31 :: z32 :: z33 :: z34 :: z35 :: z36 :: z37 :: z38 :: z39 :: z40 :: z41 :: z42 :: z43 :: z44 :: z45 :: z46 :: z47 :: z48 :: z49 :: z50 :: z51 :: z52 :: z53 :: z54 :: z55 :: z56 :: z57 :: z58 :: z59 :: z60 :: z61 :: z62 :: z63 :: z64 :: z65 :: z66 :: z67 :: z68 :: z69 :: z70 :: z71 :: z72 :: z73 :: z74 :: z75 :: z76 :: z77 :: z78 :: z79 :: z80 :: z81 :: z82 :: z83 :: z84 :: z85 :: z86 :: z87 :: z88 :: z89 :: z90 :: z91 :: z92 :: z93 :: (.agg (vals .u64 16 (F.dg x))) :: (.agg (vals .u64 16 (F.dg y))) :: z96 :: zz), defers := [] }) (by kernel_rfl) ?_
  refine wpList_plain rfl (fun K hK => ?_)
  refine wp_call_val 30 #[.agg (vals .u64 16 (F.dg x)), .agg (vals .u64 16 (F.dg y))] (by kernel_rfl) (.agg (vals .u64 16 (F.dg (am x y)))) (radd_c x y _ hx hy) ?_
  intro w2 hbw
  have hS' := hS.call hbw
  refine hK _ _ ?_
  clear hK K
  clear hS
  have hS := hS'
  clear hS'
  refine wpList_fr (a' := { tmps := List.toArray (z0 :: z1 :: z2 :: z3 :: z4 :: z5 :: z6 :: z7 :: z8 :: z9 :: z10 :: z11 :: z12 :: z13 :: z14 :: z15 :: z16 :: (.pointer (some ⟨b17, 0, none⟩)) :: (.pointer (some ⟨b18, 0, none⟩)) :: z19 :: z20 :: z21 :: z22 :: z23 :: z24 :: z25 :: z26 :: z27 :: z28 :: z29 :: z30 :: z31 :: z32 :: z33 :: z34 :: z35 :: z36 :: z37 :: z38 :: z39 :: z40 :: z41 :: z42 :: z43 :: z44 :: z45 :: z46 :: z47 :: z48 :: z49 :: z50 :: z51 :: z52 :: z53 :: z54 :: z55 :: z56 :: z57 :: z58 :: z59 :: z60 :: z61 :: z62 :: z63 :: z64 :: z65 :: z66 :: z67 :: z68 :: z69 :: z70 :: z71 :: z72 :: z73 :: z74 :: z75 :: z76 :: z77 :: z78 :: z79 :: z80 :: z81 :: z82 :: z83 :: z84 :: z85 :: z86 :: z87 :: z88 :: z89 :: z90 :: z91 :: z92 :: z93 :: (.agg (vals .u64 16 (F.dg x))) :: (.agg (vals .u64 16 (F.dg y))) :: (.agg (vals .u64 16 (F.dg (am x y)))) :: zz), defers := [] }) (by kernel_rfl) ?_
  refine wpList_plain rfl (fun K hK => ?_)
  refine wp_new _ 47 (alloc_rn _ _ _ rfl) ?_
  intro n19 w3 eb Bn19 hbw
  have hS' := hS.call hbw
  refine hK _ _ ?_
  clear hK K
  have qgn19 : u.heap.size ≤ n19 := (by rw [eb]; exact hS.size)
  have qBn19 : Blk w3 n19 (vals .u64 16 (fun _ => 0)) 47 := Bn19
  clear hS
  have gn19 := qgn19
  have Bn19 := qBn19
  have hS := hS'
  clear hS' qgn19 qBn19
  refine wpList_fr (a' := { tmps := List.toArray (z0 :: z1 :: z2 :: z3 :: z4 :: z5 :: z6 :: z7 :: z8 :: z9 :: z10 :: z11 :: z12 :: z13 :: z14 :: z15 :: z16 :: (.pointer (some ⟨b17, 0, none⟩)) :: (.pointer (some ⟨b18, 0, none⟩)) :: (.pointer (some ⟨n19, 0, none⟩)) :: z20 :: z21 :: z22 :: z23 :: z24 :: z25 :: z26 :: z27 :: z28 :: z29 :: z30 :: z31 :: z32 :: z33 :: z34 :: z35 :: z36 :: z37 :: z38 :: z39 :: z40 :: z41 :: z42 :: z43 :: z44 :: z45 :: z46 :: z47 :: z48 :: z49 :: z50 :: z51 :: z52 :: z53 :: z54 :: z55 :: z56 :: z57 :: z58 :: z59 :: z60 :: z61 :: z62 :: z63 :: z64 :: z65 :: z66 :: z67 :: z68 :: z69 :: z70 :: z71 :: z72 :: z73 :: z74 :: z75 :: z76 :: z77 :: z78 :: z79 :: z80 :: z81 :: z82 :: z83 :: z84 :: z85 :: z86 :: z87 :: z88 :: z89 :: z90 :: z91 :: z92 :: z93 :: (.agg (vals .u64 16 (F.dg x))) :: (.agg (vals .u64 16 (F.dg y))) :: (.agg (vals .u64 16 (F.dg (am x y)))) :: zz), defers := [] }) (by kernel_rfl) ?_
  refine wpList_plain rfl (fun K hK => ?_)
  refine wp_store_row 47 _ _ rfl n19 (vals .u64 16 (F.dg (am x y))) (by kernel_rfl) (by kernel_rfl) 47 _ Bn19 (size_rn _) (by simp only [vals_size]) (vals_one _ _ _) ?_
  have hS' := hS.new gn19 (vals .u64 16 (F.dg (am x y)))
  refine hK _ _ ?_
  clear hK K
  have qgn19 : u.heap.size ≤ n19 := gn19
  have qBn19 : Blk (w3.setRow n19 (vals .u64 16 (F.dg (am x y)))) n19 (vals .u64 16 (F.dg (am x y))) 47 := (Bn19.row (vals .u64 16 (F.dg (am x y))))
  clear hS gn19 Bn19
  have gn19 := qgn19
  have Bn19 := qBn19
  have hS := hS'
  clear hS' qgn19 qBn19
  refine wpList_fr (a' := { tmps := List.toArray (z0 :: z1 :: z2 :: z3 :: z4 :: z5 :: z6 :: z7 :: z8 :: z9 :: z10 :: z11 :: z12 :: z13 :: z14 :: z15 :: z16 :: (.pointer (some ⟨b17, 0, none⟩)) :: (.pointer (some ⟨b18, 0, none⟩)) :: (.pointer (some ⟨n19, 0, none⟩)) :: z20 :: z21 :: z22 :: z23 :: z24 :: z25 :: z26 :: z27 :: z28 :: z29 :: z30 :: z31 :: z32 :: z33 :: z34 :: z35 :: z36 :: z37 :: z38 :: z39 :: z40 :: z41 :: z42 :: z43 :: z44 :: z45 :: z46 :: z47 :: z48 :: z49 :: z50 :: z51 :: z52 :: z53 :: z54 :: z55 :: z56 :: z57 :: z58 :: z59 :: z60 :: z61 :: z62 :: z63 :: z64 :: z65 :: z66 :: z67 :: z68 :: z69 :: z70 :: z71 :: z72 :: z73 :: z74 :: z75 :: z76 :: z77 :: z78 :: z79 :: z80 :: z81 :: z82 :: z83 :: z84 :: z85 :: z86 :: z87 :: z88 :: z89 :: z90 :: z91 :: z92 :: z93 :: (.agg (vals .u64 16 (F.dg x))) :: (.agg (vals .u64 16 (F.dg y))) :: (.agg (vals .u64 16 (F.dg (am x y)))) :: zz), defers := [] }) (by kernel_rfl) ?_
  generalize (w3.setRow n19 (vals .u64 16 (F.dg (am x y)))) = w4 at *
  refine wpList_nil ?_
  exact H n19 w4 hS gn19 Bn19
def rf26Op0 : Oper := { dst := some 97, op := Op.load 47 (Operand.tmp 17), type := 47, pos := "ref.go:32", after := #[], guard := none }
def rf26Op1 : Oper := { dst := some 98, op := Op.load 47 (Operand.tmp 18), type := 47, pos := "ref.go:32", after := #[], guard := none }
def rf26Op2 : Oper := { dst := some 99, op := Op.call { callee := Callee.value (Operand.func 31), args := #[Operand.tmp 97, Operand.tmp 98], argTypes := #[47, 47] }, type := 47, pos := "ref.go:32", after := #[{ on := 0, ground := Ground.data }, { on := 1, ground := Ground.data }], guard := none }
def rf26Op3 : Oper := { dst := some 20, op := Op.alloc 47, type := 0, pos := "ref.go:32", after := #[], guard := none }
def rf26Op4 : Oper := { dst := none, op := Op.store 47 (Operand.tmp 20) (Operand.tmp 99), type := 0, pos := "ref.go:32", after := #[{ on := 3, ground := Ground.data }, { on := 2, ground := Ground.data }, { on := 2, ground := Ground.chain }, { on := 0, ground := Ground.phase }, { on := 1, ground := Ground.phase }, { on := 2, ground := Ground.phase }, { on := 3, ground := Ground.phase }], guard := none }
def rf26Ops : Array Oper := #[rf26Op0, rf26Op1, rf26Op2, rf26Op3, rf26Op4]
set_option maxRecDepth 100000 in
set_option maxHeartbeats 2000000 in
theorem rf26_region (Q : Exit → Act → World → Prop) (hQ : ∀ c a w n v, Q (.panic c) (a.put (some n) v) w → Q (.panic c) a w) (u : World) (z0 z1 z2 z3 z4 z5 z6 z7 z8 z9 z10 z11 z12 z13 z14 z15 z16 z19 z20 z21 z22 z23 z24 z25 z26 z27 z28 z29 z30 z31 z32 z33 z34 z35 z36 z37 z38 z39 z40 z41 z42 z43 z44 z45 z46 z47 z48 z49 z50 z51 z52 z53 z54 z55 z56 z57 z58 z59 z60 z61 z62 z63 z64 z65 z66 z67 z68 z69 z70 z71 z72 z73 z74 z75 z76 z77 z78 z79 z80 z81 z82 z83 z84 z85 z86 z87 z88 z89 z90 z91 z92 z93 z94 z95 z96 z97 z98 z99 : Value) (zz : List Value) (b17 b18 : Nat) (x y : Nat) (hx : x < pP) (hy : y < pP) (hb17 : Blk u b17 (vals .u64 16 (F.dg x)) 47) (nb17 : b17 ∉ ([] : List Nat)) (hb18 : Blk u b18 (vals .u64 16 (F.dg y)) 47) (nb18 : b18 ∉ ([] : List Nat)) (H : ∀ (n20 : Nat) (w : World), Kp [] u w → u.heap.size ≤ n20 → Blk w n20 (vals .u64 16 (F.dg (sm x y))) 47 → Q .normal { tmps := List.toArray (z0 :: z1 :: z2 :: z3 :: z4 :: z5 :: z6 :: z7 :: z8 :: z9 :: z10 :: z11 :: z12 :: z13 :: z14 :: z15 :: z16 :: (.pointer (some ⟨b17, 0, none⟩)) :: (.pointer (some ⟨b18, 0, none⟩)) :: z19 :: (.pointer (some ⟨n20, 0, none⟩)) :: z21 :: z22 :: z23 :: z24 :: z25 :: z26 :: z27 :: z28 :: z29 :: z30 :: z31 :: z32 :: z33 :: z34 :: z35 :: z36 :: z37 :: z38 :: z39 :: z40 :: z41 :: z42 :: z43 :: z44 :: z45 :: z46 :: z47 :: z48 :: z49 :: z50 :: z51 :: z52 :: z53 :: z54 :: z55 :: z56 :: z57 :: z58 :: z59 :: z60 :: z61 :: z62 :: z63 :: z64 :: z65 :: z66 :: z67 :: z68 :: z69 :: z70 :: z71 :: z72 :: z73 :: z74 :: z75 :: z76 :: z77 :: z78 :: z79 :: z80 :: z81 :: z82 :: z83 :: z84 :: z85 :: z86 :: z87 :: z88 :: z89 :: z90 :: z91 :: z92 :: z93 :: z94 :: z95 :: z96 :: (.agg (vals .u64 16 (F.dg x))) :: (.agg (vals .u64 16 (F.dg y))) :: (.agg (vals .u64 16 (F.dg (sm x y)))) :: zz), defers := [] } w) :
    (Code.region 26 rf26Ops false).wp Try.prog Q { tmps := List.toArray (z0 :: z1 :: z2 :: z3 :: z4 :: z5 :: z6 :: z7 :: z8 :: z9 :: z10 :: z11 :: z12 :: z13 :: z14 :: z15 :: z16 :: (.pointer (some ⟨b17, 0, none⟩)) :: (.pointer (some ⟨b18, 0, none⟩)) :: z19 :: z20 :: z21 :: z22 :: z23 :: z24 :: z25 :: z26 :: z27 :: z28 :: z29 :: z30 :: z31 :: z32 :: z33 :: z34 :: z35 :: z36 :: z37 :: z38 :: z39 :: z40 :: z41 :: z42 :: z43 :: z44 :: z45 :: z46 :: z47 :: z48 :: z49 :: z50 :: z51 :: z52 :: z53 :: z54 :: z55 :: z56 :: z57 :: z58 :: z59 :: z60 :: z61 :: z62 :: z63 :: z64 :: z65 :: z66 :: z67 :: z68 :: z69 :: z70 :: z71 :: z72 :: z73 :: z74 :: z75 :: z76 :: z77 :: z78 :: z79 :: z80 :: z81 :: z82 :: z83 :: z84 :: z85 :: z86 :: z87 :: z88 :: z89 :: z90 :: z91 :: z92 :: z93 :: z94 :: z95 :: z96 :: z97 :: z98 :: z99 :: zz), defers := [] } u := by
  have _ := hQ
  have _ := u
  have _ := z0
  have _ := z1
  have _ := z2
  have _ := z3
  have _ := z4
  have _ := z5
  have _ := z6
  have _ := z7
  have _ := z8
  have _ := z9
  have _ := z10
  have _ := z11
  have _ := z12
  have _ := z13
  have _ := z14
  have _ := z15
  have _ := z16
  have _ := z19
  have _ := z20
  have _ := z21
  have _ := z22
  have _ := z23
  have _ := z24
  have _ := z25
  have _ := z26
  have _ := z27
  have _ := z28
  have _ := z29
  have _ := z30
  have _ := z31
  have _ := z32
  have _ := z33
  have _ := z34
  have _ := z35
  have _ := z36
  have _ := z37
  have _ := z38
  have _ := z39
  have _ := z40
  have _ := z41
  have _ := z42
  have _ := z43
  have _ := z44
  have _ := z45
  have _ := z46
  have _ := z47
  have _ := z48
  have _ := z49
  have _ := z50
  have _ := z51
  have _ := z52
  have _ := z53
  have _ := z54
  have _ := z55
  have _ := z56
  have _ := z57
  have _ := z58
  have _ := z59
  have _ := z60
  have _ := z61
  have _ := z62
  have _ := z63
  have _ := z64
  have _ := z65
  have _ := z66
  have _ := z67
  have _ := z68
  have _ := z69
  have _ := z70
  have _ := z71
  have _ := z72
  have _ := z73
  have _ := z74
  have _ := z75
  have _ := z76
  have _ := z77
  have _ := z78
  have _ := z79
  have _ := z80
  have _ := z81
  have _ := z82
  have _ := z83
  have _ := z84
  have _ := z85
  have _ := z86
  have _ := z87
  have _ := z88
  have _ := z89
  have _ := z90
  have _ := z91
  have _ := z92
  have _ := z93
  have _ := z94
  have _ := z95
  have _ := z96
  have _ := z97
  have _ := z98
  have _ := z99
  have _ := zz
  have _ := b17
  have _ := b18
  have _ := x
  have _ := y
  have _ := hx
  have _ := hy
  have _ := hb17
  have _ := nb17
  have _ := hb18
  have _ := nb18
  refine wp_region_list (show wpList _ rf26Ops _ [rf26Op0, rf26Op1, rf26Op2, rf26Op3, rf26Op4] _ _ from ?_)
  have hS : Kp [] u u := Kp.refl _ u
  refine wpList_plain rfl (fun K hK => ?_)
  refine wp_load_row 47 _ rfl b17 (by kernel_rfl) 47 _ (0, 0) _ (hS.keep _ _ _ nb17 hb17) Try.underlying47 rfl (size_rn _) ?_
  have hS' := hS
  refine hK _ _ ?_
  clear hK K
  clear hS
  have hS := hS'
  clear hS'
  refine wpList_fr (a' := { tmps := List.toArray (z0 :: z1 :: z2 :: z3 :: z4 :: z5 :: z6 :: z7 :: z8 :: z9 :: z10 :: z11 :: z12 :: z13 :: z14 :: z15 :: z16 :: (.pointer (some ⟨b17, 0, none⟩)) :: (.pointer (some ⟨b18, 0, none⟩)) :: z19 :: z20 :: z21 :: z22 :: z23 :: z24 :: z25 :: z26 :: z27 :: z28 :: z29 :: z30 :: z31 :: z32 :: z33 :: z34 :: z35 :: z36 :: z37 :: z38 :: z39 :: z40 :: z41 :: z42 :: z43 :: z44 :: z45 :: z46 :: z47 :: z48 :: z49 :: z50 :: z51 :: z52 :: z53 :: z54 :: z55 :: z56 :: z57 :: z58 :: z59 :: z60 :: z61 :: z62 :: z63 :: z64 :: z65 :: z66 :: z67 :: z68 :: z69 :: z70 :: z71 :: z72 :: z73 :: z74 :: z75 :: z76 :: z77 :: z78 :: z79 :: z80 :: z81 :: z82 :: z83 :: z84 :: z85 :: z86 :: z87 :: z88 :: z89 :: z90 :: z91 :: z92 :: z93 :: z94 :: z95 :: z96 :: (.agg (vals .u64 16 (F.dg x))) :: z98 :: z99 :: zz), defers := [] }) (by kernel_rfl) ?_
  refine wpList_plain rfl (fun K hK => ?_)
  refine wp_load_row 47 _ rfl b18 (by kernel_rfl) 47 _ (0, 0) _ (hS.keep _ _ _ nb18 hb18) Try.underlying47 rfl (size_rn _) ?_
  have hS' := hS
  refine hK _ _ ?_
  clear hK K
  clear hS
  have hS := hS'
  clear hS'
  refine wpList_fr (a' := { tmps := List.toArray (z0 :: z1 :: z2 :: z3 :: z4 :: z5 :: z6 :: z7 :: z8 :: z9 :: z10 :: z11 :: z12 :: z13 :: z14 :: z15 :: z16 :: (.pointer (some ⟨b17, 0, none⟩)) :: (.pointer (some ⟨b18, 0, none⟩)) :: z19 :: z20 :: z21 :: z22 :: z23 :: z24 :: z25 :: z26 :: z27 :: z28 :: z29 :: z30 :: z31 :: z32 :: z33 :: z34 :: z35 :: z36 :: z37 :: z38 :: z39 :: z40 :: z41 :: z42 :: z43 :: z44 :: z45 :: z46 :: z47 :: z48 :: z49 :: z50 :: z51 :: z52 :: z53 :: z54 :: z55 :: z56 :: z57 :: z58 :: z59 :: z60 :: z61 :: z62 :: z63 :: z64 :: z65 :: z66 :: z67 :: z68 :: z69 :: z70 :: z71 :: z72 :: z73 :: z74 :: z75 :: z76 :: z77 :: z78 :: z79 :: z80 :: z81 :: z82 :: z83 :: z84 :: z85 :: z86 :: z87 :: z88 :: z89 :: z90 :: z91 :: z92 :: z93 :: z94 :: z95 :: z96 :: (.agg (vals .u64 16 (F.dg x))) :: (.agg (vals .u64 16 (F.dg y))) :: z99 :: zz), defers := [] }) (by kernel_rfl) ?_
  refine wpList_plain rfl (fun K hK => ?_)
  refine wp_call_val 31 #[.agg (vals .u64 16 (F.dg x)), .agg (vals .u64 16 (F.dg y))] (by kernel_rfl) (.agg (vals .u64 16 (F.dg (sm x y)))) (rsub_c x y _ hx hy) ?_
  intro w2 hbw
  have hS' := hS.call hbw
  refine hK _ _ ?_
  clear hK K
  clear hS
  have hS := hS'
  clear hS'
  refine wpList_fr (a' := { tmps := List.toArray (z0 :: z1 :: z2 :: z3 :: z4 :: z5 :: z6 :: z7 :: z8 :: z9 :: z10 :: z11 :: z12 :: z13 :: z14 :: z15 :: z16 :: (.pointer (some ⟨b17, 0, none⟩)) :: (.pointer (some ⟨b18, 0, none⟩)) :: z19 :: z20 :: z21 :: z22 :: z23 :: z24 :: z25 :: z26 :: z27 :: z28 :: z29 :: z30 :: z31 :: z32 :: z33 :: z34 :: z35 :: z36 :: z37 :: z38 :: z39 :: z40 :: z41 :: z42 :: z43 :: z44 :: z45 :: z46 :: z47 :: z48 :: z49 :: z50 :: z51 :: z52 :: z53 :: z54 :: z55 :: z56 :: z57 :: z58 :: z59 :: z60 :: z61 :: z62 :: z63 :: z64 :: z65 :: z66 :: z67 :: z68 :: z69 :: z70 :: z71 :: z72 :: z73 :: z74 :: z75 :: z76 :: z77 :: z78 :: z79 :: z80 :: z81 :: z82 :: z83 :: z84 :: z85 :: z86 :: z87 :: z88 :: z89 :: z90 :: z91 :: z92 :: z93 :: z94 :: z95 :: z96 :: (.agg (vals .u64 16 (F.dg x))) :: (.agg (vals .u64 16 (F.dg y))) :: (.agg (vals .u64 16 (F.dg (sm x y)))) :: zz), defers := [] }) (by kernel_rfl) ?_
  refine wpList_plain rfl (fun K hK => ?_)
  refine wp_new _ 47 (alloc_rn _ _ _ rfl) ?_
  intro n20 w3 eb Bn20 hbw
  have hS' := hS.call hbw
  refine hK _ _ ?_
  clear hK K
  have qgn20 : u.heap.size ≤ n20 := (by rw [eb]; exact hS.size)
  have qBn20 : Blk w3 n20 (vals .u64 16 (fun _ => 0)) 47 := Bn20
  clear hS
  have gn20 := qgn20
  have Bn20 := qBn20
  have hS := hS'
  clear hS' qgn20 qBn20
  refine wpList_fr (a' := { tmps := List.toArray (z0 :: z1 :: z2 :: z3 :: z4 :: z5 :: z6 :: z7 :: z8 :: z9 :: z10 :: z11 :: z12 :: z13 :: z14 :: z15 :: z16 :: (.pointer (some ⟨b17, 0, none⟩)) :: (.pointer (some ⟨b18, 0, none⟩)) :: z19 :: (.pointer (some ⟨n20, 0, none⟩)) :: z21 :: z22 :: z23 :: z24 :: z25 :: z26 :: z27 :: z28 :: z29 :: z30 :: z31 :: z32 :: z33 :: z34 :: z35 :: z36 :: z37 :: z38 :: z39 :: z40 :: z41 :: z42 :: z43 :: z44 :: z45 :: z46 :: z47 :: z48 :: z49 :: z50 :: z51 :: z52 :: z53 :: z54 :: z55 :: z56 :: z57 :: z58 :: z59 :: z60 :: z61 :: z62 :: z63 :: z64 :: z65 :: z66 :: z67 :: z68 :: z69 :: z70 :: z71 :: z72 :: z73 :: z74 :: z75 :: z76 :: z77 :: z78 :: z79 :: z80 :: z81 :: z82 :: z83 :: z84 :: z85 :: z86 :: z87 :: z88 :: z89 :: z90 :: z91 :: z92 :: z93 :: z94 :: z95 :: z96 :: (.agg (vals .u64 16 (F.dg x))) :: (.agg (vals .u64 16 (F.dg y))) :: (.agg (vals .u64 16 (F.dg (sm x y)))) :: zz), defers := [] }) (by kernel_rfl) ?_
  refine wpList_plain rfl (fun K hK => ?_)
  refine wp_store_row 47 _ _ rfl n20 (vals .u64 16 (F.dg (sm x y))) (by kernel_rfl) (by kernel_rfl) 47 _ Bn20 (size_rn _) (by simp only [vals_size]) (vals_one _ _ _) ?_
  have hS' := hS.new gn20 (vals .u64 16 (F.dg (sm x y)))
  refine hK _ _ ?_
  clear hK K
  have qgn20 : u.heap.size ≤ n20 := gn20
  have qBn20 : Blk (w3.setRow n20 (vals .u64 16 (F.dg (sm x y)))) n20 (vals .u64 16 (F.dg (sm x y))) 47 := (Bn20.row (vals .u64 16 (F.dg (sm x y))))
  clear hS gn20 Bn20
  have gn20 := qgn20
  have Bn20 := qBn20
  have hS := hS'
  clear hS' qgn20 qBn20
  refine wpList_fr (a' := { tmps := List.toArray (z0 :: z1 :: z2 :: z3 :: z4 :: z5 :: z6 :: z7 :: z8 :: z9 :: z10 :: z11 :: z12 :: z13 :: z14 :: z15 :: z16 :: (.pointer (some ⟨b17, 0, none⟩)) :: (.pointer (some ⟨b18, 0, none⟩)) :: z19 :: (.pointer (some ⟨n20, 0, none⟩)) :: z21 :: z22 :: z23 :: z24 :: z25 :: z26 :: z27 :: z28 :: z29 :: z30 :: z31 :: z32 :: z33 :: z34 :: z35 :: z36 :: z37 :: z38 :: z39 :: z40 :: z41 :: z42 :: z43 :: z44 :: z45 :: z46 :: z47 :: z48 :: z49 :: z50 :: z51 :: z52 :: z53 :: z54 :: z55 :: z56 :: z57 :: z58 :: z59 :: z60 :: z61 :: z62 :: z63 :: z64 :: z65 :: z66 :: z67 :: z68 :: z69 :: z70 :: z71 :: z72 :: z73 :: z74 :: z75 :: z76 :: z77 :: z78 :: z79 :: z80 :: z81 :: z82 :: z83 :: z84 :: z85 :: z86 :: z87 :: z88 :: z89 :: z90 :: z91 :: z92 :: z93 :: z94 :: z95 :: z96 :: (.agg (vals .u64 16 (F.dg x))) :: (.agg (vals .u64 16 (F.dg y))) :: (.agg (vals .u64 16 (F.dg (sm x y)))) :: zz), defers := [] }) (by kernel_rfl) ?_
  generalize (w3.setRow n20 (vals .u64 16 (F.dg (sm x y)))) = w4 at *
  refine wpList_nil ?_
  exact H n20 w4 hS gn20 Bn20
def rf27Op0 : Oper := { dst := some 100, op := Op.load 47 (Operand.tmp 19), type := 47, pos := "ref.go:33", after := #[], guard := none }
def rf27Op1 : Oper := { dst := some 101, op := Op.load 47 (Operand.tmp 19), type := 47, pos := "ref.go:33", after := #[], guard := none }
def rf27Op2 : Oper := { dst := some 102, op := Op.call { callee := Callee.value (Operand.func 32), args := #[Operand.tmp 100, Operand.tmp 101], argTypes := #[47, 47] }, type := 47, pos := "ref.go:33", after := #[{ on := 0, ground := Ground.data }, { on := 1, ground := Ground.data }], guard := none }
def rf27Op3 : Oper := { dst := none, op := Op.store 47 (Operand.tmp 8) (Operand.tmp 102), type := 0, pos := "ref.go:33", after := #[{ on := 2, ground := Ground.data }, { on := 2, ground := Ground.chain }, { on := 0, ground := Ground.phase }, { on := 1, ground := Ground.phase }, { on := 2, ground := Ground.phase }], guard := none }
def rf27Ops : Array Oper := #[rf27Op0, rf27Op1, rf27Op2, rf27Op3]
set_option maxRecDepth 100000 in
set_option maxHeartbeats 2000000 in
theorem rf27_region (Q : Exit → Act → World → Prop) (hQ : ∀ c a w n v, Q (.panic c) (a.put (some n) v) w → Q (.panic c) a w) (u : World) (z0 z1 z2 z3 z4 z5 z6 z7 z9 z10 z11 z12 z13 z14 z15 z16 z17 z18 z20 z21 z22 z23 z24 z25 z26 z27 z28 z29 z30 z31 z32 z33 z34 z35 z36 z37 z38 z39 z40 z41 z42 z43 z44 z45 z46 z47 z48 z49 z50 z51 z52 z53 z54 z55 z56 z57 z58 z59 z60 z61 z62 z63 z64 z65 z66 z67 z68 z69 z70 z71 z72 z73 z74 z75 z76 z77 z78 z79 z80 z81 z82 z83 z84 z85 z86 z87 z88 z89 z90 z91 z92 z93 z94 z95 z96 z97 z98 z99 z100 z101 z102 : Value) (zz : List Value) (b8 b19 : Nat) (c x : Nat) (hx : x < pP) (hb8 : Blk u b8 (vals .u64 16 (F.dg c)) 47) (hb19 : Blk u b19 (vals .u64 16 (F.dg x)) 47) (nb19 : b19 ∉ ([b8] : List Nat)) (H : ∀ (w : World), Kp [b8] u w → Blk w b8 (vals .u64 16 (F.dg (mm x x))) 47 → Q .normal { tmps := List.toArray (z0 :: z1 :: z2 :: z3 :: z4 :: z5 :: z6 :: z7 :: (.pointer (some ⟨b8, 0, none⟩)) :: z9 :: z10 :: z11 :: z12 :: z13 :: z14 :: z15 :: z16 :: z17 :: z18 :: (.pointer (some ⟨b19, 0, none⟩)) :: z20 :: z21 :: z22 :: z23 :: z24 :: z25 :: z26 :: z27 :: z28 :: z29 :: z30 :: z31 :: z32 :: z33 :: z34 :: z35 :: z36 :: z37 :: z38 :: z39 :: z40 :: z41 :: z42 :: z43 :: z44 :: z45 :: z46 :: z47 :: z48 :: z49 :: z50 :: z51 :: z52 :: z53 :: z54 :: z55 :: z56 :: z57 :: z58 :: z59 :: z60 :: z61 :: z62 :: z63 :: z64 :: z65 :: z66 :: z67 :: z68 :: z69 :: z70 :: z71 :: z72 :: z73 :: z74 :: z75 :: z76 :: z77 :: z78 :: z79 :: z80 :: z81 :: z82 :: z83 :: z84 :: z85 :: z86 :: z87 :: z88 :: z89 :: z90 :: z91 :: z92 :: z93 :: z94 :: z95 :: z96 :: z97 :: z98 :: z99 :: (.agg (vals .u64 16 (F.dg x))) :: (.agg (vals .u64 16 (F.dg x))) :: (.agg (vals .u64 16 (F.dg (mm x x)))) :: zz), defers := [] } w) :
    (Code.region 27 rf27Ops false).wp Try.prog Q { tmps := List.toArray (z0 :: z1 :: z2 :: z3 :: z4 :: z5 :: z6 :: z7 :: (.pointer (some ⟨b8, 0, none⟩)) :: z9 :: z10 :: z11 :: z12 :: z13 :: z14 :: z15 :: z16 :: z17 :: z18 :: (.pointer (some ⟨b19, 0, none⟩)) :: z20 :: z21 :: z22 :: z23 :: z24 :: z25 :: z26 :: z27 :: z28 :: z29 :: z30 :: z31 :: z32 :: z33 :: z34 :: z35 :: z36 :: z37 :: z38 :: z39 :: z40 :: z41 :: z42 :: z43 :: z44 :: z45 :: z46 :: z47 :: z48 :: z49 :: z50 :: z51 :: z52 :: z53 :: z54 :: z55 :: z56 :: z57 :: z58 :: z59 :: z60 :: z61 :: z62 :: z63 :: z64 :: z65 :: z66 :: z67 :: z68 :: z69 :: z70 :: z71 :: z72 :: z73 :: z74 :: z75 :: z76 :: z77 :: z78 :: z79 :: z80 :: z81 :: z82 :: z83 :: z84 :: z85 :: z86 :: z87 :: z88 :: z89 :: z90 :: z91 :: z92 :: z93 :: z94 :: z95 :: z96 :: z97 :: z98 :: z99 :: z100 :: z101 :: z102 :: zz), defers := [] } u := by
  have _ := hQ
  have _ := u
  have _ := z0
  have _ := z1
  have _ := z2
  have _ := z3
  have _ := z4
  have _ := z5
  have _ := z6
  have _ := z7
  have _ := z9
  have _ := z10
  have _ := z11
  have _ := z12
  have _ := z13
  have _ := z14
  have _ := z15
  have _ := z16
  have _ := z17
  have _ := z18
  have _ := z20
  have _ := z21
  have _ := z22
  have _ := z23
  have _ := z24
  have _ := z25
  have _ := z26
  have _ := z27
  have _ := z28
  have _ := z29
  have _ := z30
  have _ := z31
  have _ := z32
  have _ := z33
  have _ := z34
  have _ := z35
  have _ := z36
  have _ := z37
  have _ := z38
  have _ := z39
  have _ := z40
  have _ := z41
  have _ := z42
  have _ := z43
  have _ := z44
  have _ := z45
  have _ := z46
  have _ := z47
  have _ := z48
  have _ := z49
  have _ := z50
  have _ := z51
  have _ := z52
  have _ := z53
  have _ := z54
  have _ := z55
  have _ := z56
  have _ := z57
  have _ := z58
  have _ := z59
  have _ := z60
  have _ := z61
  have _ := z62
  have _ := z63
  have _ := z64
  have _ := z65
  have _ := z66
  have _ := z67
  have _ := z68
  have _ := z69
  have _ := z70
  have _ := z71
  have _ := z72
  have _ := z73
  have _ := z74
  have _ := z75
  have _ := z76
  have _ := z77
  have _ := z78
  have _ := z79
  have _ := z80
  have _ := z81
  have _ := z82
  have _ := z83
  have _ := z84
  have _ := z85
  have _ := z86
  have _ := z87
  have _ := z88
  have _ := z89
  have _ := z90
  have _ := z91
  have _ := z92
  have _ := z93
  have _ := z94
  have _ := z95
  have _ := z96
  have _ := z97
  have _ := z98
  have _ := z99
  have _ := z100
  have _ := z101
  have _ := z102
  have _ := zz
  have _ := b8
  have _ := b19
  have _ := c
  have _ := x
  have _ := hx
  have _ := hb8
  have _ := hb19
  have _ := nb19
  refine wp_region_list (show wpList _ rf27Ops _ [rf27Op0, rf27Op1, rf27Op2, rf27Op3] _ _ from ?_)
  have hS : Kp [b8] u u := Kp.refl _ u
  have Bb8 := hb8
  refine wpList_plain rfl (fun K hK => ?_)
  refine wp_load_row 47 _ rfl b19 (by kernel_rfl) 47 _ (0, 0) _ (hS.keep _ _ _ nb19 hb19) Try.underlying47 rfl (size_rn _) ?_
  have hS' := hS
  refine hK _ _ ?_
  clear hK K
  have qBb8 : Blk u b8 (vals .u64 16 (F.dg c)) 47 := Bb8
  clear hS Bb8
  have Bb8 := qBb8
  have hS := hS'
  clear hS' qBb8
  refine wpList_fr (a' := { tmps := List.toArray (z0 :: z1 :: z2 :: z3 :: z4 :: z5 :: z6 :: z7 :: (.pointer (some ⟨b8, 0, none⟩)) :: z9 :: z10 :: z11 :: z12 :: z13 :: z14 :: z15 :: z16 :: z17 :: z18 :: (.pointer (some ⟨b19, 0, none⟩)) :: z20 :: z21 :: z22 :: z23 :: z24 :: z25 :: z26 :: z27 :: z28 :: z29 :: z30 :: z31 :: z32 :: z33 :: z34 :: z35 :: z36 :: z37 :: z38 :: z39 :: z40 :: z41 :: z42 :: z43 :: z44 :: z45 :: z46 :: z47 :: z48 :: z49 :: z50 :: z51 :: z52 :: z53 :: z54 :: z55 :: z56 :: z57 :: z58 :: z59 :: z60 :: z61 :: z62 :: z63 :: z64 :: z65 :: z66 :: z67 :: z68 :: z69 :: z70 :: z71 :: z72 :: z73 :: z74 :: z75 :: z76 :: z77 :: z78 :: z79 :: z80 :: z81 :: z82 :: z83 :: z84 :: z85 :: z86 :: z87 :: z88 :: z89 :: z90 :: z91 :: z92 :: z93 :: z94 :: z95 :: z96 :: z97 :: z98 :: z99 :: (.agg (vals .u64 16 (F.dg x))) :: z101 :: z102 :: zz), defers := [] }) (by kernel_rfl) ?_
  refine wpList_plain rfl (fun K hK => ?_)
  refine wp_load_row 47 _ rfl b19 (by kernel_rfl) 47 _ (0, 0) _ (hS.keep _ _ _ nb19 hb19) Try.underlying47 rfl (size_rn _) ?_
  have hS' := hS
  refine hK _ _ ?_
  clear hK K
  have qBb8 : Blk u b8 (vals .u64 16 (F.dg c)) 47 := Bb8
  clear hS Bb8
  have Bb8 := qBb8
  have hS := hS'
  clear hS' qBb8
  refine wpList_fr (a' := { tmps := List.toArray (z0 :: z1 :: z2 :: z3 :: z4 :: z5 :: z6 :: z7 :: (.pointer (some ⟨b8, 0, none⟩)) :: z9 :: z10 :: z11 :: z12 :: z13 :: z14 :: z15 :: z16 :: z17 :: z18 :: (.pointer (some ⟨b19, 0, none⟩)) :: z20 :: z21 :: z22 :: z23 :: z24 :: z25 :: z26 :: z27 :: z28 :: z29 :: z30 :: z31 :: z32 :: z33 :: z34 :: z35 :: z36 :: z37 :: z38 :: z39 :: z40 :: z41 :: z42 :: z43 :: z44 :: z45 :: z46 :: z47 :: z48 :: z49 :: z50 :: z51 :: z52 :: z53 :: z54 :: z55 :: z56 :: z57 :: z58 :: z59 :: z60 :: z61 :: z62 :: z63 :: z64 :: z65 :: z66 :: z67 :: z68 :: z69 :: z70 :: z71 :: z72 :: z73 :: z74 :: z75 :: z76 :: z77 :: z78 :: z79 :: z80 :: z81 :: z82 :: z83 :: z84 :: z85 :: z86 :: z87 :: z88 :: z89 :: z90 :: z91 :: z92 :: z93 :: z94 :: z95 :: z96 :: z97 :: z98 :: z99 :: (.agg (vals .u64 16 (F.dg x))) :: (.agg (vals .u64 16 (F.dg x))) :: z102 :: zz), defers := [] }) (by kernel_rfl) ?_
  refine wpList_plain rfl (fun K hK => ?_)
  refine wp_call_val 32 #[.agg (vals .u64 16 (F.dg x)), .agg (vals .u64 16 (F.dg x))] (by kernel_rfl) (.agg (vals .u64 16 (F.dg (mm x x)))) (rmul_c x x _ hx hx) ?_
  intro w2 hbw
  have hS' := hS.call hbw
  refine hK _ _ ?_
  clear hK K
  have qBb8 : Blk w2 b8 (vals .u64 16 (F.dg c)) 47 := (Bb8.call hbw)
  clear hS Bb8
  have Bb8 := qBb8
  have hS := hS'
  clear hS' qBb8
  refine wpList_fr (a' := { tmps := List.toArray (z0 :: z1 :: z2 :: z3 :: z4 :: z5 :: z6 :: z7 :: (.pointer (some ⟨b8, 0, none⟩)) :: z9 :: z10 :: z11 :: z12 :: z13 :: z14 :: z15 :: z16 :: z17 :: z18 :: (.pointer (some ⟨b19, 0, none⟩)) :: z20 :: z21 :: z22 :: z23 :: z24 :: z25 :: z26 :: z27 :: z28 :: z29 :: z30 :: z31 :: z32 :: z33 :: z34 :: z35 :: z36 :: z37 :: z38 :: z39 :: z40 :: z41 :: z42 :: z43 :: z44 :: z45 :: z46 :: z47 :: z48 :: z49 :: z50 :: z51 :: z52 :: z53 :: z54 :: z55 :: z56 :: z57 :: z58 :: z59 :: z60 :: z61 :: z62 :: z63 :: z64 :: z65 :: z66 :: z67 :: z68 :: z69 :: z70 :: z71 :: z72 :: z73 :: z74 :: z75 :: z76 :: z77 :: z78 :: z79 :: z80 :: z81 :: z82 :: z83 :: z84 :: z85 :: z86 :: z87 :: z88 :: z89 :: z90 :: z91 :: z92 :: z93 :: z94 :: z95 :: z96 :: z97 :: z98 :: z99 :: (.agg (vals .u64 16 (F.dg x))) :: (.agg (vals .u64 16 (F.dg x))) :: (.agg (vals .u64 16 (F.dg (mm x x)))) :: zz), defers := [] }) (by kernel_rfl) ?_
  refine wpList_plain rfl (fun K hK => ?_)
  refine wp_store_row 47 _ _ rfl b8 (vals .u64 16 (F.dg (mm x x))) (by kernel_rfl) (by kernel_rfl) 47 _ Bb8 (size_rn _) (by simp only [vals_size]) (vals_one _ _ _) ?_
  have hS' := hS.old (x := b8) (by simp) (vals .u64 16 (F.dg (mm x x)))
  refine hK _ _ ?_
  clear hK K
  have qBb8 : Blk (w2.setRow b8 (vals .u64 16 (F.dg (mm x x)))) b8 (vals .u64 16 (F.dg (mm x x))) 47 := (Bb8.row (vals .u64 16 (F.dg (mm x x))))
  clear hS Bb8
  have Bb8 := qBb8
  have hS := hS'
  clear hS' qBb8
  refine wpList_fr (a' := { tmps := List.toArray (z0 :: z1 :: z2 :: z3 :: z4 :: z5 :: z6 :: z7 :: (.pointer (some ⟨b8, 0, none⟩)) :: z9 :: z10 :: z11 :: z12 :: z13 :: z14 :: z15 :: z16 :: z17 :: z18 :: (.pointer (some ⟨b19, 0, none⟩)) :: z20 :: z21 :: z22 :: z23 :: z24 :: z25 :: z26 :: z27 :: z28 :: z29 :: z30 :: z31 :: z32 :: z33 :: z34 :: z35 :: z36 :: z37 :: z38 :: z39 :: z40 :: z41 :: z42 :: z43 :: z44 :: z45 :: z46 :: z47 :: z48 :: z49 :: z50 :: z51 :: z52 :: z53 :: z54 :: z55 :: z56 :: z57 :: z58 :: z59 :: z60 :: z61 :: z62 :: z63 :: z64 :: z65 :: z66 :: z67 :: z68 :: z69 :: z70 :: z71 :: z72 :: z73 :: z74 :: z75 :: z76 :: z77 :: z78 :: z79 :: z80 :: z81 :: z82 :: z83 :: z84 :: z85 :: z86 :: z87 :: z88 :: z89 :: z90 :: z91 :: z92 :: z93 :: z94 :: z95 :: z96 :: z97 :: z98 :: z99 :: (.agg (vals .u64 16 (F.dg x))) :: (.agg (vals .u64 16 (F.dg x))) :: (.agg (vals .u64 16 (F.dg (mm x x)))) :: zz), defers := [] }) (by kernel_rfl) ?_
  generalize (w2.setRow b8 (vals .u64 16 (F.dg (mm x x)))) = w3 at *
  refine wpList_nil ?_
  exact H  w3 hS Bb8
def rf28Op0 : Oper := { dst := some 103, op := Op.load 47 (Operand.tmp 5), type := 47, pos := "ref.go:34", after := #[], guard := none }
def rf28Op1 : Oper := { dst := some 104, op := Op.load 47 (Operand.tmp 20), type := 47, pos := "ref.go:34", after := #[], guard := none }
def rf28Op2 : Oper := { dst := some 105, op := Op.load 47 (Operand.tmp 20), type := 47, pos := "ref.go:34", after := #[], guard := none }
def rf28Op3 : Oper := { dst := some 106, op := Op.call { callee := Callee.value (Operand.func 32), args := #[Operand.tmp 104, Operand.tmp 105], argTypes := #[47, 47] }, type := 47, pos := "ref.go:34", after := #[{ on := 1, ground := Ground.data }, { on := 2, ground := Ground.data }], guard := none }
def rf28Op4 : Oper := { dst := some 107, op := Op.call { callee := Callee.value (Operand.func 32), args := #[Operand.tmp 103, Operand.tmp 106], argTypes := #[47, 47] }, type := 47, pos := "ref.go:34", after := #[{ on := 0, ground := Ground.data }, { on := 3, ground := Ground.data }, { on := 3, ground := Ground.chain }], guard := none }
def rf28Op5 : Oper := { dst := none, op := Op.store 47 (Operand.tmp 9) (Operand.tmp 107), type := 0, pos := "ref.go:34", after := #[{ on := 4, ground := Ground.data }, { on := 4, ground := Ground.chain }, { on := 0, ground := Ground.phase }, { on := 1, ground := Ground.phase }, { on := 2, ground := Ground.phase }, { on := 3, ground := Ground.phase }, { on := 4, ground := Ground.phase }], guard := none }
def rf28Ops : Array Oper := #[rf28Op0, rf28Op1, rf28Op2, rf28Op3, rf28Op4, rf28Op5]
structure rf28C (Q : Exit → Act → World → Prop) (u : World) (z0 z1 z2 z3 z4 z6 z7 z8 z10 z11 z12 z13 z14 z15 z16 z17 z18 z19 z21 z22 z23 z24 z25 z26 z27 z28 z29 z30 z31 z32 z33 z34 z35 z36 z37 z38 z39 z40 z41 z42 z43 z44 z45 z46 z47 z48 z49 z50 z51 z52 z53 z54 z55 z56 z57 z58 z59 z60 z61 z62 z63 z64 z65 z66 z67 z68 z69 z70 z71 z72 z73 z74 z75 z76 z77 z78 z79 z80 z81 z82 z83 z84 z85 z86 z87 z88 z89 z90 z91 z92 z93 z94 z95 z96 z97 z98 z99 z100 z101 z102 z103 z104 z105 z106 z107 : Value) (zz : List Value) (b5 b9 b20 : Nat) (u0 d y : Nat) : Prop where
  hQ : ∀ c a w n v, Q (.panic c) (a.put (some n) v) w → Q (.panic c) a w
  hu0 : u0 < pP
  hy : y < pP
  hb5 : Blk u b5 (vals .u64 16 (F.dg u0)) 47
  nb5 : b5 ∉ ([b9] : List Nat)
  hb9 : Blk u b9 (vals .u64 16 (F.dg d)) 47
  hb20 : Blk u b20 (vals .u64 16 (F.dg y)) 47
  nb20 : b20 ∉ ([b9] : List Nat)
  H : ∀ (w : World), Kp [b9] u w → Blk w b9 (vals .u64 16 (F.dg (mm u0 (mm y y)))) 47 → Q .normal { tmps := List.toArray (z0 :: z1 :: z2 :: z3 :: z4 :: (.pointer (some ⟨b5, 0, none⟩)) :: z6 :: z7 :: z8 :: (.pointer (some ⟨b9, 0, none⟩)) :: z10 :: z11 :: z12 :: z13 :: z14 :: z15 :: z16 :: z17 :: z18 :: z19 :: (.pointer (some ⟨b20, 0, none⟩)) :: z21 :: z22 :: z23 :: z24 :: z25 :: z26 :: z27 :: z28 :: z29 :: z30 :: z31 :: z32 :: z33 :: z34 :: z35 :: z36 :: z37 :: z38 :: z39 :: z40 :: z41 :: z42 :: z43 :: z44 :: z45 :: z46 :: z47 :: z48 :: z49 :: z50 :: z51 :: z52 :: z53 :: z54 :: z55 :: z56 :: z57 :: z58 :: z59 :: z60 :: z61 :: z62 :: z63 :: z64 :: z65 :: z66 :: z67 :: z68 :: z69 :: z70 :: z71 :: z72 :: z73 :: z74 :: z75 :: z76 :: z77 :: z78 :: z79 :: z80 :: z81 :: z82 :: z83 :: z84 :: z85 :: z86 :: z87 :: z88 :: z89 :: z90 :: z91 :: z92 :: z93 :: z94 :: z95 :: z96 :: z97 :: z98 :: z99 :: z100 :: z101 :: z102 :: (.agg (vals .u64 16 (F.dg u0))) :: (.agg (vals .u64 16 (F.dg y))) :: (.agg (vals .u64 16 (F.dg y))) :: (.agg (vals .u64 16 (F.dg (mm y y)))) :: (.agg (vals .u64 16 (F.dg (mm u0 (mm y y))))) :: zz), defers := [] } w
section
variable {Q : Exit → Act → World → Prop} {u : World} {z0 z1 z2 z3 z4 z6 z7 z8 z10 z11 z12 z13 z14 z15 z16 z17 z18 z19 z21 z22 z23 z24 z25 z26 z27 z28 z29 z30 z31 z32 z33 z34 z35 z36 z37 z38 z39 z40 z41 z42 z43 z44 z45 z46 z47 z48 z49 z50 z51 z52 z53 z54 z55 z56 z57 z58 z59 z60 z61 z62 z63 z64 z65 z66 z67 z68 z69 z70 z71 z72 z73 z74 z75 z76 z77 z78 z79 z80 z81 z82 z83 z84 z85 z86 z87 z88 z89 z90 z91 z92 z93 z94 z95 z96 z97 z98 z99 z100 z101 z102 z103 z104 z105 z106 z107 : Value} {zz : List Value} {b5 b9 b20 : Nat} {u0 d y : Nat}
set_option maxRecDepth 100000 in
set_option maxHeartbeats 2000000 in
theorem rf28_0 (C : rf28C Q u z0 z1 z2 z3 z4 z6 z7 z8 z10 z11 z12 z13 z14 z15 z16 z17 z18 z19 z21 z22 z23 z24 z25 z26 z27 z28 z29 z30 z31 z32 z33 z34 z35 z36 z37 z38 z39 z40 z41 z42 z43 z44 z45 z46 z47 z48 z49 z50 z51 z52 z53 z54 z55 z56 z57 z58 z59 z60 z61 z62 z63 z64 z65 z66 z67 z68 z69 z70 z71 z72 z73 z74 z75 z76 z77 z78 z79 z80 z81 z82 z83 z84 z85 z86 z87 z88 z89 z90 z91 z92 z93 z94 z95 z96 z97 z98 z99 z100 z101 z102 z103 z104 z105 z106 z107 zz b5 b9 b20 u0 d y) (w : World) (hS : Kp [b9] u w) (Bb9 : Blk w b9 (vals .u64 16 (F.dg (mm u0 (mm y y)))) 47) :
    wpAnyH Try.prog .any rf28Ops Q (Kp [b9] u) 0 (List.toArray (true :: true :: true :: true :: true :: true :: [])) { tmps := List.toArray (z0 :: z1 :: z2 :: z3 :: z4 :: (.pointer (some ⟨b5, 0, none⟩)) :: z6 :: z7 :: z8 :: (.pointer (some ⟨b9, 0, none⟩)) :: z10 :: z11 :: z12 :: z13 :: z14 :: z15 :: z16 :: z17 :: z18 :: z19 :: (.pointer (some ⟨b20, 0, none⟩)) :: z21 :: z22 :: z23 :: z24 :: z25 :: z26 :: z27 :: z28 :: z29 :: z30 :: z31 :: z32 :: z33 :: z34 :: z35 :: z36 :: z37 :: z38 :: z39 :: z40 :: z41 :: z42 :: z43 :: z44 :: z45 :: z46 :: z47 :: z48 :: z49 :: z50 :: z51 :: z52 :: z53 :: z54 :: z55 :: z56 :: z57 :: z58 :: z59 :: z60 :: z61 :: z62 :: z63 :: z64 :: z65 :: z66 :: z67 :: z68 :: z69 :: z70 :: z71 :: z72 :: z73 :: z74 :: z75 :: z76 :: z77 :: z78 :: z79 :: z80 :: z81 :: z82 :: z83 :: z84 :: z85 :: z86 :: z87 :: z88 :: z89 :: z90 :: z91 :: z92 :: z93 :: z94 :: z95 :: z96 :: z97 :: z98 :: z99 :: z100 :: z101 :: z102 :: (.agg (vals .u64 16 (F.dg u0))) :: (.agg (vals .u64 16 (F.dg y))) :: (.agg (vals .u64 16 (F.dg y))) :: (.agg (vals .u64 16 (F.dg (mm y y)))) :: (.agg (vals .u64 16 (F.dg (mm u0 (mm y y))))) :: zz), defers := [] } w := by
  exact wpAnyH_done (by kernel_rfl) (C.H  w hS Bb9) _
set_option maxRecDepth 100000 in
set_option maxHeartbeats 2000000 in
theorem rf28_1 (C : rf28C Q u z0 z1 z2 z3 z4 z6 z7 z8 z10 z11 z12 z13 z14 z15 z16 z17 z18 z19 z21 z22 z23 z24 z25 z26 z27 z28 z29 z30 z31 z32 z33 z34 z35 z36 z37 z38 z39 z40 z41 z42 z43 z44 z45 z46 z47 z48 z49 z50 z51 z52 z53 z54 z55 z56 z57 z58 z59 z60 z61 z62 z63 z64 z65 z66 z67 z68 z69 z70 z71 z72 z73 z74 z75 z76 z77 z78 z79 z80 z81 z82 z83 z84 z85 z86 z87 z88 z89 z90 z91 z92 z93 z94 z95 z96 z97 z98 z99 z100 z101 z102 z103 z104 z105 z106 z107 zz b5 b9 b20 u0 d y) (w : World) (hS : Kp [b9] u w) (Bb9 : Blk w b9 (vals .u64 16 (F.dg d)) 47) :
    wpAnyH Try.prog .any rf28Ops Q (Kp [b9] u) 1 (List.toArray (true :: true :: true :: true :: true :: false :: [])) { tmps := List.toArray (z0 :: z1 :: z2 :: z3 :: z4 :: (.pointer (some ⟨b5, 0, none⟩)) :: z6 :: z7 :: z8 :: (.pointer (some ⟨b9, 0, none⟩)) :: z10 :: z11 :: z12 :: z13 :: z14 :: z15 :: z16 :: z17 :: z18 :: z19 :: (.pointer (some ⟨b20, 0, none⟩)) :: z21 :: z22 :: z23 :: z24 :: z25 :: z26 :: z27 :: z28 :: z29 :: z30 :: z31 :: z32 :: z33 :: z34 :: z35 :: z36 :: z37 :: z38 :: z39 :: z40 :: z41 :: z42 :: z43 :: z44 :: z45 :: z46 :: z47 :: z48 :: z49 :: z50 :: z51 :: z52 :: z53 :: z54 :: z55 :: z56 :: z57 :: z58 :: z59 :: z60 :: z61 :: z62 :: z63 :: z64 :: z65 :: z66 :: z67 :: z68 :: z69 :: z70 :: z71 :: z72 :: z73 :: z74 :: z75 :: z76 :: z77 :: z78 :: z79 :: z80 :: z81 :: z82 :: z83 :: z84 :: z85 :: z86 :: z87 :: z88 :: z89 :: z90 :: z91 :: z92 :: z93 :: z94 :: z95 :: z96 :: z97 :: z98 :: z99 :: z100 :: z101 :: z102 :: (.agg (vals .u64 16 (F.dg u0))) :: (.agg (vals .u64 16 (F.dg y))) :: (.agg (vals .u64 16 (F.dg y))) :: (.agg (vals .u64 16 (F.dg (mm y y)))) :: (.agg (vals .u64 16 (F.dg (mm u0 (mm y y))))) :: zz), defers := [] } w := by
  obtain ⟨hQ, hu0, hy, hb5, nb5, hb9, hb20, nb20, _⟩ := id C
  refine wpAnyH_ready (rs := [5]) (by kernel_rfl) (by simp) ?_
  refine AllReadyH.cons (o := rf28Op5) rfl (fun K hK => ?_) AllReadyH.nil
  rw [if_pos (by rfl)]
  refine wp_store_row 47 _ _ rfl b9 (vals .u64 16 (F.dg (mm u0 (mm y y)))) (by kernel_rfl) (by kernel_rfl) 47 _ Bb9 (size_rn _) (by simp only [vals_size]) (vals_one _ _ _) ?_
  have hS' := hS.old (x := b9) (by simp) (vals .u64 16 (F.dg (mm u0 (mm y y))))
  refine hK.out _ _ hS' (fun _ => ?_)
  exact wpAnyH_at (by kernel_rfl) (by kernel_rfl) (rf28_0 C (w.setRow b9 (vals .u64 16 (F.dg (mm u0 (mm y y))))) hS' (Bb9.row (vals .u64 16 (F.dg (mm u0 (mm y y))))))
set_option maxRecDepth 100000 in
set_option maxHeartbeats 2000000 in
theorem rf28_2 (C : rf28C Q u z0 z1 z2 z3 z4 z6 z7 z8 z10 z11 z12 z13 z14 z15 z16 z17 z18 z19 z21 z22 z23 z24 z25 z26 z27 z28 z29 z30 z31 z32 z33 z34 z35 z36 z37 z38 z39 z40 z41 z42 z43 z44 z45 z46 z47 z48 z49 z50 z51 z52 z53 z54 z55 z56 z57 z58 z59 z60 z61 z62 z63 z64 z65 z66 z67 z68 z69 z70 z71 z72 z73 z74 z75 z76 z77 z78 z79 z80 z81 z82 z83 z84 z85 z86 z87 z88 z89 z90 z91 z92 z93 z94 z95 z96 z97 z98 z99 z100 z101 z102 z103 z104 z105 z106 z107 zz b5 b9 b20 u0 d y) (w : World) (hS : Kp [b9] u w) (Bb9 : Blk w b9 (vals .u64 16 (F.dg d)) 47) :
    wpAnyH Try.prog .any rf28Ops Q (Kp [b9] u) 2 (List.toArray (true :: true :: true :: true :: false :: false :: [])) { tmps := List.toArray (z0 :: z1 :: z2 :: z3 :: z4 :: (.pointer (some ⟨b5, 0, none⟩)) :: z6 :: z7 :: z8 :: (.pointer (some ⟨b9, 0, none⟩)) :: z10 :: z11 :: z12 :: z13 :: z14 :: z15 :: z16 :: z17 :: z18 :: z19 :: (.pointer (some ⟨b20, 0, none⟩)) :: z21 :: z22 :: z23 :: z24 :: z25 :: z26 :: z27 :: z28 :: z29 :: z30 :: z31 :: z32 :: z33 :: z34 :: z35 :: z36 :: z37 :: z38 :: z39 :: z40 :: z41 :: z42 :: z43 :: z44 :: z45 :: z46 :: z47 :: z48 :: z49 :: z50 :: z51 :: z52 :: z53 :: z54 :: z55 :: z56 :: z57 :: z58 :: z59 :: z60 :: z61 :: z62 :: z63 :: z64 :: z65 :: z66 :: z67 :: z68 :: z69 :: z70 :: z71 :: z72 :: z73 :: z74 :: z75 :: z76 :: z77 :: z78 :: z79 :: z80 :: z81 :: z82 :: z83 :: z84 :: z85 :: z86 :: z87 :: z88 :: z89 :: z90 :: z91 :: z92 :: z93 :: z94 :: z95 :: z96 :: z97 :: z98 :: z99 :: z100 :: z101 :: z102 :: (.agg (vals .u64 16 (F.dg u0))) :: (.agg (vals .u64 16 (F.dg y))) :: (.agg (vals .u64 16 (F.dg y))) :: (.agg (vals .u64 16 (F.dg (mm y y)))) :: z107 :: zz), defers := [] } w := by
  obtain ⟨hQ, hu0, hy, hb5, nb5, hb9, hb20, nb20, _⟩ := id C
  refine wpAnyH_ready (rs := [4]) (by kernel_rfl) (by simp) ?_
  refine AllReadyH.cons (o := rf28Op4) rfl (fun K hK => ?_) AllReadyH.nil
  rw [if_pos (by rfl)]
  refine wp_call_val 32 #[.agg (vals .u64 16 (F.dg u0)), .agg (vals .u64 16 (F.dg (mm y y)))] (by kernel_rfl) (.agg (vals .u64 16 (F.dg (mm u0 (mm y y))))) (rmul_c u0 (mm y y) _ hu0 (mm_lt _ _)) ?_
  intro w' hbw
  have hS' := hS.call hbw
  refine hK.out _ _ hS' (fun _ => ?_)
  exact wpAnyH_at (by kernel_rfl) (by kernel_rfl) (rf28_1 C w' hS' (Bb9.call hbw))
set_option maxRecDepth 100000 in
set_option maxHeartbeats 2000000 in
theorem rf28_3 (C : rf28C Q u z0 z1 z2 z3 z4 z6 z7 z8 z10 z11 z12 z13 z14 z15 z16 z17 z18 z19 z21 z22 z23 z24 z25 z26 z27 z28 z29 z30 z31 z32 z33 z34 z35 z36 z37 z38 z39 z40 z41 z42 z43 z44 z45 z46 z47 z48 z49 z50 z51 z52 z53 z54 z55 z56 z57 z58 z59 z60 z61 z62 z63 z64 z65 z66 z67 z68 z69 z70 z71 z72 z73 z74 z75 z76 z77 z78 z79 z80 z81 z82 z83 z84 z85 z86 z87 z88 z89 z90 z91 z92 z93 z94 z95 z96 z97 z98 z99 z100 z101 z102 z103 z104 z105 z106 z107 zz b5 b9 b20 u0 d y) (w : World) (hS : Kp [b9] u w) (Bb9 : Blk w b9 (vals .u64 16 (F.dg d)) 47) :
    wpAnyH Try.prog .any rf28Ops Q (Kp [b9] u) 3 (List.toArray (true :: true :: true :: false :: false :: false :: [])) { tmps := List.toArray (z0 :: z1 :: z2 :: z3 :: z4 :: (.pointer (some ⟨b5, 0, none⟩)) :: z6 :: z7 :: z8 :: (.pointer (some ⟨b9, 0, none⟩)) :: z10 :: z11 :: z12 :: z13 :: z14 :: z15 :: z16 :: z17 :: z18 :: z19 :: (.pointer (some ⟨b20, 0, none⟩)) :: z21 :: z22 :: z23 :: z24 :: z25 :: z26 :: z27 :: z28 :: z29 :: z30 :: z31 :: z32 :: z33 :: z34 :: z35 :: z36 :: z37 :: z38 :: z39 :: z40 :: z41 :: z42 :: z43 :: z44 :: z45 :: z46 :: z47 :: z48 :: z49 :: z50 :: z51 :: z52 :: z53 :: z54 :: z55 :: z56 :: z57 :: z58 :: z59 :: z60 :: z61 :: z62 :: z63 :: z64 :: z65 :: z66 :: z67 :: z68 :: z69 :: z70 :: z71 :: z72 :: z73 :: z74 :: z75 :: z76 :: z77 :: z78 :: z79 :: z80 :: z81 :: z82 :: z83 :: z84 :: z85 :: z86 :: z87 :: z88 :: z89 :: z90 :: z91 :: z92 :: z93 :: z94 :: z95 :: z96 :: z97 :: z98 :: z99 :: z100 :: z101 :: z102 :: (.agg (vals .u64 16 (F.dg u0))) :: (.agg (vals .u64 16 (F.dg y))) :: (.agg (vals .u64 16 (F.dg y))) :: z106 :: z107 :: zz), defers := [] } w := by
  obtain ⟨hQ, hu0, hy, hb5, nb5, hb9, hb20, nb20, _⟩ := id C
  refine wpAnyH_ready (rs := [3]) (by kernel_rfl) (by simp) ?_
  refine AllReadyH.cons (o := rf28Op3) rfl (fun K hK => ?_) AllReadyH.nil
  rw [if_pos (by rfl)]
  refine wp_call_val 32 #[.agg (vals .u64 16 (F.dg y)), .agg (vals .u64 16 (F.dg y))] (by kernel_rfl) (.agg (vals .u64 16 (F.dg (mm y y)))) (rmul_c y y _ hy hy) ?_
  intro w' hbw
  have hS' := hS.call hbw
  refine hK.out _ _ hS' (fun _ => ?_)
  exact wpAnyH_at (by kernel_rfl) (by kernel_rfl) (rf28_2 C w' hS' (Bb9.call hbw))
end
set_option maxRecDepth 100000 in
set_option maxHeartbeats 2000000 in
theorem rf28_region (Q : Exit → Act → World → Prop) (hQ : ∀ c a w n v, Q (.panic c) (a.put (some n) v) w → Q (.panic c) a w) (u : World) (z0 z1 z2 z3 z4 z6 z7 z8 z10 z11 z12 z13 z14 z15 z16 z17 z18 z19 z21 z22 z23 z24 z25 z26 z27 z28 z29 z30 z31 z32 z33 z34 z35 z36 z37 z38 z39 z40 z41 z42 z43 z44 z45 z46 z47 z48 z49 z50 z51 z52 z53 z54 z55 z56 z57 z58 z59 z60 z61 z62 z63 z64 z65 z66 z67 z68 z69 z70 z71 z72 z73 z74 z75 z76 z77 z78 z79 z80 z81 z82 z83 z84 z85 z86 z87 z88 z89 z90 z91 z92 z93 z94 z95 z96 z97 z98 z99 z100 z101 z102 z103 z104 z105 z106 z107 : Value) (zz : List Value) (b5 b9 b20 : Nat) (u0 d y : Nat) (hu0 : u0 < pP) (hy : y < pP) (hb5 : Blk u b5 (vals .u64 16 (F.dg u0)) 47) (nb5 : b5 ∉ ([b9] : List Nat)) (hb9 : Blk u b9 (vals .u64 16 (F.dg d)) 47) (hb20 : Blk u b20 (vals .u64 16 (F.dg y)) 47) (nb20 : b20 ∉ ([b9] : List Nat)) (H : ∀ (w : World), Kp [b9] u w → Blk w b9 (vals .u64 16 (F.dg (mm u0 (mm y y)))) 47 → Q .normal { tmps := List.toArray (z0 :: z1 :: z2 :: z3 :: z4 :: (.pointer (some ⟨b5, 0, none⟩)) :: z6 :: z7 :: z8 :: (.pointer (some ⟨b9, 0, none⟩)) :: z10 :: z11 :: z12 :: z13 :: z14 :: z15 :: z16 :: z17 :: z18 :: z19 :: (.pointer (some ⟨b20, 0, none⟩)) :: z21 :: z22 :: z23 :: z24 :: z25 :: z26 :: z27 :: z28 :: z29 :: z30 :: z31 :: z32 :: z33 :: z34 :: z35 :: z36 :: z37 :: z38 :: z39 :: z40 :: z41 :: z42 :: z43 :: z44 :: z45 :: z46 :: z47 :: z48 :: z49 :: z50 :: z51 :: z52 :: z53 :: z54 :: z55 :: z56 :: z57 :: z58 :: z59 :: z60 :: z61 :: z62 :: z63 :: z64 :: z65 :: z66 :: z67 :: z68 :: z69 :: z70 :: z71 :: z72 :: z73 :: z74 :: z75 :: z76 :: z77 :: z78 :: z79 :: z80 :: z81 :: z82 :: z83 :: z84 :: z85 :: z86 :: z87 :: z88 :: z89 :: z90 :: z91 :: z92 :: z93 :: z94 :: z95 :: z96 :: z97 :: z98 :: z99 :: z100 :: z101 :: z102 :: (.agg (vals .u64 16 (F.dg u0))) :: (.agg (vals .u64 16 (F.dg y))) :: (.agg (vals .u64 16 (F.dg y))) :: (.agg (vals .u64 16 (F.dg (mm y y)))) :: (.agg (vals .u64 16 (F.dg (mm u0 (mm y y))))) :: zz), defers := [] } w) :
    (Code.region 28 rf28Ops true).wp Try.prog Q { tmps := List.toArray (z0 :: z1 :: z2 :: z3 :: z4 :: (.pointer (some ⟨b5, 0, none⟩)) :: z6 :: z7 :: z8 :: (.pointer (some ⟨b9, 0, none⟩)) :: z10 :: z11 :: z12 :: z13 :: z14 :: z15 :: z16 :: z17 :: z18 :: z19 :: (.pointer (some ⟨b20, 0, none⟩)) :: z21 :: z22 :: z23 :: z24 :: z25 :: z26 :: z27 :: z28 :: z29 :: z30 :: z31 :: z32 :: z33 :: z34 :: z35 :: z36 :: z37 :: z38 :: z39 :: z40 :: z41 :: z42 :: z43 :: z44 :: z45 :: z46 :: z47 :: z48 :: z49 :: z50 :: z51 :: z52 :: z53 :: z54 :: z55 :: z56 :: z57 :: z58 :: z59 :: z60 :: z61 :: z62 :: z63 :: z64 :: z65 :: z66 :: z67 :: z68 :: z69 :: z70 :: z71 :: z72 :: z73 :: z74 :: z75 :: z76 :: z77 :: z78 :: z79 :: z80 :: z81 :: z82 :: z83 :: z84 :: z85 :: z86 :: z87 :: z88 :: z89 :: z90 :: z91 :: z92 :: z93 :: z94 :: z95 :: z96 :: z97 :: z98 :: z99 :: z100 :: z101 :: z102 :: z103 :: z104 :: z105 :: z106 :: z107 :: zz), defers := [] } u := by
  have C : rf28C Q u z0 z1 z2 z3 z4 z6 z7 z8 z10 z11 z12 z13 z14 z15 z16 z17 z18 z19 z21 z22 z23 z24 z25 z26 z27 z28 z29 z30 z31 z32 z33 z34 z35 z36 z37 z38 z39 z40 z41 z42 z43 z44 z45 z46 z47 z48 z49 z50 z51 z52 z53 z54 z55 z56 z57 z58 z59 z60 z61 z62 z63 z64 z65 z66 z67 z68 z69 z70 z71 z72 z73 z74 z75 z76 z77 z78 z79 z80 z81 z82 z83 z84 z85 z86 z87 z88 z89 z90 z91 z92 z93 z94 z95 z96 z97 z98 z99 z100 z101 z102 z103 z104 z105 z106 z107 zz b5 b9 b20 u0 d y := ⟨hQ, hu0, hy, hb5, nb5, hb9, hb20, nb20, H⟩
  refine wp_region_held_drew (S := (Kp [b9] u)) (by kernel_rfl) (Kp.drew _ u) (fun hS' => ?_)
  refine wpAnyH_take (i := 0) (oi := rf28Op0) (v := .agg (vals .u64 16 (F.dg u0))) rfl (by kernel_rfl) (by kernel_rfl) (by kernel_rfl) (fun _ _ _ => hQ _ _ _ _ _) (yields_S (fun _ h => h.keep _ _ _ nb5 hb5) (by kernel_rfl) 47 _ rfl (by kernel_rfl) _ Try.underlying47 rfl (size_rn _)) hS' ?_
  refine wpAnyH_take (i := 1) (oi := rf28Op1) (v := .agg (vals .u64 16 (F.dg y))) rfl (by kernel_rfl) (by kernel_rfl) (by kernel_rfl) (fun _ _ _ => hQ _ _ _ _ _) (yields_S (fun _ h => h.keep _ _ _ nb20 hb20) (by kernel_rfl) 47 _ rfl (by kernel_rfl) _ Try.underlying47 rfl (size_rn _)) hS' ?_
  refine wpAnyH_take (i := 2) (oi := rf28Op2) (v := .agg (vals .u64 16 (F.dg y))) rfl (by kernel_rfl) (by kernel_rfl) (by kernel_rfl) (fun _ _ _ => hQ _ _ _ _ _) (yields_S (fun _ h => h.keep _ _ _ nb20 hb20) (by kernel_rfl) 47 _ rfl (by kernel_rfl) _ Try.underlying47 rfl (size_rn _)) hS' ?_
  exact wpAnyH_at (by kernel_rfl) (by kernel_rfl) (rf28_3 C u.drew hS' hb9.drew)
def rf30Op0 : Oper := { dst := some 109, op := Op.load 47 (Operand.tmp 8), type := 47, pos := "ref.go:36", after := #[], guard := none }
def rf30Op1 : Oper := { dst := some 110, op := Op.load 47 (Operand.tmp 6), type := 47, pos := "ref.go:36", after := #[], guard := none }
def rf30Op2 : Oper := { dst := none, op := Op.store 47 (Operand.tmp 6) (Operand.tmp 109), type := 0, pos := "ref.go:36", after := #[{ on := 0, ground := Ground.data }, { on := 0, ground := Ground.phase }, { on := 1, ground := Ground.phase }], guard := none }
def rf30Op3 : Oper := { dst := none, op := Op.store 47 (Operand.tmp 8) (Operand.tmp 110), type := 0, pos := "ref.go:36", after := #[{ on := 1, ground := Ground.data }, { on := 2, ground := Ground.chain }, { on := 0, ground := Ground.phase }, { on := 1, ground := Ground.phase }, { on := 2, ground := Ground.phase }], guard := none }
def rf30Ops : Array Oper := #[rf30Op0, rf30Op1, rf30Op2, rf30Op3]
set_option maxRecDepth 100000 in
set_option maxHeartbeats 2000000 in
theorem rf30_region (Q : Exit → Act → World → Prop) (hQ : ∀ c a w n v, Q (.panic c) (a.put (some n) v) w → Q (.panic c) a w) (u : World) (z0 z1 z2 z3 z4 z5 z7 z9 z10 z11 z12 z13 z14 z15 z16 z17 z18 z19 z20 z21 z22 z23 z24 z25 z26 z27 z28 z29 z30 z31 z32 z33 z34 z35 z36 z37 z38 z39 z40 z41 z42 z43 z44 z45 z46 z47 z48 z49 z50 z51 z52 z53 z54 z55 z56 z57 z58 z59 z60 z61 z62 z63 z64 z65 z66 z67 z68 z69 z70 z71 z72 z73 z74 z75 z76 z77 z78 z79 z80 z81 z82 z83 z84 z85 z86 z87 z88 z89 z90 z91 z92 z93 z94 z95 z96 z97 z98 z99 z100 z101 z102 z103 z104 z105 z106 z107 z108 z109 z110 : Value) (zz : List Value) (b6 b8 : Nat) (a c : Nat) (hb6 : Blk u b6 (vals .u64 16 (F.dg a)) 47) (hb8 : Blk u b8 (vals .u64 16 (F.dg c)) 47) (eb6b8 : b6 ≠ b8) (H : ∀ (w : World), Kp [b6, b8] u w → Blk w b6 (vals .u64 16 (F.dg c)) 47 → Blk w b8 (vals .u64 16 (F.dg a)) 47 → Q .normal { tmps := List.toArray (z0 :: z1 :: z2 :: z3 :: z4 :: z5 :: (.pointer (some ⟨b6, 0, none⟩)) :: z7 :: (.pointer (some ⟨b8, 0, none⟩)) :: z9 :: z10 :: z11 :: z12 :: z13 :: z14 :: z15 :: z16 :: z17 :: z18 :: z19 :: z20 :: z21 :: z22 :: z23 :: z24 :: z25 :: z26 :: z27 :: z28 :: z29 :: z30 :: z31 :: z32 :: z33 :: z34 :: z35 :: z36 :: z37 :: z38 :: z39 :: z40 :: z41 :: z42 :: z43 :: z44 :: z45 :: z46 :: z47 :: z48 :: z49 :: z50 :: z51 :: z52 :: z53 :: z54 :: z55 :: z56 :: z57 :: z58 :: z59 :: z60 :: z61 :: z62 :: z63 :: z64 :: z65 :: z66 :: z67 :: z68 :: z69 :: z70 :: z71 :: z72 :: z73 :: z74 :: z75 :: z76 :: z77 :: z78 :: z79 :: z80 :: z81 :: z82 :: z83 :: z84 :: z85 :: z86 :: z87 :: z88 :: z89 :: z90 :: z91 :: z92 :: z93 :: z94 :: z95 :: z96 :: z97 :: z98 :: z99 :: z100 :: z101 :: z102 :: z103 :: z104 :: z105 :: z106 :: z107 :: z108 :: (.agg (vals .u64 16 (F.dg c))) :: (.agg (vals .u64 16 (F.dg a))) :: zz), defers := [] } w) :
    (Code.region 30 rf30Ops false).wp Try.prog Q { tmps := List.toArray (z0 :: z1 :: z2 :: z3 :: z4 :: z5 :: (.pointer (some ⟨b6, 0, none⟩)) :: z7 :: (.pointer (some ⟨b8, 0, none⟩)) :: z9 :: z10 :: z11 :: z12 :: z13 :: z14 :: z15 :: z16 :: z17 :: z18 :: z19 :: z20 :: z21 :: z22 :: z23 :: z24 :: z25 :: z26 :: z27 :: z28 :: z29 :: z30 :: z31 :: z32 :: z33 :: z34 :: z35 :: z36 :: z37 :: z38 :: z39 :: z40 :: z41 :: z42 :: z43 :: z44 :: z45 :: z46 :: z47 :: z48 :: z49 :: z50 :: z51 :: z52 :: z53 :: z54 :: z55 :: z56 :: z57 :: z58 :: z59 :: z60 :: z61 :: z62 :: z63 :: z64 :: z65 :: z66 :: z67 :: z68 :: z69 :: z70 :: z71 :: z72 :: z73 :: z74 :: z75 :: z76 :: z77 :: z78 :: z79 :: z80 :: z81 :: z82 :: z83 :: z84 :: z85 :: z86 :: z87 :: z88 :: z89 :: z90 :: z91 :: z92 :: z93 :: z94 :: z95 :: z96 :: z97 :: z98 :: z99 :: z100 :: z101 :: z102 :: z103 :: z104 :: z105 :: z106 :: z107 :: z108 :: z109 :: z110 :: zz), defers := [] } u := by
  have _ := hQ
  have _ := u
  have _ := z0
  have _ := z1
  have _ := z2
  have _ := z3
  have _ := z4
  have _ := z5
  have _ := z7
  have _ := z9
  have _ := z10
  have _ := z11
  have _ := z12
  have _ := z13
  have _ := z14
  have _ := z15
  have _ := z16
  have _ := z17
  have _ := z18
  have _ := z19
  have _ := z20
  have _ := z21
  have _ := z22
  have _ := z23
  have _ := z24
  have _ := z25
  have _ := z26
  have _ := z27
  have _ := z28
  have _ := z29
  have _ := z30
  have _ := z31
  have _ := z32
  have _ := z33
  have _ := z34
  have _ := z35
  have _ := z36
  have _ := z37
  have _ := z38
  have _ := z39
  have _ := z40
  have _ := z41
  have _ := z42
  have _ := z43
  have _ := z44
  have _ := z45
  have _ := z46
  have _ := z47
  have _ := z48
  have _ := z49
  have _ := z50
  have _ := z51
  have _ := z52
  have _ := z53
  have _ := z54
  have _ := z55
  have _ := z56
  have _ := z57
  have _ := z58
  have _ := z59
  have _ := z60
  have _ := z61
  have _ := z62
  have _ := z63
  have _ := z64
  have _ := z65
  have _ := z66
  have _ := z67
  have _ := z68
  have _ := z69
  have _ := z70
  have _ := z71
  have _ := z72
  have _ := z73
  have _ := z74
  have _ := z75
  have _ := z76
  have _ := z77
  have _ := z78
  have _ := z79
  have _ := z80
  have _ := z81
  have _ := z82
  have _ := z83
  have _ := z84
  have _ := z85
  have _ := z86
  have _ := z87
  have _ := z88
  have _ := z89
  have _ := z90
  have _ := z91
  have _ := z92
  have _ := z93
  have _ := z94
  have _ := z95
  have _ := z96
  have _ := z97
  have _ := z98
  have _ := z99
  have _ := z100
  have _ := z101
  have _ := z102
  have _ := z103
  have _ := z104
  have _ := z105
  have _ := z106
  have _ := z107
  have _ := z108
  have _ := z109
  have _ := z110
  have _ := zz
  have _ := b6
  have _ := b8
  have _ := a
  have _ := c
  have _ := hb6
  have _ := hb8
  have _ := eb6b8
  refine wp_region_list (show wpList _ rf30Ops _ [rf30Op0, rf30Op1, rf30Op2, rf30Op3] _ _ from ?_)
  have hS : Kp [b6, b8] u u := Kp.refl _ u
  have Bb6 := hb6
  have Bb8 := hb8
  refine wpList_plain rfl (fun K hK => ?_)
  refine wp_load_row 47 _ rfl b8 (by kernel_rfl) 47 _ (0, 0) _ Bb8 Try.underlying47 rfl (size_rn _) ?_
  have hS' := hS
  refine hK _ _ ?_
  clear hK K
  have qBb6 : Blk u b6 (vals .u64 16 (F.dg a)) 47 := Bb6
  have qBb8 : Blk u b8 (vals .u64 16 (F.dg c)) 47 := Bb8
  clear hS Bb6 Bb8
  have Bb6 := qBb6
  have Bb8 := qBb8
  have hS := hS'
  clear hS' qBb6 qBb8
  refine wpList_fr (a' := { tmps := List.toArray (z0 :: z1 :: z2 :: z3 :: z4 :: z5 :: (.pointer (some ⟨b6, 0, none⟩)) :: z7 :: (.pointer (some ⟨b8, 0, none⟩)) :: z9 :: z10 :: z11 :: z12 :: z13 :: z14 :: z15 :: z16 :: z17 :: z18 :: z19 :: z20 :: z21 :: z22 :: z23 :: z24 :: z25 :: z26 :: z27 :: z28 :: z29 :: z30 :: z31 :: z32 :: z33 :: z34 :: z35 :: z36 :: z37 :: z38 :: z39 :: z40 :: z41 :: z42 :: z43 :: z44 :: z45 :: z46 :: z47 :: z48 :: z49 :: z50 :: z51 :: z52 :: z53 :: z54 :: z55 :: z56 :: z57 :: z58 :: z59 :: z60 :: z61 :: z62 :: z63 :: z64 :: z65 :: z66 :: z67 :: z68 :: z69 :: z70 :: z71 :: z72 :: z73 :: z74 :: z75 :: z76 :: z77 :: z78 :: z79 :: z80 :: z81 :: z82 :: z83 :: z84 :: z85 :: z86 :: z87 :: z88 :: z89 :: z90 :: z91 :: z92 :: z93 :: z94 :: z95 :: z96 :: z97 :: z98 :: z99 :: z100 :: z101 :: z102 :: z103 :: z104 :: z105 :: z106 :: z107 :: z108 :: (.agg (vals .u64 16 (F.dg c))) :: z110 :: zz), defers := [] }) (by kernel_rfl) ?_
  refine wpList_plain rfl (fun K hK => ?_)
  refine wp_load_row 47 _ rfl b6 (by kernel_rfl) 47 _ (0, 0) _ Bb6 Try.underlying47 rfl (size_rn _) ?_
  have hS' := hS
  refine hK _ _ ?_
  clear hK K
  have qBb6 : Blk u b6 (vals .u64 16 (F.dg a)) 47 := Bb6
  have qBb8 : Blk u b8 (vals .u64 16 (F.dg c)) 47 := Bb8
  clear hS Bb6 Bb8
  have Bb6 := qBb6
  have Bb8 := qBb8
  have hS := hS'
  clear hS' qBb6 qBb8
  refine wpList_fr (a' := { tmps := List.toArray (z0 :: z1 :: z2 :: z3 :: z4 :: z5 :: (.pointer (some ⟨b6, 0, none⟩)) :: z7 :: (.pointer (some ⟨b8, 0, none⟩)) :: z9 :: z10 :: z11 :: z12 :: z13 :: z14 :: z15 :: z16 :: z17 :: z18 :: z19 :: z20 :: z21 :: z22 :: z23 :: z24 :: z25 :: z26 :: z27 :: z28 :: z29 :: z30 :: z31 :: z32 :: z33 :: z34 :: z35 :: z36 :: z37 :: z38 :: z39 :: z40 :: z41 :: z42 :: z43 :: z44 :: z45 :: z46 :: z47 :: z48 :: z49 :: z50 :: z51 :: z52 :: z53 :: z54 :: z55 :: z56 :: z57 :: z58 :: z59 :: z60 :: z61 :: z62 :: z63 :: z64 :: z65 :: z66 :: z67 :: z68 :: z69 :: z70 :: z71 :: z72 :: z73 :: z74 :: z75 :: z76 :: z77 :: z78 :: z79 :: z80 :: z81 :: z82 :: z83 :: z84 :: z85 :: z86 :: z87 :: z88 :: z89 :: z90 :: z91 :: z92 :: z93 :: z94 :: z95 :: z96 :: z97 :: z98 :: z99 :: z100 :: z101 :: z102 :: z103 :: z104 :: z105 :: z106 :: z107 :: z108 :: (.agg (vals .u64 16 (F.dg c))) :: (.agg (vals .u64 16 (F.dg a))) :: zz), defers := [] }) (by kernel_rfl) ?_
  refine wpList_plain rfl (fun K hK => ?_)
  refine wp_store_row 47 _ _ rfl b6 (vals .u64 16 (F.dg c)) (by kernel_rfl) (by kernel_rfl) 47 _ Bb6 (size_rn _) (by simp only [vals_size]) (vals_one _ _ _) ?_
  have hS' := hS.old (x := b6) (by simp) (vals .u64 16 (F.dg c))
  refine hK _ _ ?_
  clear hK K
  have qBb6 : Blk (u.setRow b6 (vals .u64 16 (F.dg c))) b6 (vals .u64 16 (F.dg c)) 47 := (Bb6.row (vals .u64 16 (F.dg c)))
  have qBb8 : Blk (u.setRow b6 (vals .u64 16 (F.dg c))) b8 (vals .u64 16 (F.dg c)) 47 := (Bb8.rowOther (vals .u64 16 (F.dg c)) eb6b8)
  clear hS Bb6 Bb8
  have Bb6 := qBb6
  have Bb8 := qBb8
  have hS := hS'
  clear hS' qBb6 qBb8
  refine wpList_fr (a' := { tmps := List.toArray (z0 :: z1 :: z2 :: z3 :: z4 :: z5 :: (.pointer (some ⟨b6, 0, none⟩)) :: z7 :: (.pointer (some ⟨b8, 0, none⟩)) :: z9 :: z10 :: z11 :: z12 :: z13 :: z14 :: z15 :: z16 :: z17 :: z18 :: z19 :: z20 :: z21 :: z22 :: z23 :: z24 :: z25 :: z26 :: z27 :: z28 :: z29 :: z30 :: z31 :: z32 :: z33 :: z34 :: z35 :: z36 :: z37 :: z38 :: z39 :: z40 :: z41 :: z42 :: z43 :: z44 :: z45 :: z46 :: z47 :: z48 :: z49 :: z50 :: z51 :: z52 :: z53 :: z54 :: z55 :: z56 :: z57 :: z58 :: z59 :: z60 :: z61 :: z62 :: z63 :: z64 :: z65 :: z66 :: z67 :: z68 :: z69 :: z70 :: z71 :: z72 :: z73 :: z74 :: z75 :: z76 :: z77 :: z78 :: z79 :: z80 :: z81 :: z82 :: z83 :: z84 :: z85 :: z86 :: z87 :: z88 :: z89 :: z90 :: z91 :: z92 :: z93 :: z94 :: z95 :: z96 :: z97 :: z98 :: z99 :: z100 :: z101 :: z102 :: z103 :: z104 :: z105 :: z106 :: z107 :: z108 :: (.agg (vals .u64 16 (F.dg c))) :: (.agg (vals .u64 16 (F.dg a))) :: zz), defers := [] }) (by kernel_rfl) ?_
  generalize (u.setRow b6 (vals .u64 16 (F.dg c))) = w2 at *
  refine wpList_plain rfl (fun K hK => ?_)
  refine wp_store_row 47 _ _ rfl b8 (vals .u64 16 (F.dg a)) (by kernel_rfl) (by kernel_rfl) 47 _ Bb8 (size_rn _) (by simp only [vals_size]) (vals_one _ _ _) ?_
  have hS' := hS.old (x := b8) (by simp) (vals .u64 16 (F.dg a))
  refine hK _ _ ?_
  clear hK K
  have qBb6 : Blk (w2.setRow b8 (vals .u64 16 (F.dg a))) b6 (vals .u64 16 (F.dg c)) 47 := (Bb6.rowOther (vals .u64 16 (F.dg a)) (Ne.symm eb6b8))
  have qBb8 : Blk (w2.setRow b8 (vals .u64 16 (F.dg a))) b8 (vals .u64 16 (F.dg a)) 47 := (Bb8.row (vals .u64 16 (F.dg a)))
  clear hS Bb6 Bb8
  have Bb6 := qBb6
  have Bb8 := qBb8
  have hS := hS'
  clear hS' qBb6 qBb8
  refine wpList_fr (a' := { tmps := List.toArray (z0 :: z1 :: z2 :: z3 :: z4 :: z5 :: (.pointer (some ⟨b6, 0, none⟩)) :: z7 :: (.pointer (some ⟨b8, 0, none⟩)) :: z9 :: z10 :: z11 :: z12 :: z13 :: z14 :: z15 :: z16 :: z17 :: z18 :: z19 :: z20 :: z21 :: z22 :: z23 :: z24 :: z25 :: z26 :: z27 :: z28 :: z29 :: z30 :: z31 :: z32 :: z33 :: z34 :: z35 :: z36 :: z37 :: z38 :: z39 :: z40 :: z41 :: z42 :: z43 :: z44 :: z45 :: z46 :: z47 :: z48 :: z49 :: z50 :: z51 :: z52 :: z53 :: z54 :: z55 :: z56 :: z57 :: z58 :: z59 :: z60 :: z61 :: z62 :: z63 :: z64 :: z65 :: z66 :: z67 :: z68 :: z69 :: z70 :: z71 :: z72 :: z73 :: z74 :: z75 :: z76 :: z77 :: z78 :: z79 :: z80 :: z81 :: z82 :: z83 :: z84 :: z85 :: z86 :: z87 :: z88 :: z89 :: z90 :: z91 :: z92 :: z93 :: z94 :: z95 :: z96 :: z97 :: z98 :: z99 :: z100 :: z101 :: z102 :: z103 :: z104 :: z105 :: z106 :: z107 :: z108 :: (.agg (vals .u64 16 (F.dg c))) :: (.agg (vals .u64 16 (F.dg a))) :: zz), defers := [] }) (by kernel_rfl) ?_
  generalize (w2.setRow b8 (vals .u64 16 (F.dg a))) = w3 at *
  refine wpList_nil ?_
  exact H  w3 hS Bb6 Bb8
def rf31Op0 : Oper := { dst := some 111, op := Op.load 47 (Operand.tmp 9), type := 47, pos := "ref.go:37", after := #[], guard := none }
def rf31Op1 : Oper := { dst := some 112, op := Op.load 47 (Operand.tmp 7), type := 47, pos := "ref.go:37", after := #[], guard := none }
def rf31Op2 : Oper := { dst := none, op := Op.store 47 (Operand.tmp 7) (Operand.tmp 111), type := 0, pos := "ref.go:37", after := #[{ on := 0, ground := Ground.data }, { on := 0, ground := Ground.phase }, { on := 1, ground := Ground.phase }], guard := none }
def rf31Op3 : Oper := { dst := none, op := Op.store 47 (Operand.tmp 9) (Operand.tmp 112), type := 0, pos := "ref.go:37", after := #[{ on := 1, ground := Ground.data }, { on := 2, ground := Ground.chain }, { on := 0, ground := Ground.phase }, { on := 1, ground := Ground.phase }, { on := 2, ground := Ground.phase }], guard := none }
def rf31Ops : Array Oper := #[rf31Op0, rf31Op1, rf31Op2, rf31Op3]
set_option maxRecDepth 100000 in
set_option maxHeartbeats 2000000 in
theorem rf31_region (Q : Exit → Act → World → Prop) (hQ : ∀ c a w n v, Q (.panic c) (a.put (some n) v) w → Q (.panic c) a w) (u : World) (z0 z1 z2 z3 z4 z5 z6 z8 z10 z11 z12 z13 z14 z15 z16 z17 z18 z19 z20 z21 z22 z23 z24 z25 z26 z27 z28 z29 z30 z31 z32 z33 z34 z35 z36 z37 z38 z39 z40 z41 z42 z43 z44 z45 z46 z47 z48 z49 z50 z51 z52 z53 z54 z55 z56 z57 z58 z59 z60 z61 z62 z63 z64 z65 z66 z67 z68 z69 z70 z71 z72 z73 z74 z75 z76 z77 z78 z79 z80 z81 z82 z83 z84 z85 z86 z87 z88 z89 z90 z91 z92 z93 z94 z95 z96 z97 z98 z99 z100 z101 z102 z103 z104 z105 z106 z107 z108 z109 z110 z111 z112 : Value) (zz : List Value) (b7 b9 : Nat) (b d : Nat) (hb7 : Blk u b7 (vals .u64 16 (F.dg b)) 47) (hb9 : Blk u b9 (vals .u64 16 (F.dg d)) 47) (eb7b9 : b7 ≠ b9) (H : ∀ (w : World), Kp [b7, b9] u w → Blk w b7 (vals .u64 16 (F.dg d)) 47 → Blk w b9 (vals .u64 16 (F.dg b)) 47 → Q .normal { tmps := List.toArray (z0 :: z1 :: z2 :: z3 :: z4 :: z5 :: z6 :: (.pointer (some ⟨b7, 0, none⟩)) :: z8 :: (.pointer (some ⟨b9, 0, none⟩)) :: z10 :: z11 :: z12 :: z13 :: z14 :: z15 :: z16 :: z17 :: z18 :: z19 :: z20 :: z21 :: z22 :: z23 :: z24 :: z25 :: z26 :: z27 :: z28 :: z29 :: z30 :: z31 :: z32 :: z33 :: z34 :: z35 :: z36 :: z37 :: z38 :: z39 :: z40 :: z41 :: z42 :: z43 :: z44 :: z45 :: z46 :: z47 :: z48 :: z49 :: z50 :: z51 :: z52 :: z53 :: z54 :: z55 :: z56 :: z57 :: z58 :: z59 :: z60 :: z61 :: z62 :: z63 :: z64 :: z65 :: z66 :: z67 :: z68 :: z69 :: z70 :: z71 :: z72 :: z73 :: z74 :: z75 :: z76 :: z77 :: z78 :: z79 :: z80 :: z81 :: z82 :: z83 :: z84 :: z85 :: z86 :: z87 :: z88 :: z89 :: z90 :: z91 :: z92 :: z93 :: z94 :: z95 :: z96 :: z97 :: z98 :: z99 :: z100 :: z101 :: z102 :: z103 :: z104 :: z105 :: z106 :: z107 :: z108 :: z109 :: z110 :: (.agg (vals .u64 16 (F.dg d))) :: (.agg (vals .u64 16 (F.dg b))) :: zz), defers := [] } w) :
    (Code.region 31 rf31Ops false).wp Try.prog Q { tmps := List.toArray (z0 :: z1 :: z2 :: z3 :: z4 :: z5 :: z6 :: (.pointer (some ⟨b7, 0, none⟩)) :: z8 :: (.pointer (some ⟨b9, 0, none⟩)) :: z10 :: z11 :: z12 :: z13 :: z14 :: z15 :: z16 :: z17 :: z18 :: z19 :: z20 :: z21 :: z22 :: z23 :: z24 :: z25 :: z26 :: z27 :: z28 :: z29 :: z30 :: z31 :: z32 :: z33 :: z34 :: z35 :: z36 :: z37 :: z38 :: z39 :: z40 :: z41 :: z42 :: z43 :: z44 :: z45 :: z46 :: z47 :: z48 :: z49 :: z50 :: z51 :: z52 :: z53 :: z54 :: z55 :: z56 :: z57 :: z58 :: z59 :: z60 :: z61 :: z62 :: z63 :: z64 :: z65 :: z66 :: z67 :: z68 :: z69 :: z70 :: z71 :: z72 :: z73 :: z74 :: z75 :: z76 :: z77 :: z78 :: z79 :: z80 :: z81 :: z82 :: z83 :: z84 :: z85 :: z86 :: z87 :: z88 :: z89 :: z90 :: z91 :: z92 :: z93 :: z94 :: z95 :: z96 :: z97 :: z98 :: z99 :: z100 :: z101 :: z102 :: z103 :: z104 :: z105 :: z106 :: z107 :: z108 :: z109 :: z110 :: z111 :: z112 :: zz), defers := [] } u := by
  have _ := hQ
  have _ := u
  have _ := z0
  have _ := z1
  have _ := z2
  have _ := z3
  have _ := z4
  have _ := z5
  have _ := z6
  have _ := z8
  have _ := z10
  have _ := z11
  have _ := z12
  have _ := z13
  have _ := z14
  have _ := z15
  have _ := z16
  have _ := z17
  have _ := z18
  have _ := z19
  have _ := z20
  have _ := z21
  have _ := z22
  have _ := z23
  have _ := z24
  have _ := z25
  have _ := z26
  have _ := z27
  have _ := z28
  have _ := z29
  have _ := z30
  have _ := z31
  have _ := z32
  have _ := z33
  have _ := z34
  have _ := z35
  have _ := z36
  have _ := z37
  have _ := z38
  have _ := z39
  have _ := z40
  have _ := z41
  have _ := z42
  have _ := z43
  have _ := z44
  have _ := z45
  have _ := z46
  have _ := z47
  have _ := z48
  have _ := z49
  have _ := z50
  have _ := z51
  have _ := z52
  have _ := z53
  have _ := z54
  have _ := z55
  have _ := z56
  have _ := z57
  have _ := z58
  have _ := z59
  have _ := z60
  have _ := z61
  have _ := z62
  have _ := z63
  have _ := z64
  have _ := z65
  have _ := z66
  have _ := z67
  have _ := z68
  have _ := z69
  have _ := z70
  have _ := z71
  have _ := z72
  have _ := z73
  have _ := z74
  have _ := z75
  have _ := z76
  have _ := z77
  have _ := z78
  have _ := z79
  have _ := z80
  have _ := z81
  have _ := z82
  have _ := z83
  have _ := z84
  have _ := z85
  have _ := z86
  have _ := z87
  have _ := z88
  have _ := z89
  have _ := z90
  have _ := z91
  have _ := z92
  have _ := z93
  have _ := z94
  have _ := z95
  have _ := z96
  have _ := z97
  have _ := z98
  have _ := z99
  have _ := z100
  have _ := z101
  have _ := z102
  have _ := z103
  have _ := z104
  have _ := z105
  have _ := z106
  have _ := z107
  have _ := z108
  have _ := z109
  have _ := z110
  have _ := z111
  have _ := z112
  have _ := zz
  have _ := b7
  have _ := b9
  have _ := b
  have _ := d
  have _ := hb7
  have _ := hb9
  have _ := eb7b9
  refine wp_region_list (show wpList _ rf31Ops _ [rf31Op0, rf31Op1, rf31Op2, rf31Op3] _ _ from ?_)
  have hS : Kp [b7, b9] u u := Kp.refl _ u
  have Bb7 := hb7
  have Bb9 := hb9
  refine wpList_plain rfl (fun K hK => ?_)
  refine wp_load_row 47 _ rfl b9 (by kernel_rfl) 47 _ (0, 0) _ Bb9 Try.underlying47 rfl (size_rn _) ?_
  have hS' := hS
  refine hK _ _ ?_
  clear hK K
  have qBb7 : Blk u b7 (vals .u64 16 (F.dg b)) 47 := Bb7
  have qBb9 : Blk u b9 (vals .u64 16 (F.dg d)) 47 := Bb9
  clear hS Bb7 Bb9
  have Bb7 := qBb7
  have Bb9 := qBb9
  have hS := hS'
  clear hS' qBb7 qBb9
  refine wpList_fr (a' := { tmps := List.toArray (z0 :: z1 :: z2 :: z3 :: z4 :: z5 :: z6 :: (.pointer (some ⟨b7, 0, none⟩)) :: z8 :: (.pointer (some ⟨b9, 0, none⟩)) :: z10 :: z11 :: z12 :: z13 :: z14 :: z15 :: z16 :: z17 :: z18 :: z19 :: z20 :: z21 :: z22 :: z23 :: z24 :: z25 :: z26 :: z27 :: z28 :: z29 :: z30 :: z31 :: z32 :: z33 :: z34 :: z35 :: z36 :: z37 :: z38 :: z39 :: z40 :: z41 :: z42 :: z43 :: z44 :: z45 :: z46 :: z47 :: z48 :: z49 :: z50 :: z51 :: z52 :: z53 :: z54 :: z55 :: z56 :: z57 :: z58 :: z59 :: z60 :: z61 :: z62 :: z63 :: z64 :: z65 :: z66 :: z67 :: z68 :: z69 :: z70 :: z71 :: z72 :: z73 :: z74 :: z75 :: z76 :: z77 :: z78 :: z79 :: z80 :: z81 :: z82 :: z83 :: z84 :: z85 :: z86 :: z87 :: z88 :: z89 :: z90 :: z91 :: z92 :: z93 :: z94 :: z95 :: z96 :: z97 :: z98 :: z99 :: z100 :: z101 :: z102 :: z103 :: z104 :: z105 :: z106 :: z107 :: z108 :: z109 :: z110 :: (.agg (vals .u64 16 (F.dg d))) :: z112 :: zz), defers := [] }) (by kernel_rfl) ?_
  refine wpList_plain rfl (fun K hK => ?_)
  refine wp_load_row 47 _ rfl b7 (by kernel_rfl) 47 _ (0, 0) _ Bb7 Try.underlying47 rfl (size_rn _) ?_
  have hS' := hS
  refine hK _ _ ?_
  clear hK K
  have qBb7 : Blk u b7 (vals .u64 16 (F.dg b)) 47 := Bb7
  have qBb9 : Blk u b9 (vals .u64 16 (F.dg d)) 47 := Bb9
  clear hS Bb7 Bb9
  have Bb7 := qBb7
  have Bb9 := qBb9
  have hS := hS'
  clear hS' qBb7 qBb9
  refine wpList_fr (a' := { tmps := List.toArray (z0 :: z1 :: z2 :: z3 :: z4 :: z5 :: z6 :: (.pointer (some ⟨b7, 0, none⟩)) :: z8 :: (.pointer (some ⟨b9, 0, none⟩)) :: z10 :: z11 :: z12 :: z13 :: z14 :: z15 :: z16 :: z17 :: z18 :: z19 :: z20 :: z21 :: z22 :: z23 :: z24 :: z25 :: z26 :: z27 :: z28 :: z29 :: z30 :: z31 :: z32 :: z33 :: z34 :: z35 :: z36 :: z37 :: z38 :: z39 :: z40 :: z41 :: z42 :: z43 :: z44 :: z45 :: z46 :: z47 :: z48 :: z49 :: z50 :: z51 :: z52 :: z53 :: z54 :: z55 :: z56 :: z57 :: z58 :: z59 :: z60 :: z61 :: z62 :: z63 :: z64 :: z65 :: z66 :: z67 :: z68 :: z69 :: z70 :: z71 :: z72 :: z73 :: z74 :: z75 :: z76 :: z77 :: z78 :: z79 :: z80 :: z81 :: z82 :: z83 :: z84 :: z85 :: z86 :: z87 :: z88 :: z89 :: z90 :: z91 :: z92 :: z93 :: z94 :: z95 :: z96 :: z97 :: z98 :: z99 :: z100 :: z101 :: z102 :: z103 :: z104 :: z105 :: z106 :: z107 :: z108 :: z109 :: z110 :: (.agg (vals .u64 16 (F.dg d))) :: (.agg (vals .u64 16 (F.dg b))) :: zz), defers := [] }) (by kernel_rfl) ?_
  refine wpList_plain rfl (fun K hK => ?_)
  refine wp_store_row 47 _ _ rfl b7 (vals .u64 16 (F.dg d)) (by kernel_rfl) (by kernel_rfl) 47 _ Bb7 (size_rn _) (by simp only [vals_size]) (vals_one _ _ _) ?_
  have hS' := hS.old (x := b7) (by simp) (vals .u64 16 (F.dg d))
  refine hK _ _ ?_
  clear hK K
  have qBb7 : Blk (u.setRow b7 (vals .u64 16 (F.dg d))) b7 (vals .u64 16 (F.dg d)) 47 := (Bb7.row (vals .u64 16 (F.dg d)))
  have qBb9 : Blk (u.setRow b7 (vals .u64 16 (F.dg d))) b9 (vals .u64 16 (F.dg d)) 47 := (Bb9.rowOther (vals .u64 16 (F.dg d)) eb7b9)
  clear hS Bb7 Bb9
  have Bb7 := qBb7
  have Bb9 := qBb9
  have hS := hS'
  clear hS' qBb7 qBb9
  refine wpList_fr (a' := { tmps := List.toArray (z0 :: z1 :: z2 :: z3 :: z4 :: z5 :: z6 :: (.pointer (some ⟨b7, 0, none⟩)) :: z8 :: (.pointer (some ⟨b9, 0, none⟩)) :: z10 :: z11 :: z12 :: z13 :: z14 :: z15 :: z16 :: z17 :: z18 :: z19 :: z20 :: z21 :: z22 :: z23 :: z24 :: z25 :: z26 :: z27 :: z28 :: z29 :: z30 :: z31 :: z32 :: z33 :: z34 :: z35 :: z36 :: z37 :: z38 :: z39 :: z40 :: z41 :: z42 :: z43 :: z44 :: z45 :: z46 :: z47 :: z48 :: z49 :: z50 :: z51 :: z52 :: z53 :: z54 :: z55 :: z56 :: z57 :: z58 :: z59 :: z60 :: z61 :: z62 :: z63 :: z64 :: z65 :: z66 :: z67 :: z68 :: z69 :: z70 :: z71 :: z72 :: z73 :: z74 :: z75 :: z76 :: z77 :: z78 :: z79 :: z80 :: z81 :: z82 :: z83 :: z84 :: z85 :: z86 :: z87 :: z88 :: z89 :: z90 :: z91 :: z92 :: z93 :: z94 :: z95 :: z96 :: z97 :: z98 :: z99 :: z100 :: z101 :: z102 :: z103 :: z104 :: z105 :: z106 :: z107 :: z108 :: z109 :: z110 :: (.agg (vals .u64 16 (F.dg d))) :: (.agg (vals .u64 16 (F.dg b))) :: zz), defers := [] }) (by kernel_rfl) ?_
  generalize (u.setRow b7 (vals .u64 16 (F.dg d))) = w2 at *
  refine wpList_plain rfl (fun K hK => ?_)
  refine wp_store_row 47 _ _ rfl b9 (vals .u64 16 (F.dg b)) (by kernel_rfl) (by kernel_rfl) 47 _ Bb9 (size_rn _) (by simp only [vals_size]) (vals_one _ _ _) ?_
  have hS' := hS.old (x := b9) (by simp) (vals .u64 16 (F.dg b))
  refine hK _ _ ?_
  clear hK K
  have qBb7 : Blk (w2.setRow b9 (vals .u64 16 (F.dg b))) b7 (vals .u64 16 (F.dg d)) 47 := (Bb7.rowOther (vals .u64 16 (F.dg b)) (Ne.symm eb7b9))
  have qBb9 : Blk (w2.setRow b9 (vals .u64 16 (F.dg b))) b9 (vals .u64 16 (F.dg b)) 47 := (Bb9.row (vals .u64 16 (F.dg b)))
  clear hS Bb7 Bb9
  have Bb7 := qBb7
  have Bb9 := qBb9
  have hS := hS'
  clear hS' qBb7 qBb9
  refine wpList_fr (a' := { tmps := List.toArray (z0 :: z1 :: z2 :: z3 :: z4 :: z5 :: z6 :: (.pointer (some ⟨b7, 0, none⟩)) :: z8 :: (.pointer (some ⟨b9, 0, none⟩)) :: z10 :: z11 :: z12 :: z13 :: z14 :: z15 :: z16 :: z17 :: z18 :: z19 :: z20 :: z21 :: z22 :: z23 :: z24 :: z25 :: z26 :: z27 :: z28 :: z29 :: z30 :: z31 :: z32 :: z33 :: z34 :: z35 :: z36 :: z37 :: z38 :: z39 :: z40 :: z41 :: z42 :: z43 :: z44 :: z45 :: z46 :: z47 :: z48 :: z49 :: z50 :: z51 :: z52 :: z53 :: z54 :: z55 :: z56 :: z57 :: z58 :: z59 :: z60 :: z61 :: z62 :: z63 :: z64 :: z65 :: z66 :: z67 :: z68 :: z69 :: z70 :: z71 :: z72 :: z73 :: z74 :: z75 :: z76 :: z77 :: z78 :: z79 :: z80 :: z81 :: z82 :: z83 :: z84 :: z85 :: z86 :: z87 :: z88 :: z89 :: z90 :: z91 :: z92 :: z93 :: z94 :: z95 :: z96 :: z97 :: z98 :: z99 :: z100 :: z101 :: z102 :: z103 :: z104 :: z105 :: z106 :: z107 :: z108 :: z109 :: z110 :: (.agg (vals .u64 16 (F.dg d))) :: (.agg (vals .u64 16 (F.dg b))) :: zz), defers := [] }) (by kernel_rfl) ?_
  generalize (w2.setRow b9 (vals .u64 16 (F.dg b))) = w3 at *
  refine wpList_nil ?_
  exact H  w3 hS Bb7 Bb9
def rf32Op0 : Oper := { dst := some 113, op := Op.load 47 (Operand.tmp 6), type := 47, pos := "ref.go:40", after := #[], guard := none }
def rf32Op1 : Oper := { dst := some 114, op := Op.load 47 (Operand.tmp 7), type := 47, pos := "ref.go:40", after := #[], guard := none }
def rf32Op2 : Oper := { dst := some 115, op := Op.call { callee := Callee.value (Operand.func 34), args := #[Operand.tmp 114], argTypes := #[47] }, type := 47, pos := "ref.go:40", after := #[{ on := 1, ground := Ground.data }], guard := none }
def rf32Op3 : Oper := { dst := some 116, op := Op.call { callee := Callee.value (Operand.func 32), args := #[Operand.tmp 113, Operand.tmp 115], argTypes := #[47, 47] }, type := 47, pos := "ref.go:40", after := #[{ on := 0, ground := Ground.data }, { on := 2, ground := Ground.data }, { on := 2, ground := Ground.chain }], guard := none }
def rf32Op4 : Oper := { dst := some 117, op := Op.call { callee := Callee.value (Operand.func 33), args := #[Operand.tmp 116], argTypes := #[47] }, type := 22, pos := "ref.go:40", after := #[{ on := 3, ground := Ground.data }, { on := 3, ground := Ground.chain }], guard := none }
def rf32Op5 : Oper := { dst := none, op := Op.store 22 (Operand.tmp 4) (Operand.tmp 117), type := 0, pos := "ref.go:40", after := #[{ on := 4, ground := Ground.data }, { on := 4, ground := Ground.chain }, { on := 0, ground := Ground.phase }, { on := 1, ground := Ground.phase }, { on := 2, ground := Ground.phase }, { on := 3, ground := Ground.phase }, { on := 4, ground := Ground.phase }], guard := none }
def rf32Ops : Array Oper := #[rf32Op0, rf32Op1, rf32Op2, rf32Op3, rf32Op4, rf32Op5]
structure rf32C (Q : Exit → Act → World → Prop) (u : World) (z0 z1 z2 z3 z5 z8 z9 z10 z11 z12 z13 z14 z15 z16 z17 z18 z19 z20 z21 z22 z23 z24 z25 z26 z27 z28 z29 z30 z31 z32 z33 z34 z35 z36 z37 z38 z39 z40 z41 z42 z43 z44 z45 z46 z47 z48 z49 z50 z51 z52 z53 z54 z55 z56 z57 z58 z59 z60 z61 z62 z63 z64 z65 z66 z67 z68 z69 z70 z71 z72 z73 z74 z75 z76 z77 z78 z79 z80 z81 z82 z83 z84 z85 z86 z87 z88 z89 z90 z91 z92 z93 z94 z95 z96 z97 z98 z99 z100 z101 z102 z103 z104 z105 z106 z107 z108 z109 z110 z111 z112 z113 z114 z115 z116 z117 : Value) (b4 b6 b7 : Nat) (a b : Nat) : Prop where
  hQ : ∀ c a w n v, Q (.panic c) (a.put (some n) v) w → Q (.panic c) a w
  ha : a < pP
  hb : b < pP
  hb4 : Blk u b4 (vals .u8 32 (fun _ => 0)) 22
  hb6 : Blk u b6 (vals .u64 16 (F.dg a)) 47
  nb6 : b6 ∉ ([b4] : List Nat)
  hb7 : Blk u b7 (vals .u64 16 (F.dg b)) 47
  nb7 : b7 ∉ ([b4] : List Nat)
  H : ∀ (w : World), Kp [b4] u w → Blk w b4 (vals .u8 32 (byt (mm a (iN b)))) 22 → Q .normal { tmps := List.toArray (z0 :: z1 :: z2 :: z3 :: (.pointer (some ⟨b4, 0, none⟩)) :: z5 :: (.pointer (some ⟨b6, 0, none⟩)) :: (.pointer (some ⟨b7, 0, none⟩)) :: z8 :: z9 :: z10 :: z11 :: z12 :: z13 :: z14 :: z15 :: z16 :: z17 :: z18 :: z19 :: z20 :: z21 :: z22 :: z23 :: z24 :: z25 :: z26 :: z27 :: z28 :: z29 :: z30 :: z31 :: z32 :: z33 :: z34 :: z35 :: z36 :: z37 :: z38 :: z39 :: z40 :: z41 :: z42 :: z43 :: z44 :: z45 :: z46 :: z47 :: z48 :: z49 :: z50 :: z51 :: z52 :: z53 :: z54 :: z55 :: z56 :: z57 :: z58 :: z59 :: z60 :: z61 :: z62 :: z63 :: z64 :: z65 :: z66 :: z67 :: z68 :: z69 :: z70 :: z71 :: z72 :: z73 :: z74 :: z75 :: z76 :: z77 :: z78 :: z79 :: z80 :: z81 :: z82 :: z83 :: z84 :: z85 :: z86 :: z87 :: z88 :: z89 :: z90 :: z91 :: z92 :: z93 :: z94 :: z95 :: z96 :: z97 :: z98 :: z99 :: z100 :: z101 :: z102 :: z103 :: z104 :: z105 :: z106 :: z107 :: z108 :: z109 :: z110 :: z111 :: z112 :: (.agg (vals .u64 16 (F.dg a))) :: (.agg (vals .u64 16 (F.dg b))) :: (.agg (vals .u64 16 (F.dg (iN b)))) :: (.agg (vals .u64 16 (F.dg (mm a (iN b))))) :: (.agg (vals .u8 32 (byt (mm a (iN b))))) :: []), defers := [] } w
section
variable {Q : Exit → Act → World → Prop} {u : World} {z0 z1 z2 z3 z5 z8 z9 z10 z11 z12 z13 z14 z15 z16 z17 z18 z19 z20 z21 z22 z23 z24 z25 z26 z27 z28 z29 z30 z31 z32 z33 z34 z35 z36 z37 z38 z39 z40 z41 z42 z43 z44 z45 z46 z47 z48 z49 z50 z51 z52 z53 z54 z55 z56 z57 z58 z59 z60 z61 z62 z63 z64 z65 z66 z67 z68 z69 z70 z71 z72 z73 z74 z75 z76 z77 z78 z79 z80 z81 z82 z83 z84 z85 z86 z87 z88 z89 z90 z91 z92 z93 z94 z95 z96 z97 z98 z99 z100 z101 z102 z103 z104 z105 z106 z107 z108 z109 z110 z111 z112 z113 z114 z115 z116 z117 : Value} {b4 b6 b7 : Nat} {a b : Nat}
set_option maxRecDepth 100000 in
set_option maxHeartbeats 2000000 in
theorem rf32_0 (C : rf32C Q u z0 z1 z2 z3 z5 z8 z9 z10 z11 z12 z13 z14 z15 z16 z17 z18 z19 z20 z21 z22 z23 z24 z25 z26 z27 z28 z29 z30 z31 z32 z33 z34 z35 z36 z37 z38 z39 z40 z41 z42 z43 z44 z45 z46 z47 z48 z49 z50 z51 z52 z53 z54 z55 z56 z57 z58 z59 z60 z61 z62 z63 z64 z65 z66 z67 z68 z69 z70 z71 z72 z73 z74 z75 z76 z77 z78 z79 z80 z81 z82 z83 z84 z85 z86 z87 z88 z89 z90 z91 z92 z93 z94 z95 z96 z97 z98 z99 z100 z101 z102 z103 z104 z105 z106 z107 z108 z109 z110 z111 z112 z113 z114 z115 z116 z117 b4 b6 b7 a b) (w : World) (hS : Kp [b4] u w) (Bb4 : Blk w b4 (vals .u8 32 (byt (mm a (iN b)))) 22) :
    wpAnyH Try.prog .any rf32Ops Q (Kp [b4] u) 0 (List.toArray (true :: true :: true :: true :: true :: true :: [])) { tmps := List.toArray (z0 :: z1 :: z2 :: z3 :: (.pointer (some ⟨b4, 0, none⟩)) :: z5 :: (.pointer (some ⟨b6, 0, none⟩)) :: (.pointer (some ⟨b7, 0, none⟩)) :: z8 :: z9 :: z10 :: z11 :: z12 :: z13 :: z14 :: z15 :: z16 :: z17 :: z18 :: z19 :: z20 :: z21 :: z22 :: z23 :: z24 :: z25 :: z26 :: z27 :: z28 :: z29 :: z30 :: z31 :: z32 :: z33 :: z34 :: z35 :: z36 :: z37 :: z38 :: z39 :: z40 :: z41 :: z42 :: z43 :: z44 :: z45 :: z46 :: z47 :: z48 :: z49 :: z50 :: z51 :: z52 :: z53 :: z54 :: z55 :: z56 :: z57 :: z58 :: z59 :: z60 :: z61 :: z62 :: z63 :: z64 :: z65 :: z66 :: z67 :: z68 :: z69 :: z70 :: z71 :: z72 :: z73 :: z74 :: z75 :: z76 :: z77 :: z78 :: z79 :: z80 :: z81 :: z82 :: z83 :: z84 :: z85 :: z86 :: z87 :: z88 :: z89 :: z90 :: z91 :: z92 :: z93 :: z94 :: z95 :: z96 :: z97 :: z98 :: z99 :: z100 :: z101 :: z102 :: z103 :: z104 :: z105 :: z106 :: z107 :: z108 :: z109 :: z110 :: z111 :: z112 :: (.agg (vals .u64 16 (F.dg a))) :: (.agg (vals .u64 16 (F.dg b))) :: (.agg (vals .u64 16 (F.dg (iN b)))) :: (.agg (vals .u64 16 (F.dg (mm a (iN b))))) :: (.agg (vals .u8 32 (byt (mm a (iN b))))) :: []), defers := [] } w := by
  exact wpAnyH_done (by kernel_rfl) (C.H  w hS Bb4) _
set_option maxRecDepth 100000 in
set_option maxHeartbeats 2000000 in
theorem rf32_1 (C : rf32C Q u z0 z1 z2 z3 z5 z8 z9 z10 z11 z12 z13 z14 z15 z16 z17 z18 z19 z20 z21 z22 z23 z24 z25 z26 z27 z28 z29 z30 z31 z32 z33 z34 z35 z36 z37 z38 z39 z40 z41 z42 z43 z44 z45 z46 z47 z48 z49 z50 z51 z52 z53 z54 z55 z56 z57 z58 z59 z60 z61 z62 z63 z64 z65 z66 z67 z68 z69 z70 z71 z72 z73 z74 z75 z76 z77 z78 z79 z80 z81 z82 z83 z84 z85 z86 z87 z88 z89 z90 z91 z92 z93 z94 z95 z96 z97 z98 z99 z100 z101 z102 z103 z104 z105 z106 z107 z108 z109 z110 z111 z112 z113 z114 z115 z116 z117 b4 b6 b7 a b) (w : World) (hS : Kp [b4] u w) (Bb4 : Blk w b4 (vals .u8 32 (fun _ => 0)) 22) :
    wpAnyH Try.prog .any rf32Ops Q (Kp [b4] u) 1 (List.toArray (true :: true :: true :: true :: true :: false :: [])) { tmps := List.toArray (z0 :: z1 :: z2 :: z3 :: (.pointer (some ⟨b4, 0, none⟩)) :: z5 :: (.pointer (some ⟨b6, 0, none⟩)) :: (.pointer (some ⟨b7, 0, none⟩)) :: z8 :: z9 :: z10 :: z11 :: z12 :: z13 :: z14 :: z15 :: z16 :: z17 :: z18 :: z19 :: z20 :: z21 :: z22 :: z23 :: z24 :: z25 :: z26 :: z27 :: z28 :: z29 :: z30 :: z31 :: z32 :: z33 :: z34 :: z35 :: z36 :: z37 :: z38 :: z39 :: z40 :: z41 :: z42 :: z43 :: z44 :: z45 :: z46 :: z47 :: z48 :: z49 :: z50 :: z51 :: z52 :: z53 :: z54 :: z55 :: z56 :: z57 :: z58 :: z59 :: z60 :: z61 :: z62 :: z63 :: z64 :: z65 :: z66 :: z67 :: z68 :: z69 :: z70 :: z71 :: z72 :: z73 :: z74 :: z75 :: z76 :: z77 :: z78 :: z79 :: z80 :: z81 :: z82 :: z83 :: z84 :: z85 :: z86 :: z87 :: z88 :: z89 :: z90 :: z91 :: z92 :: z93 :: z94 :: z95 :: z96 :: z97 :: z98 :: z99 :: z100 :: z101 :: z102 :: z103 :: z104 :: z105 :: z106 :: z107 :: z108 :: z109 :: z110 :: z111 :: z112 :: (.agg (vals .u64 16 (F.dg a))) :: (.agg (vals .u64 16 (F.dg b))) :: (.agg (vals .u64 16 (F.dg (iN b)))) :: (.agg (vals .u64 16 (F.dg (mm a (iN b))))) :: (.agg (vals .u8 32 (byt (mm a (iN b))))) :: []), defers := [] } w := by
  obtain ⟨hQ, ha, hb, hb4, hb6, nb6, hb7, nb7, _⟩ := id C
  refine wpAnyH_ready (rs := [5]) (by kernel_rfl) (by simp) ?_
  refine AllReadyH.cons (o := rf32Op5) rfl (fun K hK => ?_) AllReadyH.nil
  rw [if_pos (by rfl)]
  refine wp_store_row 22 _ _ rfl b4 (vals .u8 32 (byt (mm a (iN b)))) (by kernel_rfl) (by kernel_rfl) 22 _ Bb4 (size_by _) (by simp only [vals_size]) (vals_one _ _ _) ?_
  have hS' := hS.old (x := b4) (by simp) (vals .u8 32 (byt (mm a (iN b))))
  refine hK.out _ _ hS' (fun _ => ?_)
  exact wpAnyH_at (by kernel_rfl) (by kernel_rfl) (rf32_0 C (w.setRow b4 (vals .u8 32 (byt (mm a (iN b))))) hS' (Bb4.row (vals .u8 32 (byt (mm a (iN b))))))
set_option maxRecDepth 100000 in
set_option maxHeartbeats 2000000 in
theorem rf32_2 (C : rf32C Q u z0 z1 z2 z3 z5 z8 z9 z10 z11 z12 z13 z14 z15 z16 z17 z18 z19 z20 z21 z22 z23 z24 z25 z26 z27 z28 z29 z30 z31 z32 z33 z34 z35 z36 z37 z38 z39 z40 z41 z42 z43 z44 z45 z46 z47 z48 z49 z50 z51 z52 z53 z54 z55 z56 z57 z58 z59 z60 z61 z62 z63 z64 z65 z66 z67 z68 z69 z70 z71 z72 z73 z74 z75 z76 z77 z78 z79 z80 z81 z82 z83 z84 z85 z86 z87 z88 z89 z90 z91 z92 z93 z94 z95 z96 z97 z98 z99 z100 z101 z102 z103 z104 z105 z106 z107 z108 z109 z110 z111 z112 z113 z114 z115 z116 z117 b4 b6 b7 a b) (w : World) (hS : Kp [b4] u w) (Bb4 : Blk w b4 (vals .u8 32 (fun _ => 0)) 22) :
    wpAnyH Try.prog .any rf32Ops Q (Kp [b4] u) 2 (List.toArray (true :: true :: true :: true :: false :: false :: [])) { tmps := List.toArray (z0 :: z1 :: z2 :: z3 :: (.pointer (some ⟨b4, 0, none⟩)) :: z5 :: (.pointer (some ⟨b6, 0, none⟩)) :: (.pointer (some ⟨b7, 0, none⟩)) :: z8 :: z9 :: z10 :: z11 :: z12 :: z13 :: z14 :: z15 :: z16 :: z17 :: z18 :: z19 :: z20 :: z21 :: z22 :: z23 :: z24 :: z25 :: z26 :: z27 :: z28 :: z29 :: z30 :: z31 :: z32 :: z33 :: z34 :: z35 :: z36 :: z37 :: z38 :: z39 :: z40 :: z41 :: z42 :: z43 :: z44 :: z45 :: z46 :: z47 :: z48 :: z49 :: z50 :: z51 :: z52 :: z53 :: z54 :: z55 :: z56 :: z57 :: z58 :: z59 :: z60 :: z61 :: z62 :: z63 :: z64 :: z65 :: z66 :: z67 :: z68 :: z69 :: z70 :: z71 :: z72 :: z73 :: z74 :: z75 :: z76 :: z77 :: z78 :: z79 :: z80 :: z81 :: z82 :: z83 :: z84 :: z85 :: z86 :: z87 :: z88 :: z89 :: z90 :: z91 :: z92 :: z93 :: z94 :: z95 :: z96 :: z97 :: z98 :: z99 :: z100 :: z101 :: z102 :: z103 :: z104 :: z105 :: z106 :: z107 :: z108 :: z109 :: z110 :: z111 :: z112 :: (.agg (vals .u64 16 (F.dg a))) :: (.agg (vals .u64 16 (F.dg b))) :: (.agg (vals .u64 16 (F.dg (iN b)))) :: (.agg (vals .u64 16 (F.dg (mm a (iN b))))) :: z117 :: []), defers := [] } w := by
  obtain ⟨hQ, ha, hb, hb4, hb6, nb6, hb7, nb7, _⟩ := id C
  refine wpAnyH_ready (rs := [4]) (by kernel_rfl) (by simp) ?_
  refine AllReadyH.cons (o := rf32Op4) rfl (fun K hK => ?_) AllReadyH.nil
  rw [if_pos (by rfl)]
  refine wp_call_val 33 #[.agg (vals .u64 16 (F.dg (mm a (iN b))))] (by kernel_rfl) (.agg (vals .u8 32 (byt (mm a (iN b))))) (rbytes_c (mm a (iN b)) _) ?_
  intro w' hbw
  have hS' := hS.call hbw
  refine hK.out _ _ hS' (fun _ => ?_)
  exact wpAnyH_at (by kernel_rfl) (by kernel_rfl) (rf32_1 C w' hS' (Bb4.call hbw))
set_option maxRecDepth 100000 in
set_option maxHeartbeats 2000000 in
theorem rf32_3 (C : rf32C Q u z0 z1 z2 z3 z5 z8 z9 z10 z11 z12 z13 z14 z15 z16 z17 z18 z19 z20 z21 z22 z23 z24 z25 z26 z27 z28 z29 z30 z31 z32 z33 z34 z35 z36 z37 z38 z39 z40 z41 z42 z43 z44 z45 z46 z47 z48 z49 z50 z51 z52 z53 z54 z55 z56 z57 z58 z59 z60 z61 z62 z63 z64 z65 z66 z67 z68 z69 z70 z71 z72 z73 z74 z75 z76 z77 z78 z79 z80 z81 z82 z83 z84 z85 z86 z87 z88 z89 z90 z91 z92 z93 z94 z95 z96 z97 z98 z99 z100 z101 z102 z103 z104 z105 z106 z107 z108 z109 z110 z111 z112 z113 z114 z115 z116 z117 b4 b6 b7 a b) (w : World) (hS : Kp [b4] u w) (Bb4 : Blk w b4 (vals .u8 32 (fun _ => 0)) 22) :
    wpAnyH Try.prog .any rf32Ops Q (Kp [b4] u) 3 (List.toArray (true :: true :: true :: false :: false :: false :: [])) { tmps := List.toArray (z0 :: z1 :: z2 :: z3 :: (.pointer (some ⟨b4, 0, none⟩)) :: z5 :: (.pointer (some ⟨b6, 0, none⟩)) :: (.pointer (some ⟨b7, 0, none⟩)) :: z8 :: z9 :: z10 :: z11 :: z12 :: z13 :: z14 :: z15 :: z16 :: z17 :: z18 :: z19 :: z20 :: z21 :: z22 :: z23 :: z24 :: z25 :: z26 :: z27 :: z28 :: z29 :: z30 :: z31 :: z32 :: z33 :: z34 :: z35 :: z36 :: z37 :: z38 :: z39 :: z40 :: z41 :: z42 :: z43 :: z44 :: z45 :: z46 :: z47 :: z48 :: z49 :: z50 :: z51 :: z52 :: z53 :: z54 :: z55 :: z56 :: z57 :: z58 :: z59 :: z60 :: z61 :: z62 :: z63 :: z64 :: z65 :: z66 :: z67 :: z68 :: z69 :: z70 :: z71 :: z72 :: z73 :: z74 :: z75 :: z76 :: z77 :: z78 :: z79 :: z80 :: z81 :: z82 :: z83 :: z84 :: z85 :: z86 :: z87 :: z88 :: z89 :: z90 :: z91 :: z92 :: z93 :: z94 :: z95 :: z96 :: z97 :: z98 :: z99 :: z100 :: z101 :: z102 :: z103 :: z104 :: z105 :: z106 :: z107 :: z108 :: z109 :: z110 :: z111 :: z112 :: (.agg (vals .u64 16 (F.dg a))) :: (.agg (vals .u64 16 (F.dg b))) :: (.agg (vals .u64 16 (F.dg (iN b)))) :: z116 :: z117 :: []), defers := [] } w := by
  obtain ⟨hQ, ha, hb, hb4, hb6, nb6, hb7, nb7, _⟩ := id C
  refine wpAnyH_ready (rs := [3]) (by kernel_rfl) (by simp) ?_
  refine AllReadyH.cons (o := rf32Op3) rfl (fun K hK => ?_) AllReadyH.nil
  rw [if_pos (by rfl)]
  refine wp_call_val 32 #[.agg (vals .u64 16 (F.dg a)), .agg (vals .u64 16 (F.dg (iN b)))] (by kernel_rfl) (.agg (vals .u64 16 (F.dg (mm a (iN b))))) (rmul_c a (iN b) _ ha (iN_lt _)) ?_
  intro w' hbw
  have hS' := hS.call hbw
  refine hK.out _ _ hS' (fun _ => ?_)
  exact wpAnyH_at (by kernel_rfl) (by kernel_rfl) (rf32_2 C w' hS' (Bb4.call hbw))
set_option maxRecDepth 100000 in
set_option maxHeartbeats 2000000 in
theorem rf32_4 (C : rf32C Q u z0 z1 z2 z3 z5 z8 z9 z10 z11 z12 z13 z14 z15 z16 z17 z18 z19 z20 z21 z22 z23 z24 z25 z26 z27 z28 z29 z30 z31 z32 z33 z34 z35 z36 z37 z38 z39 z40 z41 z42 z43 z44 z45 z46 z47 z48 z49 z50 z51 z52 z53 z54 z55 z56 z57 z58 z59 z60 z61 z62 z63 z64 z65 z66 z67 z68 z69 z70 z71 z72 z73 z74 z75 z76 z77 z78 z79 z80 z81 z82 z83 z84 z85 z86 z87 z88 z89 z90 z91 z92 z93 z94 z95 z96 z97 z98 z99 z100 z101 z102 z103 z104 z105 z106 z107 z108 z109 z110 z111 z112 z113 z114 z115 z116 z117 b4 b6 b7 a b) (w : World) (hS : Kp [b4] u w) (Bb4 : Blk w b4 (vals .u8 32 (fun _ => 0)) 22) :
    wpAnyH Try.prog .any rf32Ops Q (Kp [b4] u) 4 (List.toArray (true :: true :: false :: false :: false :: false :: [])) { tmps := List.toArray (z0 :: z1 :: z2 :: z3 :: (.pointer (some ⟨b4, 0, none⟩)) :: z5 :: (.pointer (some ⟨b6, 0, none⟩)) :: (.pointer (some ⟨b7, 0, none⟩)) :: z8 :: z9 :: z10 :: z11 :: z12 :: z13 :: z14 :: z15 :: z16 :: z17 :: z18 :: z19 :: z20 :: z21 :: z22 :: z23 :: z24 :: z25 :: z26 :: z27 :: z28 :: z29 :: z30 :: z31 :: z32 :: z33 :: z34 :: z35 :: z36 :: z37 :: z38 :: z39 :: z40 :: z41 :: z42 :: z43 :: z44 :: z45 :: z46 :: z47 :: z48 :: z49 :: z50 :: z51 :: z52 :: z53 :: z54 :: z55 :: z56 :: z57 :: z58 :: z59 :: z60 :: z61 :: z62 :: z63 :: z64 :: z65 :: z66 :: z67 :: z68 :: z69 :: z70 :: z71 :: z72 :: z73 :: z74 :: z75 :: z76 :: z77 :: z78 :: z79 :: z80 :: z81 :: z82 :: z83 :: z84 :: z85 :: z86 :: z87 :: z88 :: z89 :: z90 :: z91 :: z92 :: z93 :: z94 :: z95 :: z96 :: z97 :: z98 :: z99 :: z100 :: z101 :: z102 :: z103 :: z104 :: z105 :: z106 :: z107 :: z108 :: z109 :: z110 :: z111 :: z112 :: (.agg (vals .u64 16 (F.dg a))) :: (.agg (vals .u64 16 (F.dg b))) :: z115 :: z116 :: z117 :: []), defers := [] } w := by
  obtain ⟨hQ, ha, hb, hb4, hb6, nb6, hb7, nb7, _⟩ := id C
  refine wpAnyH_ready (rs := [2]) (by kernel_rfl) (by simp) ?_
  refine AllReadyH.cons (o := rf32Op2) rfl (fun K hK => ?_) AllReadyH.nil
  rw [if_pos (by rfl)]
  refine wp_call_val 34 #[.agg (vals .u64 16 (F.dg b))] (by kernel_rfl) (.agg (vals .u64 16 (F.dg (iN b)))) (rinv_c b _ hb) ?_
  intro w' hbw
  have hS' := hS.call hbw
  refine hK.out _ _ hS' (fun _ => ?_)
  exact wpAnyH_at (by kernel_rfl) (by kernel_rfl) (rf32_3 C w' hS' (Bb4.call hbw))
end
set_option maxRecDepth 100000 in
set_option maxHeartbeats 2000000 in
theorem rf32_region (Q : Exit → Act → World → Prop) (hQ : ∀ c a w n v, Q (.panic c) (a.put (some n) v) w → Q (.panic c) a w) (u : World) (z0 z1 z2 z3 z5 z8 z9 z10 z11 z12 z13 z14 z15 z16 z17 z18 z19 z20 z21 z22 z23 z24 z25 z26 z27 z28 z29 z30 z31 z32 z33 z34 z35 z36 z37 z38 z39 z40 z41 z42 z43 z44 z45 z46 z47 z48 z49 z50 z51 z52 z53 z54 z55 z56 z57 z58 z59 z60 z61 z62 z63 z64 z65 z66 z67 z68 z69 z70 z71 z72 z73 z74 z75 z76 z77 z78 z79 z80 z81 z82 z83 z84 z85 z86 z87 z88 z89 z90 z91 z92 z93 z94 z95 z96 z97 z98 z99 z100 z101 z102 z103 z104 z105 z106 z107 z108 z109 z110 z111 z112 z113 z114 z115 z116 z117 : Value) (b4 b6 b7 : Nat) (a b : Nat) (ha : a < pP) (hb : b < pP) (hb4 : Blk u b4 (vals .u8 32 (fun _ => 0)) 22) (hb6 : Blk u b6 (vals .u64 16 (F.dg a)) 47) (nb6 : b6 ∉ ([b4] : List Nat)) (hb7 : Blk u b7 (vals .u64 16 (F.dg b)) 47) (nb7 : b7 ∉ ([b4] : List Nat)) (H : ∀ (w : World), Kp [b4] u w → Blk w b4 (vals .u8 32 (byt (mm a (iN b)))) 22 → Q .normal { tmps := List.toArray (z0 :: z1 :: z2 :: z3 :: (.pointer (some ⟨b4, 0, none⟩)) :: z5 :: (.pointer (some ⟨b6, 0, none⟩)) :: (.pointer (some ⟨b7, 0, none⟩)) :: z8 :: z9 :: z10 :: z11 :: z12 :: z13 :: z14 :: z15 :: z16 :: z17 :: z18 :: z19 :: z20 :: z21 :: z22 :: z23 :: z24 :: z25 :: z26 :: z27 :: z28 :: z29 :: z30 :: z31 :: z32 :: z33 :: z34 :: z35 :: z36 :: z37 :: z38 :: z39 :: z40 :: z41 :: z42 :: z43 :: z44 :: z45 :: z46 :: z47 :: z48 :: z49 :: z50 :: z51 :: z52 :: z53 :: z54 :: z55 :: z56 :: z57 :: z58 :: z59 :: z60 :: z61 :: z62 :: z63 :: z64 :: z65 :: z66 :: z67 :: z68 :: z69 :: z70 :: z71 :: z72 :: z73 :: z74 :: z75 :: z76 :: z77 :: z78 :: z79 :: z80 :: z81 :: z82 :: z83 :: z84 :: z85 :: z86 :: z87 :: z88 :: z89 :: z90 :: z91 :: z92 :: z93 :: z94 :: z95 :: z96 :: z97 :: z98 :: z99 :: z100 :: z101 :: z102 :: z103 :: z104 :: z105 :: z106 :: z107 :: z108 :: z109 :: z110 :: z111 :: z112 :: (.agg (vals .u64 16 (F.dg a))) :: (.agg (vals .u64 16 (F.dg b))) :: (.agg (vals .u64 16 (F.dg (iN b)))) :: (.agg (vals .u64 16 (F.dg (mm a (iN b))))) :: (.agg (vals .u8 32 (byt (mm a (iN b))))) :: []), defers := [] } w) :
    (Code.region 32 rf32Ops true).wp Try.prog Q { tmps := List.toArray (z0 :: z1 :: z2 :: z3 :: (.pointer (some ⟨b4, 0, none⟩)) :: z5 :: (.pointer (some ⟨b6, 0, none⟩)) :: (.pointer (some ⟨b7, 0, none⟩)) :: z8 :: z9 :: z10 :: z11 :: z12 :: z13 :: z14 :: z15 :: z16 :: z17 :: z18 :: z19 :: z20 :: z21 :: z22 :: z23 :: z24 :: z25 :: z26 :: z27 :: z28 :: z29 :: z30 :: z31 :: z32 :: z33 :: z34 :: z35 :: z36 :: z37 :: z38 :: z39 :: z40 :: z41 :: z42 :: z43 :: z44 :: z45 :: z46 :: z47 :: z48 :: z49 :: z50 :: z51 :: z52 :: z53 :: z54 :: z55 :: z56 :: z57 :: z58 :: z59 :: z60 :: z61 :: z62 :: z63 :: z64 :: z65 :: z66 :: z67 :: z68 :: z69 :: z70 :: z71 :: z72 :: z73 :: z74 :: z75 :: z76 :: z77 :: z78 :: z79 :: z80 :: z81 :: z82 :: z83 :: z84 :: z85 :: z86 :: z87 :: z88 :: z89 :: z90 :: z91 :: z92 :: z93 :: z94 :: z95 :: z96 :: z97 :: z98 :: z99 :: z100 :: z101 :: z102 :: z103 :: z104 :: z105 :: z106 :: z107 :: z108 :: z109 :: z110 :: z111 :: z112 :: z113 :: z114 :: z115 :: z116 :: z117 :: []), defers := [] } u := by
  have C : rf32C Q u z0 z1 z2 z3 z5 z8 z9 z10 z11 z12 z13 z14 z15 z16 z17 z18 z19 z20 z21 z22 z23 z24 z25 z26 z27 z28 z29 z30 z31 z32 z33 z34 z35 z36 z37 z38 z39 z40 z41 z42 z43 z44 z45 z46 z47 z48 z49 z50 z51 z52 z53 z54 z55 z56 z57 z58 z59 z60 z61 z62 z63 z64 z65 z66 z67 z68 z69 z70 z71 z72 z73 z74 z75 z76 z77 z78 z79 z80 z81 z82 z83 z84 z85 z86 z87 z88 z89 z90 z91 z92 z93 z94 z95 z96 z97 z98 z99 z100 z101 z102 z103 z104 z105 z106 z107 z108 z109 z110 z111 z112 z113 z114 z115 z116 z117 b4 b6 b7 a b := ⟨hQ, ha, hb, hb4, hb6, nb6, hb7, nb7, H⟩
  refine wp_region_held_drew (S := (Kp [b4] u)) (by kernel_rfl) (Kp.drew _ u) (fun hS' => ?_)
  refine wpAnyH_take (i := 0) (oi := rf32Op0) (v := .agg (vals .u64 16 (F.dg a))) rfl (by kernel_rfl) (by kernel_rfl) (by kernel_rfl) (fun _ _ _ => hQ _ _ _ _ _) (yields_S (fun _ h => h.keep _ _ _ nb6 hb6) (by kernel_rfl) 47 _ rfl (by kernel_rfl) _ Try.underlying47 rfl (size_rn _)) hS' ?_
  refine wpAnyH_take (i := 1) (oi := rf32Op1) (v := .agg (vals .u64 16 (F.dg b))) rfl (by kernel_rfl) (by kernel_rfl) (by kernel_rfl) (fun _ _ _ => hQ _ _ _ _ _) (yields_S (fun _ h => h.keep _ _ _ nb7 hb7) (by kernel_rfl) 47 _ rfl (by kernel_rfl) _ Try.underlying47 rfl (size_rn _)) hS' ?_
  exact wpAnyH_at (by kernel_rfl) (by kernel_rfl) (rf32_4 C u.drew hS' hb4.drew)
set_option maxRecDepth 100000 in
set_option maxHeartbeats 2000000 in
theorem sw1 (Q : Exit → Act → World → Prop) (hQ : ∀ c a w n v, Q (.panic c) (a.put (some n) v) w → Q (.panic c) a w) (u : World) (z0 z1 z2 z3 z4 z5 z10 z11 z12 z13 z14 z15 z16 z17 z18 z19 z20 z21 z22 z23 z24 z25 z26 z27 z28 z29 z30 z31 z32 z33 z34 z35 z36 z37 z38 z39 z40 z41 z42 z43 z44 z45 z46 z47 z48 z49 z50 z51 z52 z53 z55 z56 z57 z58 z59 z60 z61 z62 z63 z64 z65 z66 z67 z68 z69 z70 z71 z72 z73 z74 z75 z76 z77 z78 z79 z80 z81 z82 z83 z84 z85 z86 z87 z88 z89 z90 z91 z92 z93 z94 z95 z96 z97 z98 z99 z100 z101 z102 z103 z104 z105 z106 z107 z108 z109 z110 z111 z112 z113 z114 z115 z116 z117 : Value) (b6 b7 b8 b9 a b c d : Nat) (bit : Bool) (h6 : Blk u b6 (vals .u64 16 (F.dg a)) 47) (h7 : Blk u b7 (vals .u64 16 (F.dg b)) 47) (h8 : Blk u b8 (vals .u64 16 (F.dg c)) 47) (h9 : Blk u b9 (vals .u64 16 (F.dg d)) 47) (l67 : b6 < b7) (l78 : b7 < b8) (l89 : b8 < b9)
    (H : ∀ (y55 y56 y57 y58 : Value) (w : World), Kp [b6, b7, b8, b9] u w → Blk w b6 (vals .u64 16 (F.dg (cond bit c a))) 47 → Blk w b7 (vals .u64 16 (F.dg (cond bit d b))) 47 → Blk w b8 (vals .u64 16 (F.dg (cond bit a c))) 47 → Blk w b9 (vals .u64 16 (F.dg (cond bit b d))) 47 → Q .normal { tmps := List.toArray (z0 :: z1 :: z2 :: z3 :: z4 :: z5 :: (.pointer (some ⟨b6, 0, none⟩)) :: (.pointer (some ⟨b7, 0, none⟩)) :: (.pointer (some ⟨b8, 0, none⟩)) :: (.pointer (some ⟨b9, 0, none⟩)) :: z10 :: z11 :: z12 :: z13 :: z14 :: z15 :: z16 :: z17 :: z18 :: z19 :: z20 :: z21 :: z22 :: z23 :: z24 :: z25 :: z26 :: z27 :: z28 :: z29 :: z30 :: z31 :: z32 :: z33 :: z34 :: z35 :: z36 :: z37 :: z38 :: z39 :: z40 :: z41 :: z42 :: z43 :: z44 :: z45 :: z46 :: z47 :: z48 :: z49 :: z50 :: z51 :: z52 :: z53 :: (.bool bit) :: y55 :: y56 :: y57 :: y58 :: z59 :: z60 :: z61 :: z62 :: z63 :: z64 :: z65 :: z66 :: z67 :: z68 :: z69 :: z70 :: z71 :: z72 :: z73 :: z74 :: z75 :: z76 :: z77 :: z78 :: z79 :: z80 :: z81 :: z82 :: z83 :: z84 :: z85 :: z86 :: z87 :: z88 :: z89 :: z90 :: z91 :: z92 :: z93 :: z94 :: z95 :: z96 :: z97 :: z98 :: z99 :: z100 :: z101 :: z102 :: z103 :: z104 :: z105 :: z106 :: z107 :: z108 :: z109 :: z110 :: z111 :: z112 :: z113 :: z114 :: z115 :: z116 :: z117 :: []), defers := [] } w) :
    (Code.cond (Operand.tmp 54) ((Code.region 14 rf14Ops false).seq (Code.region 15 rf15Ops false)) Code.skip).wp Try.prog Q { tmps := List.toArray (z0 :: z1 :: z2 :: z3 :: z4 :: z5 :: (.pointer (some ⟨b6, 0, none⟩)) :: (.pointer (some ⟨b7, 0, none⟩)) :: (.pointer (some ⟨b8, 0, none⟩)) :: (.pointer (some ⟨b9, 0, none⟩)) :: z10 :: z11 :: z12 :: z13 :: z14 :: z15 :: z16 :: z17 :: z18 :: z19 :: z20 :: z21 :: z22 :: z23 :: z24 :: z25 :: z26 :: z27 :: z28 :: z29 :: z30 :: z31 :: z32 :: z33 :: z34 :: z35 :: z36 :: z37 :: z38 :: z39 :: z40 :: z41 :: z42 :: z43 :: z44 :: z45 :: z46 :: z47 :: z48 :: z49 :: z50 :: z51 :: z52 :: z53 :: (.bool bit) :: z55 :: z56 :: z57 :: z58 :: z59 :: z60 :: z61 :: z62 :: z63 :: z64 :: z65 :: z66 :: z67 :: z68 :: z69 :: z70 :: z71 :: z72 :: z73 :: z74 :: z75 :: z76 :: z77 :: z78 :: z79 :: z80 :: z81 :: z82 :: z83 :: z84 :: z85 :: z86 :: z87 :: z88 :: z89 :: z90 :: z91 :: z92 :: z93 :: z94 :: z95 :: z96 :: z97 :: z98 :: z99 :: z100 :: z101 :: z102 :: z103 :: z104 :: z105 :: z106 :: z107 :: z108 :: z109 :: z110 :: z111 :: z112 :: z113 :: z114 :: z115 :: z116 :: z117 :: []), defers := [] } u := by
  cases bit
  · have h := H z55 z56 z57 z58 u (Kp.refl _ u) h6 h7 h8 h9
    clear H
    go_wp2_with fail
    exact h
  · have HH := hide H
    clear H
    go_upto_region 14 with (fail)
    refine rf14_region _ (by intro _ _ _ _ _ h; exact hQ _ _ _ _ _ h) u _ _ _ _ _ _ _ _ _ _ _ _ _ _ _ _ _ _ _ _ _ _ _ _ _ _ _ _ _ _ _ _ _ _ _ _ _ _ _ _ _ _ _ _ _ _ _ _ _ _ _ _ _ _ _ _ b6 b8 a c h6 h8 (by omega) ?_
    intro w1 hK1 C6 C8
    have C7 := hK1.keep _ _ _ (not_two (by omega) (by omega)) h7
    have C9 := hK1.keep _ _ _ (not_two (by omega) (by omega)) h9
    go_upto_region 15 with (fail)
    refine rf15_region _ (by intro _ _ _ _ _ h; exact hQ _ _ _ _ _ h) w1 _ _ _ _ _ _ _ _ _ _ _ _ _ _ _ _ _ _ _ _ _ _ _ _ _ _ _ _ _ _ _ _ _ _ _ _ _ _ _ _ _ _ _ _ _ _ _ _ _ _ _ _ _ _ _ _ _ _ b7 b9 b d C7 C9 (by omega) ?_
    intro w2 hK2 D7 D9
    have D6 := hK2.keep _ _ _ (not_two (by omega) (by omega)) C6
    have D8 := hK2.keep _ _ _ (not_two (by omega) (by omega)) C8
    have hk := hK1.trans hK2 (Z := [b6, b7, b8, b9]) (by intro x hx; simp at hx ⊢; omega) (by intro x hx; simp at hx ⊢; omega)
    have h := HH.out (.agg (vals .u64 16 (F.dg c))) (.agg (vals .u64 16 (F.dg a))) (.agg (vals .u64 16 (F.dg d))) (.agg (vals .u64 16 (F.dg b))) w2 hk D6 D7 D8 D9
    clear HH
    go_wp2_with fail
    exact h
set_option maxRecDepth 100000 in
set_option maxHeartbeats 2000000 in
theorem sw2 (Q : Exit → Act → World → Prop) (hQ : ∀ c a w n v, Q (.panic c) (a.put (some n) v) w → Q (.panic c) a w) (u : World) (z0 z1 z2 z3 z4 z5 z10 z11 z12 z13 z14 z15 z16 z17 z18 z19 z20 z21 z22 z23 z24 z25 z26 z27 z28 z29 z30 z31 z32 z33 z34 z35 z36 z37 z38 z39 z40 z41 z42 z43 z44 z45 z46 z47 z48 z49 z50 z51 z52 z53 z54 z55 z56 z57 z58 z59 z60 z61 z62 z63 z64 z65 z66 z67 z68 z69 z70 z71 z72 z73 z74 z75 z76 z77 z78 z79 z80 z81 z82 z83 z84 z85 z86 z87 z88 z89 z90 z91 z92 z93 z94 z95 z96 z97 z98 z99 z100 z101 z102 z103 z104 z105 z106 z107 z109 z110 z111 z112 z113 z114 z115 z116 z117 : Value) (b6 b7 b8 b9 a b c d : Nat) (bit : Bool) (h6 : Blk u b6 (vals .u64 16 (F.dg a)) 47) (h7 : Blk u b7 (vals .u64 16 (F.dg b)) 47) (h8 : Blk u b8 (vals .u64 16 (F.dg c)) 47) (h9 : Blk u b9 (vals .u64 16 (F.dg d)) 47) (l67 : b6 < b7) (l78 : b7 < b8) (l89 : b8 < b9)
    (H : ∀ (y109 y110 y111 y112 : Value) (w : World), Kp [b6, b7, b8, b9] u w → Blk w b6 (vals .u64 16 (F.dg (cond bit c a))) 47 → Blk w b7 (vals .u64 16 (F.dg (cond bit d b))) 47 → Blk w b8 (vals .u64 16 (F.dg (cond bit a c))) 47 → Blk w b9 (vals .u64 16 (F.dg (cond bit b d))) 47 → Q .normal { tmps := List.toArray (z0 :: z1 :: z2 :: z3 :: z4 :: z5 :: (.pointer (some ⟨b6, 0, none⟩)) :: (.pointer (some ⟨b7, 0, none⟩)) :: (.pointer (some ⟨b8, 0, none⟩)) :: (.pointer (some ⟨b9, 0, none⟩)) :: z10 :: z11 :: z12 :: z13 :: z14 :: z15 :: z16 :: z17 :: z18 :: z19 :: z20 :: z21 :: z22 :: z23 :: z24 :: z25 :: z26 :: z27 :: z28 :: z29 :: z30 :: z31 :: z32 :: z33 :: z34 :: z35 :: z36 :: z37 :: z38 :: z39 :: z40 :: z41 :: z42 :: z43 :: z44 :: z45 :: z46 :: z47 :: z48 :: z49 :: z50 :: z51 :: z52 :: z53 :: z54 :: z55 :: z56 :: z57 :: z58 :: z59 :: z60 :: z61 :: z62 :: z63 :: z64 :: z65 :: z66 :: z67 :: z68 :: z69 :: z70 :: z71 :: z72 :: z73 :: z74 :: z75 :: z76 :: z77 :: z78 :: z79 :: z80 :: z81 :: z82 :: z83 :: z84 :: z85 :: z86 :: z87 :: z88 :: z89 :: z90 :: z91 :: z92 :: z93 :: z94 :: z95 :: z96 :: z97 :: z98 :: z99 :: z100 :: z101 :: z102 :: z103 :: z104 :: z105 :: z106 :: z107 :: (.bool bit) :: y109 :: y110 :: y111 :: y112 :: z113 :: z114 :: z115 :: z116 :: z117 :: []), defers := [] } w) :
    (Code.cond (Operand.tmp 108) ((Code.region 30 rf30Ops false).seq (Code.region 31 rf31Ops false)) Code.skip).wp Try.prog Q { tmps := List.toArray (z0 :: z1 :: z2 :: z3 :: z4 :: z5 :: (.pointer (some ⟨b6, 0, none⟩)) :: (.pointer (some ⟨b7, 0, none⟩)) :: (.pointer (some ⟨b8, 0, none⟩)) :: (.pointer (some ⟨b9, 0, none⟩)) :: z10 :: z11 :: z12 :: z13 :: z14 :: z15 :: z16 :: z17 :: z18 :: z19 :: z20 :: z21 :: z22 :: z23 :: z24 :: z25 :: z26 :: z27 :: z28 :: z29 :: z30 :: z31 :: z32 :: z33 :: z34 :: z35 :: z36 :: z37 :: z38 :: z39 :: z40 :: z41 :: z42 :: z43 :: z44 :: z45 :: z46 :: z47 :: z48 :: z49 :: z50 :: z51 :: z52 :: z53 :: z54 :: z55 :: z56 :: z57 :: z58 :: z59 :: z60 :: z61 :: z62 :: z63 :: z64 :: z65 :: z66 :: z67 :: z68 :: z69 :: z70 :: z71 :: z72 :: z73 :: z74 :: z75 :: z76 :: z77 :: z78 :: z79 :: z80 :: z81 :: z82 :: z83 :: z84 :: z85 :: z86 :: z87 :: z88 :: z89 :: z90 :: z91 :: z92 :: z93 :: z94 :: z95 :: z96 :: z97 :: z98 :: z99 :: z100 :: z101 :: z102 :: z103 :: z104 :: z105 :: z106 :: z107 :: (.bool bit) :: z109 :: z110 :: z111 :: z112 :: z113 :: z114 :: z115 :: z116 :: z117 :: []), defers := [] } u := by
  cases bit
  · have h := H z109 z110 z111 z112 u (Kp.refl _ u) h6 h7 h8 h9
    clear H
    go_wp2_with fail
    exact h
  · have HH := hide H
    clear H
    go_upto_region 30 with (fail)
    refine rf30_region _ (by intro _ _ _ _ _ h; exact hQ _ _ _ _ _ h) u _ _ _ _ _ _ _ _ _ _ _ _ _ _ _ _ _ _ _ _ _ _ _ _ _ _ _ _ _ _ _ _ _ _ _ _ _ _ _ _ _ _ _ _ _ _ _ _ _ _ _ _ _ _ _ _ _ _ _ _ _ _ _ _ _ _ _ _ _ _ _ _ _ _ _ _ _ _ _ _ _ _ _ _ _ _ _ _ _ _ _ _ _ _ _ _ _ _ _ _ _ _ _ _ _ _ _ _ _ _ b6 b8 a c h6 h8 (by omega) ?_
    intro w1 hK1 C6 C8
    have C7 := hK1.keep _ _ _ (not_two (by omega) (by omega)) h7
    have C9 := hK1.keep _ _ _ (not_two (by omega) (by omega)) h9
    go_upto_region 31 with (fail)
    refine rf31_region _ (by intro _ _ _ _ _ h; exact hQ _ _ _ _ _ h) w1 _ _ _ _ _ _ _ _ _ _ _ _ _ _ _ _ _ _ _ _ _ _ _ _ _ _ _ _ _ _ _ _ _ _ _ _ _ _ _ _ _ _ _ _ _ _ _ _ _ _ _ _ _ _ _ _ _ _ _ _ _ _ _ _ _ _ _ _ _ _ _ _ _ _ _ _ _ _ _ _ _ _ _ _ _ _ _ _ _ _ _ _ _ _ _ _ _ _ _ _ _ _ _ _ _ _ _ _ _ _ _ _ b7 b9 b d C7 C9 (by omega) ?_
    intro w2 hK2 D7 D9
    have D6 := hK2.keep _ _ _ (not_two (by omega) (by omega)) C6
    have D8 := hK2.keep _ _ _ (not_two (by omega) (by omega)) C8
    have hk := hK1.trans hK2 (Z := [b6, b7, b8, b9]) (by intro x hx; simp at hx ⊢; omega) (by intro x hx; simp at hx ⊢; omega)
    have h := HH.out (.agg (vals .u64 16 (F.dg c))) (.agg (vals .u64 16 (F.dg a))) (.agg (vals .u64 16 (F.dg d))) (.agg (vals .u64 16 (F.dg b))) w2 hk D6 D7 D8 D9
    clear HH
    go_wp2_with fail
    exact h
end Go.Proofs.Ytidhffaphbiapaa
