/- The reference: helpers. No conditions but those that each names. -/
import Derived.Test.YtanahjoiilfcbaaDoorAp
namespace Go.Proofs.YtanahjoiilfcbaaDoor.C
set_option maxRecDepth 100000
open Go.RowKit Rg

section
variable {b : Bool} {ops : Array Oper} {sts : List Nat} {F : Nu → Act} {u : World} {L : Nat → Nu → List Row} {i : Nat} {o : Oper}
/-- One cell of an older row. -/
theorem nco (v : Value) {ty : TypeId} {x : Operand} {bk k : Nat} {c : Array Value} {t : TypeId} (hB : Blk u bk c t) (hg : c[k]? = some v) (hu : ∀ w, (isAgg ty).run Tryd.prog w = .ok false w) (ho : o.op = .load ty x := by rfl) (hx : ∀ ν, (F ν).eval x = E bk k := by intro ν; kernel_rfl)
    (hv : ∀ ν, vof (F ν) o = v := by intro ν; kernel_rfl) (hw : ∀ ν, Region.wanted o (yielded ops (F ν).tmps) = true := by intro ν; kernel_rfl) (hn : sts.contains i = false := by kernel_rfl) : Ob b Tryd.prog ops sts F (OI u L) i o :=
  nw 0 sts.length (fun _ => v) (fun _ ν w _ _ hO => ld_cell ty hu ho (hx ν) (((hB.call (Own.low hO)).cell k).trans hg)) (by simp [win]) hv hw hn
end
section
variable {ρ : Operand → Value} {o : Oper} {x y z : Operand}
theorem b_c58 {k : Nat} (hk : k < 256) (w : World) (ho : o.op = .convert 5 31 x := by rfl) (hx : ρ x = Nv .u8 k := by kernel_rfl) : (execOp ρ o).run Tryd.prog w = .ok (.value (Nv .u32 k)) w := by
  have h1 : IntKind.u32.wrap (k : Int) = (k : Int) := by rw [IntKind.wrap_u32']; omega
  unfold execOp
  simp only [ho, hx]
  go_simp
theorem b_shl8 {k : Nat} (hk : k < 256) (w : World) (ho : o.op = .binOp .shl 31 x y 65 := by rfl) (hx : ρ x = Nv .u32 k := by kernel_rfl) (hy : ρ y = .int .u64 8 := by kernel_rfl) : (execOp ρ o).run Tryd.prog w = .ok (.value (Nv .u32 (k * 256))) w := by
  have h1 : IntKind.u32.wrap ((k : Int) * 256) = (k : Int) * 256 := by rw [IntKind.wrap_u32']; omega
  unfold execOp
  simp only [ho, hx, hy]
  go_simp
theorem b_shl16 {k : Nat} (hk : k < 256) (w : World) (ho : o.op = .binOp .shl 31 x y 65 := by rfl) (hx : ρ x = Nv .u32 k := by kernel_rfl) (hy : ρ y = .int .u64 16 := by kernel_rfl) : (execOp ρ o).run Tryd.prog w = .ok (.value (Nv .u32 (k * 65536))) w := by
  have h1 : IntKind.u32.wrap ((k : Int) * 65536) = (k : Int) * 65536 := by rw [IntKind.wrap_u32']; omega
  unfold execOp
  simp only [ho, hx, hy]
  go_simp
theorem b_shl24 {k : Nat} (hk : k < 256) (w : World) (ho : o.op = .binOp .shl 31 x y 65 := by rfl) (hx : ρ x = Nv .u32 k := by kernel_rfl) (hy : ρ y = .int .u64 24 := by kernel_rfl) : (execOp ρ o).run Tryd.prog w = .ok (.value (Nv .u32 (k * 16777216))) w := by
  have h1 : IntKind.u32.wrap ((k : Int) * 16777216) = (k : Int) * 16777216 := by rw [IntKind.wrap_u32']; omega
  unfold execOp
  simp only [ho, hx, hy]
  go_simp
theorem b_kadd {k m : Nat} (hk : k < 1000) (hm : m < 100) (w : World) (ho : o.op = .binOp .add 3 x y 3 := by rfl) (hx : ρ x = Nv .i64 m := by kernel_rfl) (hy : ρ y = Nv .i64 k := by kernel_rfl) : (execOp ρ o).run Tryd.prog w = .ok (.value (Nv .i64 (m + k))) w := by
  have h1 : IntKind.i64.wrap ((m : Int) + (k : Int)) = (m : Int) + (k : Int) := by unfold IntKind.wrap; simp [IntKind.bits, IntKind.signed]; omega
  unfold execOp
  simp only [ho, hx, hy]
  go_simp
theorem b_rem4 {k : Nat} (w : World) (ho : o.op = .binOp .rem 3 x y 3 := by rfl) (hx : ρ x = Nv .i64 k := by kernel_rfl) (hy : ρ y = .int .i64 4 := by kernel_rfl) : (execOp ρ o).run Tryd.prog w = .ok (.value (Nv .i64 (k % 4))) w := by
  have h1 : (k : Int).tmod 4 = ((k % 4 : Nat) : Int) := by rw [Int.tmod_eq_emod_of_nonneg (by omega)]; omega
  unfold execOp
  simp only [ho, hx, hy]
  go_simp
theorem b_quo4 {k : Nat} (hk : k < 1000) (w : World) (ho : o.op = .binOp .quo 3 x y 3 := by rfl) (hx : ρ x = Nv .i64 k := by kernel_rfl) (hy : ρ y = .int .i64 4 := by kernel_rfl) : (execOp ρ o).run Tryd.prog w = .ok (.value (Nv .i64 (k / 4))) w := by
  have h1 : (k : Int).tdiv 4 = ((k / 4 : Nat) : Int) := by rw [Int.tdiv_eq_ediv_of_nonneg (by omega)]; omega
  have h2 : IntKind.i64.wrap ((k : Int) / 4) = (k : Int) / 4 := by unfold IntKind.wrap; simp [IntKind.bits, IntKind.signed]; omega
  unfold execOp
  simp only [ho, hx, hy]
  go_simp
theorem b_m8 {k : Nat} (hk : k < 1000) (w : World) (ho : o.op = .binOp .mul 3 x y 3 := by rfl) (hx : ρ x = .int .i64 8 := by kernel_rfl) (hy : ρ y = Nv .i64 k := by kernel_rfl) : (execOp ρ o).run Tryd.prog w = .ok (.value (Nv .i64 (8 * k))) w := by
  have h1 : IntKind.i64.wrap (8 * (k : Int)) = 8 * (k : Int) := by unfold IntKind.wrap; simp [IntKind.bits, IntKind.signed]; omega
  unfold execOp
  simp only [ho, hx, hy]
  go_simp
theorem b_cu {k : Nat} (hk : k < 1000) (w : World) (ho : o.op = .convert 3 65 x := by rfl) (hx : ρ x = Nv .i64 k := by kernel_rfl) : (execOp ρ o).run Tryd.prog w = .ok (.value (Nv .u64 k)) w := by
  have h1 : IntKind.u64.wrap (k : Int) = (k : Int) := by rw [wrap_u64']; omega
  unfold execOp
  simp only [ho, hx]
  go_simp
theorem b_shr {k s : Nat} (hs : s < 32) (w : World) (ho : o.op = .binOp .shr 31 x y 65 := by rfl) (hx : ρ x = Nv .u32 k := by kernel_rfl) (hy : ρ y = Nv .u64 s := by kernel_rfl) : (execOp ρ o).run Tryd.prog w = .ok (.value (Nv .u32 (k / 2 ^ s))) w := by
  have h1 : (0 : Int) ≤ (s : Int) := by omega
  have h2 : (s : Int) < 32 := by omega
  have h3 : min s 32 = s := by omega
  unfold execOp
  simp only [ho, hx, hy]
  go_simp
theorem b_c248 {k : Nat} (w : World) (ho : o.op = .convert 31 5 x := by rfl) (hx : ρ x = Nv .u32 k := by kernel_rfl) : (execOp ρ o).run Tryd.prog w = .ok (.value (Nv .u8 (k % 256))) w := by
  have h1 : IntKind.u8.wrap (k : Int) = (k : Int) % 256 := by rw [IntKind.wrap_u8']
  unfold execOp
  simp only [ho, hx]
  go_simp
/-! A part of an array of bytes, as a slice. -/
theorem b_sla23 {q l m : Nat} (hm : l + m ≤ 32) (h0 : 0 < m) (w : World) (ho : o.op = .slice 23 x (some y) (some z) none := by rfl) (hx : ρ x = D q := by kernel_rfl) (hy : ρ y = Nv .i64 l := by kernel_rfl) (hz : ρ z = Nv .i64 (l + m) := by kernel_rfl) : (execOp ρ o).run Tryd.prog w = .ok (.value (.slice (some ⟨q, l, none⟩) m (32 - l))) w := by
  have h1 : (0 : Int) ≤ (l : Int) := by omega
  have h2 : (l : Int) ≤ ((l + m : Nat) : Int) := by omega
  have h3 : ((l + m : Nat) : Int) ≤ 32 := by omega
  have h2' : (l : Int) ≤ (l : Int) + (m : Int) := by omega
  have h3' : (l : Int) + (m : Int) ≤ 32 := by omega
  have h4 : ¬ 32 = l := by omega
  have h6 : l + m - l = m := by omega
  have h7 : ((l : Int) + (m : Int)).toNat = l + m := by omega
  unfold execOp
  rw [ho]
  dsimp only [Option.map]
  rw [hx, hy, hz]
  go_simp
theorem b_sla25 {q l m : Nat} (hm : l + m ≤ 12) (h0 : 0 < m) (w : World) (ho : o.op = .slice 24 x (some y) (some z) none := by rfl) (hx : ρ x = D q := by kernel_rfl) (hy : ρ y = Nv .i64 l := by kernel_rfl) (hz : ρ z = Nv .i64 (l + m) := by kernel_rfl) : (execOp ρ o).run Tryd.prog w = .ok (.value (.slice (some ⟨q, l, none⟩) m (12 - l))) w := by
  have h1 : (0 : Int) ≤ (l : Int) := by omega
  have h2 : (l : Int) ≤ ((l + m : Nat) : Int) := by omega
  have h3 : ((l + m : Nat) : Int) ≤ 12 := by omega
  have h2' : (l : Int) ≤ (l : Int) + (m : Int) := by omega
  have h3' : (l : Int) + (m : Int) ≤ 12 := by omega
  have h4 : ¬ 12 = l := by omega
  have h6 : l + m - l = m := by omega
  have h7 : ((l : Int) + (m : Int)).toNat = l + m := by omega
  unfold execOp
  rw [ho]
  dsimp only [Option.map]
  rw [hx, hy, hz]
  go_simp
end
theorem le_ad {g : Nat → Nat} (hg : ∀ i, g i < 256) (o : Nat) : ad (ad (ad (g o) (g (o + 1) * 256)) (g (o + 2) * 65536)) (g (o + 3) * 16777216) = le4 g o := by
  have := hg o; have := hg (o + 1); have := hg (o + 2); have := hg (o + 3)
  unfold ad le4
  omega
end Go.Proofs.YtanahjoiilfcbaaDoor.C
