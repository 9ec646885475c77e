/- What the lengths that Lengths tells weigh. No conditions but those that each names. -/
import Derived.Test.YtkljpidlfddgbaaTb
import Derived.Test.YtkljpidlfddgbaaRj
import Derived.Test.YtkljpidlfddgbaaRi
namespace Go.Proofs.Ytkljpidlfddgbaa
set_option maxRecDepth 100000
open Go.RowKit Rg B

namespace B
theorem shl_iu {ρ : Operand → Value} {o : Oper} {x y : Operand} {a s d : Nat} (h : a * 2 ^ s = d) (hd : d < 9223372036854775808) (hs : s < 64) (w : World) (ho : o.op = .binOp .shl 3 x y 29 := by rfl) (hx : ρ x = Nv .i64 a := by kernel_rfl) (hy : ρ y = Nv .u64 s := by kernel_rfl) : (execOp ρ o).run Try.prog w = .ok (.value (Nv .i64 d)) w := by
  have h0 : (0 : Int) ≤ (s : Int) := by omega
  have h3 : (s : Int) < 64 := by omega
  have h4 : min s 64 = s := by omega
  have h1 : IntKind.i64.wrap ((a : Int) * 2 ^ s) = (d : Int) := by rw [show (a : Int) * 2 ^ s = ((a * 2 ^ s : Nat) : Int) by simp, h]; exact w_i64 _ hd
  clear h
  unfold execOp
  simp only [ho, hx, hy]
  go_simp
end B
namespace Q
open H
section
variable {cn : Nat → Nat} {n L : Nat}
theorem okC_tl (hL1 : 1 ≤ L) (hL : L ≤ 15) (hm : many cn n ≤ 2 ^ L) : okC cn (zt cn n L) L n := fun i hi => by
  have := tl_fit hL1 hL hm i hi
  unfold zt
  omega
theorem cst_tl : cst cn (zt cn n L) n = H.sg n fun i => cn i * tl cn n L i := sg_congr fun i _ => by
  show cn i * ((tl cn n L i : Nat) : Int).toNat = _
  rw [Int.toNat_natCast]
theorem rsg_nz : ((rsg cn n).map cn).Perm (nz cn n) := by
  rw [← pz_map]
  exact (rsg_perm cn n).map cn
theorem up_rsg : Up (fun x : Nat => x) ((rsg cn n).map cn) := by
  have h := rsg_up cn n
  unfold Up at *
  rw [List.pairwise_map]
  exact h
theorem cst_wl (hL1 : 1 ≤ L) (hL : L ≤ 15) (hm : many cn n ≤ 2 ^ L) (h2 : 2 ≤ many cn n) {s : List Nat} (hs : Up (fun x : Nat => x) s) (hp : s.Perm (nz cn n)) : cst cn (zt cn n L) n = wLeast s L := by
  have e : (rsg cn n).map cn = s := up_one up_rsg hs (rsg_nz.trans hp.symm)
  have h := ((tl_ok (c := cn) (n := n) hL1 hL (by rw [rsg_len]; exact hm)).2.2 (by rw [rsg_len]; exact h2)).2
  rw [cst_tl, h, ← e]
  unfold wLeast
  rw [List.length_map]
theorem cst_none (h0 : many cn n = 0) : cst cn (zt cn n L) n = 0 := by
  have h : ∀ i, i < n → cn i = 0 := fun i hi => by
    by_cases hc : cn i = 0
    · exact hc
    · have := rsg_in.2 ⟨hi, hc⟩
      have hl := rsg_len cn n
      rw [h0] at hl
      rw [List.length_eq_zero_iff.1 hl] at this
      cases this
  rw [cst_tl, sg_congr (h := fun _ => 0) fun i hi => by rw [h i hi, Nat.zero_mul], sg_const, Nat.mul_zero]
theorem cst_lower {z : Nat → Int} (hL1 : 1 ≤ L) (hL : L ≤ 15) (hm : many cn n ≤ 2 ^ L) (h2 : 2 ≤ many cn n) (h : okC cn z L n) (hr : room (ln z) n ≤ 2 ^ 15) : cst cn (zt cn n L) n ≤ cst cn z n := by
  rw [cst_wl hL1 hL hm h2 up_rsg rsg_nz]
  exact cost_lower hL up_rsg rsg_nz h hr
theorem CostT_c {S T : Option Addr} {c d : Nat} (hn : n ≤ 1000) (hL1 : 1 ≤ L) (hL : L ≤ 15) (hm : many cn n ≤ 2 ^ L) (hcn : ∀ i, cn i < 4294967296) (w : World) (hS : Rc w S n (H.nw cn)) (hT : Rc w T n (zi (zt cn n L))) : Ret 15 #[.slice S n c, .slice T n d, Nv .i64 L] w (.tuple #[Nv .u64 (cst cn (zt cn n L) n), .bool true]) := by
  refine (Cost_c hn hL hcn w hS hT).mono fun e w' hh => ?_
  obtain ⟨v, he, ⟨_, hv⟩ | ⟨hno, _⟩, hb⟩ := hh
  · exact ⟨hv ▸ he, hb⟩
  · exact absurd (okC_tl hL1 hL hm) hno
theorem RoomT_c {S : Option Addr} {c : Nat} {z : Nat → Int} (hz : ∀ i, i < n → 0 ≤ z i ∧ z i ≤ 15) (hn : n ≤ 2 ^ 30) (w : World) (hS : Rc w S n (zi z)) : Ret 16 #[.slice S n c] w (Nv .i64 (room (ln z) n)) :=
  Room_c (ln_le z) hn w (hS.congr fun i hi => by
    unfold zi H.ni
    rw [ln_eq (hz i hi)])
theorem many_next (k : Nat) : many cn (k + 1) = many cn k + if 1 ≤ cn k then 1 else 0 := rfl
end
end Q
end Go.Proofs.Ytkljpidlfddgbaa
