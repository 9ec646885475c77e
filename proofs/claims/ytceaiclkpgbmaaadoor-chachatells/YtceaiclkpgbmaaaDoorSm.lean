/- Parts of slices, strings and their comparison. No conditions but those that each names. -/
import Derived.Test.YtceaiclkpgbmaaaDoorKh
namespace Go.Proofs.YtceaiclkpgbmaaaDoor
set_option maxRecDepth 100000
open Go.RowKit Rg

theorem rds_part {w : World} {q n o m : Nat} {t : TypeId} {f : Nat → Nat} (h : Blk w q (vals .u8 n f) t) (hm : o + m ≤ n) : Rds w (some ⟨q, o, none⟩) (li m fun j => f (o + j)) := by
  refine Or.inr ⟨⟨q, o, none⟩, rfl, h.lt, fun i x hx => ?_⟩
  have hi : i < m := by
    have := (List.getElem?_eq_some_iff.1 hx).1
    rwa [li_len] at this
  have : x = f (o + i) := by
    simp [li, hi] at hx; exact hx.symm
  subst this
  rw [Addr.add_mid, h.cell, vals_get _ _ _ _ (by omega)]
section
variable {ρ : Operand → Value} {o : Oper} {x y z : Operand}
theorem b_m64 {k : Nat} (hk : k < 1000) (w : World) (ho : o.op = .binOp .mul 3 x y 3 := by rfl) (hx : ρ x = .int .i64 64 := by kernel_rfl) (hy : ρ y = Nv .i64 k := by kernel_rfl) : (execOp ρ o).run Tryd.prog w = .ok (.value (Nv .i64 (64 * k))) w := by
  have h1 : IntKind.i64.wrap (64 * (k : Int)) = 64 * (k : Int) := by unfold IntKind.wrap; simp [IntKind.bits, IntKind.signed]; omega
  unfold execOp
  simp only [ho, hx, hy]
  go_simp
theorem b_p64 {k : Nat} (hk : k < 100000) (w : World) (ho : o.op = .binOp .add 3 x y 3 := by rfl) (hx : ρ x = Nv .i64 k := by kernel_rfl) (hy : ρ y = .int .i64 64 := by kernel_rfl) : (execOp ρ o).run Tryd.prog w = .ok (.value (Nv .i64 (k + 64))) w := by
  have h1 : IntKind.i64.wrap ((k : Int) + 64) = (k : Int) + 64 := by unfold IntKind.wrap; simp [IntKind.bits, IntKind.signed]; omega
  unfold execOp
  simp only [ho, hx, hy]
  go_simp
theorem b_slm {q l m n c : Nat} (hm : l + m ≤ n) (hc : n ≤ c) (h0 : 0 < m) (w : World) (ho : o.op = .slice 26 x (some y) (some z) none := by rfl) (hx : ρ x = .slice (some ⟨q, 0, none⟩) n c := by kernel_rfl) (hy : ρ y = Nv .i64 l := by kernel_rfl) (hz : ρ z = Nv .i64 (l + m) := by kernel_rfl) : (execOp ρ o).run Tryd.prog w = .ok (.value (.slice (some ⟨q, l, none⟩) m (c - l))) w := by
  have h4 : ¬ c = l := by omega
  have e : (Instr.slice 26 (.slice (some ⟨q, 0, none⟩) n c) (some (Nv .i64 l)) (some (Nv .i64 (l + m))) none).run Tryd.prog w = .ok (.slice (some ⟨q, l, none⟩) m (c - l)) w := by
    rw [run_slice_lh w 26 (some ⟨q, 0, none⟩) n c (by kernel_rfl) .i64 .i64 (l : Int) ((l + m : Nat) : Int) (by omega) (by omega) (by omega), show (sizeOf (Tryd.prog.elem 26)).run Tryd.prog w = .ok 1 w by rfl]
    simp [Result.andThen, sliced, h4, Addr.add]
    by_cases hl : l = 0
    · simp [hl]
    · simp [hl]; omega
  have e' : (Instr.sliceAt 26 (.slice (some ⟨q, 0, none⟩) n c) (some (Nv .i64 l)) (some (Nv .i64 (l + m))) none).run Tryd.prog w = .ok (.slice (some ⟨q, l, none⟩) m (c - l)) w := by
    have := e
    unfold Instr.sliceAt
    go_simp
  unfold execOp
  rw [ho]
  dsimp only [Option.map]
  rw [hx, hy, hz, Sem.run_bind, e']
  rfl
theorem b_seq {s t : ByteArray} (h : s = t) (w : World) (ho : o.op = .binOp .eql 9 x y 9 := by rfl) (hx : ρ x = .string s := by kernel_rfl) (hy : ρ y = .string t := by kernel_rfl) : (execOp ρ o).run Tryd.prog w = .ok (.value (.bool true)) w := by
  subst h
  unfold execOp
  simp only [ho, hx, hy]
  go_simp
theorem b_sne {s t : ByteArray} (h : s = t) (w : World) (ho : o.op = .binOp .neq 9 x y 9 := by rfl) (hx : ρ x = .string s := by kernel_rfl) (hy : ρ y = .string t := by kernel_rfl) : (execOp ρ o).run Tryd.prog w = .ok (.value (.bool false)) w := by
  subst h
  unfold execOp
  simp only [ho, hx, hy]
  go_simp
theorem sk_size (k : List Nat) : (sk k).size = k.length := by simp [sk, ByteArray.size]
theorem b_cat {k l : List Nat} (hb : k.length + l.length ≤ 100000) (w : World) (ho : o.op = .binOp .add 9 x y 9 := by rfl) (hx : ρ x = .string (sk k) := by kernel_rfl) (hy : ρ y = .string (sk l) := by kernel_rfl) : (execOp ρ o).run Tryd.prog w = .ok (.value (.string (sk (k ++ l)))) w := by
  have h : sk k ++ sk l = sk (k ++ l) := by
    unfold sk
    apply ByteArray.ext
    rw [ByteArray.data_append]
    simp
  have h2 : (sk k).size + (sk l).size ≤ 9223372036854775807 := by rw [sk_size, sk_size]; omega
  unfold execOp
  simp only [ho, hx, hy]
  go_simp
end
section
variable {b : Bool} {ops : Array Oper} {sts : List Nat} {F : Nu → Act} {u : World} {L : Nat → Nu → List Row} {i : Nat} {o : Oper}
/-- A part of a row, told as a string. -/
theorem nst (lo hi j : Nat) (q : Nu → Nat) (off m c n : Nat) (f : Nat → Nat) (hf : ∀ i, f i < 256) (hm : off + m ≤ n) {x : Operand} (hL : ∀ s, lo ≤ s → s ≤ hi → ∀ ν, (L s ν)[j]? = some (q ν, vals .u8 n f, (rowAt (L lo ν) j).2.2)) (ho : o.op = .convert 26 9 x := by rfl) (hx : ∀ ν, (F ν).eval x = .slice (some ⟨q ν, off, none⟩) m c := by intro ν; kernel_rfl)
    (hwin : win b ops sts i lo hi = true := by kernel_rfl) (hv : ∀ ν, vof (F ν) o = .string (sk (li m fun j => f (off + j))) := by intro ν; kernel_rfl) (hw : ∀ ν, Region.wanted o (yielded ops (F ν).tmps) = true := by intro ν; kernel_rfl) (hn : sts.contains i = false := by kernel_rfl) : Ob b Tryd.prog ops sts F (OI u L) i o :=
  nw lo hi (fun _ => .string (sk (li m fun j => f (off + j)))) (fun s ν w h1 h2 hO => b_str w (rds_part (Own.row hO j (hL s h1 h2 ν)) hm) (li_lt _ _ fun _ => hf _) (li_len _ _) ho (hx ν)) hwin hv hw hn
/-- What came in, told as a string. -/
theorem nsr {A : Option Addr} {l : List Nat} {n c : Nat} {x : Operand} (hS : Rds u A l) (hl : ∀ x ∈ l, x < 256) (hln : l.length = n) (ho : o.op = .convert 26 9 x := by rfl) (hx : ∀ ν, (F ν).eval x = .slice A n c := by intro ν; kernel_rfl)
    (hv : ∀ ν, vof (F ν) o = .string (sk l) := by intro ν; kernel_rfl) (hw : ∀ ν, Region.wanted o (yielded ops (F ν).tmps) = true := by intro ν; kernel_rfl) (hn : sts.contains i = false := by kernel_rfl) : Ob b Tryd.prog ops sts F (OI u L) i o :=
  nw 0 sts.length (fun _ => .string (sk l)) (fun _ ν w _ _ hO => b_str w (hS.low (Own.low hO)) hl hln ho (hx ν)) (by simp [win]) hv hw hn
end
set_option maxHeartbeats 400000 in
theorem names_walk (w : World) (hG : Gl w 0 (vals .i64 32 pl)) : Ret 3 #[] w (.bool true) := by
  have HG := hide hG
  clear hG
  go_enter Tryd.func3, Tryd.ntmps3
  go_wp2_with (go_at_call 8; refine (awake_c w HG.out).mono ?_; rintro e w1 ⟨rfl, hb⟩; dsimp only)
  go_ret
  exact ⟨rfl, hb⟩
end Go.Proofs.YtceaiclkpgbmaaaDoor
