/- MacKeys' walk, given the contracts. -/
import Derived.Test.YtaegklfomecmfaaDoorMk
namespace Go.Proofs.YtaegklfomecmfaaDoor
open Go.RowKit

theorem wpList_app2 {P : Program} {w : World} {ops : Array Oper} {rest : List Oper} {o : Oper} {a : Act} {Q : Exit → Act → World → Prop} (hgd : o.guard = none) (d s : Operand) (t u : TypeId) (ho : o.op = .call { callee := .builtin .append, args := #[d, s], argTypes := #[t, u] })
    {v x v' : Value} {w' : World} (hd : a.eval d = v) (hs : a.eval s = x) (hrun : ∀ ty, (Builtin.append_ #[t, u] ty #[v, x]).run P w = .ok v' w') (h : wpList P ops Q rest (a.put o.dst v') w') : wpList P ops Q (o :: rest) a w := by
  refine wpList_plain hgd fun K hK => ?_
  unfold Oper.wp
  simp [execOp, ho, resolve, invoke, builtin, hd, hs, hrun, Result.andThen]
  exact hK _ _ h
set_option maxRecDepth 100000 in
set_option maxHeartbeats 1000000 in
theorem mkeys_walk (h0 : SumOk) (h1 : AwakeOk) (A B : Option Addr) (k l : List Nat) (ca cb m : Nat) (w : World) (hG : Glob w) (hm : m < 256) (hA : Rds w A k) (hcap : k.length ≤ ca) (hk : ∀ x ∈ k, x < 256) (hB : Rds w B l) (hcb : l.length ≤ cb) (hl : ∀ x ∈ l, x < 256) :
    Calls Tryd.prog 5 #[.slice A k.length ca, .int .u8 m, .slice B l.length cb] w fun e w' => e = .returned (.bool true) ∧ Below w.heap.size w w' := by
  have H0 := hide h0
  have H1 := hide h1
  have HG := hide hG
  have Hm := hide hm
  have HA := hide hA
  have Hca := hide hcap
  have Hk := hide hk
  have HB := hide hB
  have Hcb := hide hcb
  have Hl := hide hl
  clear h0 h1 hG hm hA hcap hk hB hcb hl
  go_enter Tryd.func5, Tryd.ntmps5
  go_upto_region 2 with (go_at_call 8; refine (H1.out _ _ rfl HG.out).mono ?_; rintro e w1 ⟨rfl, hb⟩; have L1 := hide hb; clear hb; dsimp only)
  clear H1
  by_cases hlk : 128 < k.length
  · have hi : (128 : Int) < (k.length : Int) := by omega
    go_wp2
    go_ret
    exact ⟨rfl, L1.out⟩
  have hi : ¬ (128 : Int) < (k.length : Int) := by omega
  have Hlk := hide hlk
  by_cases hll : 1000 < l.length
  · have hj : (1000 : Int) < (l.length : Int) := by omega
    go_wp2
    go_ret
    exact ⟨rfl, L1.out⟩
  have hj : ¬ (1000 : Int) < (l.length : Int) := by omega
  have Hll := hide hll
  have hw1 : wrap64 (m : Int) = (m : Int) := by have := Hm.out; unfold wrap64; omega
  obtain ⟨d, hd⟩ : ∃ d, d = 128 - k.length := ⟨_, rfl⟩
  have hs1 : IntKind.i64.wrap (128 - (k.length : Int)) = (d : Int) := by rw [wrap_i64_small' _ (by omega) (by omega)]; omega
  obtain ⟨n, hn⟩ : ∃ n, n = min m d := ⟨_, rfl⟩
  have Hn : Hid (k.length + n ≤ 128) := hide (by omega)
  have Hmn := hide hn
  clear hlk hll hn hd
  go_upto_region 4 with (fail)
  go_cut [8] (fun s wc => s = .int .i64 (n : Nat) ∧ w1 = wc)
  case first =>
    by_cases hmd : m ≤ d
    · have e : n = m := by have := Hmn.out; omega
      have h3 : (m : Int) ≤ (d : Int) := by omega
      have h4 : ¬ (d : Int) < (m : Int) := by omega
      go_wp2
      go_meet
      exact ⟨by rw [e], rfl⟩
    · have e : n = d := by have := Hmn.out; omega
      have h3 : ¬ (m : Int) ≤ (d : Int) := by omega
      have h4 : (d : Int) < (m : Int) := by omega
      go_wp2
      go_meet
      exact ⟨by rw [e], rfl⟩
  obtain ⟨rfl, rfl⟩ := hcut
  clear hw1 hs1
  obtain ⟨A2, c2, w2, r2, o2, s2, l2⟩ := app_bytes (w := w1.alloc (.cells #[] 5)) (B := w1.heap.size) (vs := []) (own_lit (Blk.new w1 #[] 5) (Nat.le_refl _)) (by simp) A k ca (HA.out.low (L1.out.alloc L1.out.size _)) (Or.inr rfl) (by have := Hlk.out; simp; omega)
  have L2 := hide (keepLow2 L1.out (l2 w1 ((Below.refl _ w1).alloc (Nat.le_refl _) _)))
  have B2 := l2 w1 ((Below.refl _ w1).alloc (Nat.le_refl _) _)
  simp only [List.nil_append, List.length_nil, Nat.zero_add] at r2 o2
  obtain ⟨A3, c3, w3, r3, o3, s3, l3⟩ := app_zeros o2 B2.size n (by have := Hn.out; omega)
  have L3 := hide (keepLow2 L1.out (l3 w1 B2))
  obtain ⟨A4, c4, e4, hc4, hR4, _⟩ := own_rds o3
  injection e4 with e5 _ e6
  subst e5 e6
  have R2 := hide r2
  have R3 := hide r3
  have S3 := hide hR4
  have C3 := hide hc4
  have T3 : Hid ((k ++ List.replicate n 0).length = k.length + n) := hide (by simp)
  clear r2 o2 s2 l2 B2 r3 o3 s3 l3 hR4 hc4
  go_upto_region 6 with (first
    | (at_builtin; refine wpList_app2 rfl _ _ 22 22 rfl rfl rfl R2.out ?_)
    | (at_builtin; refine wpList_app2 rfl _ _ 22 3 rfl rfl rfl R3.out ?_))
  obtain ⟨q, hq⟩ : ∃ q, q = k ++ List.replicate n 0 := ⟨_, rfl⟩
  rw [← hq] at S3 C3 T3
  obtain ⟨f, hf⟩ : ∃ f, f = mc k l := ⟨_, rfl⟩
  have Hf := hide hf
  have Hf2 : Hid (f = mc q l) := hide (by rw [hf, hq, mc_zeros k l n Hn.out])
  have Hq : Hid (∀ x ∈ q, x < 256) := hide (fun x hx => by
    rw [hq] at hx
    rcases List.mem_append.1 hx with h | h
    · exact Hk.out x h
    · rw [(List.mem_replicate.1 h).2]; omega)
  clear hf hq
  have q1 := eq_self f
  go_wp2_with (first
    | (go_at_call 9; refine (mac_onef f H0.out A3 B q l Hf2.out c3 cb w3.heap.size 22 _ _ (by rw [T3.out]) (Blk.new w3 _ _) (HG.out.low (L3.out.alloc L3.out.size _)) (S3.out.low ((Below.refl _ w3).alloc (Nat.le_refl _) _)) C3.out Hq.out (HB.out.low (L3.out.alloc L3.out.size _)) Hcb.out Hl.out (by rw [T3.out]; have := Hn.out; omega) (by have := Hll.out; omega)).mono ?_; rintro e k21 ⟨rfl, hb⟩; have L_21 := hide (keepLow2 (L3.out.alloc L3.out.size _) hb); clear hb L3; dsimp only)
    | (go_at_call 9; refine (mac_onef f H0.out A B k l Hf.out ca cb k21.heap.size 22 _ _ rfl (Blk.new k21 _ _) (HG.out.low (L_21.out.alloc L_21.out.size _)) (HA.out.low (L_21.out.alloc L_21.out.size _)) Hca.out Hk.out (HB.out.low (L_21.out.alloc L_21.out.size _)) Hcb.out Hl.out (by have := Hn.out; omega) (by have := Hll.out; omega)).mono ?_; rintro e k22 ⟨rfl, hb⟩; have L_22 := hide (keepLow2 (L_21.out.alloc L_21.out.size _) hb); clear hb L_21; dsimp only))
  go_ret
  exact ⟨rfl, L_22.out⟩
end Go.Proofs.YtaegklfomecmfaaDoor
