/- awake: the calls whose answers the document fixes, told. -/
import Derived.Test.YtplckpmicoohnaaDoorCk
namespace Go.Proofs.YtplckpmicoohnaaDoor
open Go.RowKit

set_option maxRecDepth 100000 in
set_option maxHeartbeats 2000000 in
theorem awake_any (w : World) (hG : Glob w) :
    Calls Tryd.prog 8 #[] w fun e w' => e = .returned (.bool true) ∧ Below w.heap.size w w' := by
  have HG := hide hG
  clear hG
  have hz1 := zero24
  have hcv := conv22 (Blk.new w #[.int .u8 97, .int .u8 98, .int .u8 99] 5).cel 3 3
  have C0 := hide ((Blk.new w #[.int .u8 97, .int .u8 98, .int .u8 99] 5).cel.freeze ⟨w.heap.size, (#[.int .u8 97, .int .u8 98, .int .u8 99] : Array Value).size, none⟩)
  have L0 := hide (Below.freeze ((Below.refl _ w).alloc (Nat.le_refl _) (.cells #[.int .u8 97, .int .u8 98, .int .u8 99] 5)) (a := ⟨w.heap.size, (#[.int .u8 97, .int .u8 98, .int .u8 99] : Array Value).size, none⟩) (Nat.le_refl _))
  generalize (w.alloc (.cells #[.int .u8 97, .int .u8 98, .int .u8 99] 5)).freeze ⟨w.heap.size, (#[.int .u8 97, .int .u8 98, .int .u8 99] : Array Value).size, none⟩ 1 = w1 at *
  have C1 := hide (C0.out.low ((Below.refl _ w1).alloc (Nat.le_refl _) (.cells #[.slice (some ⟨w.heap.size, 0, none⟩) abc.length 3] 22)))
  have B1 := hide (Blk.new w1 #[.slice (some ⟨w.heap.size, 0, none⟩) abc.length 3] 22)
  have L1 := hide (L0.out.alloc L0.out.size (.cells #[.slice (some ⟨w.heap.size, 0, none⟩) abc.length 3] 22))
  go_enter Tryd.func8, Tryd.ntmps8
  go_upto_region 2 with (first
    | (go_at_call 9; refine (all_one (some ⟨w.heap.size, 0, none⟩) abc 3 w1.heap.size 22 _ _ rfl B1.out (HG.out.low L1.out) (rds_cel C1.out abc abc_get) (by decide) abc_lt (by decide)).mono ?_; rintro e k1 ⟨rfl, hb⟩; have L2 := hide (keepLow2 L1.out hb); clear hb; dsimp only)
    | (refine wpList_store_abs rfl 24 _ _ rfl k1.heap.size (vals .u8 64 (dg abc)) rfl rfl 24 _ (Blk.new k1 _ _) (by rw [vals_size]; exact cells24) (by rw [vals_size, vals_size]) (vals_one _ _ _) ?_; intro k2 Bn Sn; have L3 := hide (Sn.low _ _ (L2.out.alloc L2.out.size _) L2.out.size); have D2 := hide Bn; clear Bn Sn L2))
  clear hz1 hcv
  obtain ⟨x0, x1, x2, x3, x63⟩ := dg_abc
  refine aw_region _ (fun _ _ _ _ _ h => h) k2 k1.heap.size _ _ (HG.out.low L3.out) D2.out
    (fun w' h => by rw [(D2.out.call h).cell 0, vals_get _ _ _ _ (by omega), show dg abc 0 = 221 from x0]; rfl)
    (fun w' h => by rw [(D2.out.call h).cell 1, vals_get _ _ _ _ (by omega), show dg abc 1 = 175 from x1]; rfl)
    (fun w' h => by rw [(D2.out.call h).cell 2, vals_get _ _ _ _ (by omega), show dg abc 2 = 53 from x2]; rfl)
    (fun w' h => by rw [(D2.out.call h).cell 3, vals_get _ _ _ _ (by omega), show dg abc 3 = 161 from x3]; rfl)
    (fun w' h => by rw [(D2.out.call h).cell 63, vals_get _ _ _ _ (by omega), show dg abc 63 = 159 from x63]; rfl) ?_
  intro b1 r f n b2 r2 f2 n2 wx hL _ _ _ _ _ _
  have L4 := hide (keepLow2 L3.out hL)
  clear hL
  go_wp2
  go_ret
  exact ⟨rfl, L4.out⟩
theorem awake_at (args : Array Value) (w : World) (h : args = #[]) (hG : Glob w) :
    Calls Tryd.prog 8 args w fun e w' => e = .returned (.bool true) ∧ Below w.heap.size w w' := by
  subst h; exact awake_any w hG
end Go.Proofs.YtplckpmicoohnaaDoor
