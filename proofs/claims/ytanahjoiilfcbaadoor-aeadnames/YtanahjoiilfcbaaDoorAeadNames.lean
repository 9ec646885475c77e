/- AeadNames: for all inputs the law returns true and leaves its arguments as they were. One condition: the package's variables 'places' and 'kept' read as the program's text lays them; the card ties them to that text. -/
import Derived.Test.YtanahjoiilfcbaaDoorRn
import Derived.Test.YtanahjoiilfcbaaDoorZn
import Derived.Test.YtanahjoiilfcbaaDoorTie
import Derived.Test.YtanahjoiilfcbaaDoorCards
import Derived.SevenTiedAt
namespace Go.Proofs.YtanahjoiilfcbaaDoor.AeadNames
set_option maxRecDepth 100000
open Go.ChangeShapes Go.WideShapes Go.ChangeAt Go.RowKit E

theorem door_met (os : Os) (args : Array Value) : laidMetH Tryd.prog [("fardel/poly.kept", Rows.laid_fardel_poly_kept), ("fardel/chacha.places", Rows.laid_fardel_chacha_places)] ((World.doorLaid Tryd.prog 400 os).forCall (fun _ _ => 0) ⟨#[], args, []⟩).memory :=
  laidMetH_of_parts3 (fuel := 8) (laidMet_of_run' 8 (by kernel_rfl) (by kernel_rfl)) (by kernel_rfl) (by kernel_rfl)

theorem lifted (os : Os) (started : os.Started) (H : Type) (enc : TypeId × Value → H) :
    ReturnsInHanded {} Tryd.checked os 3 .any (fun w args => (Rows.aeadNamesSpec.pre enc Tryd.prog Tryd.f3 [] false w args ∧ laidMetH Tryd.prog [("fardel/poly.kept", Rows.laid_fardel_poly_kept), ("fardel/chacha.places", Rows.laid_fardel_chacha_places)] w) ∧ sizedMet enc Tryd.prog Tryd.f3 (OpenSpec.ofChange Rows.aeadNamesSpec) false w args)
      (Rows.aeadNamesSpec.post enc Tryd.prog Tryd.f3 false true false false) := by
  refine returnsInHanded_of_change_and (C := Tryd.checked) (X := fun w _ => laidMetH Tryd.prog [("fardel/poly.kept", Rows.laid_fardel_poly_kept), ("fardel/chacha.places", Rows.laid_fardel_chacha_places)] w) (fun _ _ _ hh h => h.of_heap hh) own started (by kernel_rfl) Tryd.func3
    (ChangeSpec.witness_shaped (enc := enc) (C := Tryd.checked) (os := os) (X := fun w _ => laidMetH Tryd.prog [("fardel/poly.kept", Rows.laid_fardel_poly_kept), ("fardel/chacha.places", Rows.laid_fardel_chacha_places)] w) false (World.doorLaid Tryd.prog 400 os) #[] 8 rfl (World.shaped_of_RefB (by kernel_rfl) (by kernel_rfl)) (by kernel_rfl) (by kernel_rfl) (by kernel_rfl) (door_met os _)) ?_
  intro W base args ds gs before hval0 hW _ _ hL _
  have hval : ∀ (j : Nat) t v, Tryd.f3.params[j]? = some t → args[j]? = some v → Value.okWide Tryd.prog W .any base t v := hval0
  have hW' := hW
  obtain ⟨p, q, hA0, hV, rfl, hfz, hnd⟩ := hW
  have hA : DataW.TrodAll enc Tryd.prog W 0 (fun _ => true) true Tryd.f3.params.toList args.toList ds p := hA0
  rw [Tryd.params3] at hA hval
  obtain ⟨hargs, rfl, rfl⟩ := trodAll_nil hA
  obtain rfl : args = #[] := by cases args; simp_all
  obtain ⟨rfl, rfl⟩ := trodVars_none hV
  clear hA0 hval0
  refine (names_walk W (of_laid hL).1 (of_laid hL).2).mono fun e W' ⟨he, bel⟩ => ?_
  subst he
  exact ⟨_, rfl, _, _, _, [], _, [], hW', trodAll_mk1 (shut_bool Tryd.underlying4 _), trodAll_mk0, rfl, bel.frame _, fun h => by cases h⟩

theorem over : Rows.aeadNamesRow.holds Tryd.pinned (OpenSpec.ofChange Rows.aeadNamesSpec) :=
  OpenClaim.holds_of_wide 3 Tryd.f3 rfl rfl rfl rfl rfl rfl rfl ⟨rfl, rfl, rfl, rfl, rfl⟩ rfl rfl rfl rfl rfl (by kernel_rfl) Tryd.func3 (by kernel_rfl)
    (of_decide_eq_true (by kernel_rfl)) (by unfold Func.isWrapper; first | (rw [if_pos (by decide +kernel)]; kernel_rfl) | (rw [if_neg (by decide +kernel)]; exact ⟨rfl, rfl⟩))
    (fun os started H enc _ => lifted os started H enc)
end Go.Proofs.YtanahjoiilfcbaaDoor.AeadNames
namespace Go.Proofs.YtanahjoiilfcbaaDoor
open Go
/-- The statement. -/
theorem aeadNames_card : Rows.AeadNamesCardSaid :=
  Claim7.holds_tied_plain_at .later [] [.data, .data] true (true, "bc40f4ffbfaf0888e93d4aed010d8129b35c6c9883d85b4fd60532c42d417f0a") false
    AeadNames.over (fun _ h => by cases h) (by kernel_rfl) (fun _ h => by cases h) aeadNames_row_tie rfl ⟨rfl, rfl⟩ (by kernel_rfl) rfl
    (fun f fn hf hfn => by
      obtain rfl : f = 3 := Option.some.inj ((show Tryd.prog.funcNamed "fardel/fardellaw11.AeadNames" = some 3 by kernel_rfl).symm.trans hf) |>.symm
      obtain rfl : fn = Tryd.f3 := (Option.some.inj (Tryd.func3.symm.trans hfn)).symm
      exact ⟨by kernel_rfl, fun j t ht => by
        rw [Tryd.params3] at ht
        simp at ht⟩)
    (by kernel_rfl)
#print axioms aeadNames_card
end Go.Proofs.YtanahjoiilfcbaaDoor
