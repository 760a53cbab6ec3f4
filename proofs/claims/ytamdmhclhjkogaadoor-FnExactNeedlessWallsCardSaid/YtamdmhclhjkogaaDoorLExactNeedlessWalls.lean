/-
  The law FnExactNeedlessWalls, proved at its row and its card: for every input the call returns true, and each argument reads behind it as it read before.
  Conditions: none of ours.
-/
import Derived.Test.YtamdmhclhjkogaaDoorRows
import Derived.Test.YtamdmhclhjkogaaDoorFacts
import Derived.Test.YtamdmhclhjkogaaDoorFacts2
import Derived.Test.YtamdmhclhjkogaaDoorRowKit
import Derived.Test.YtamdmhclhjkogaaDoorBPw
import Derived.Test.YtamdmhclhjkogaaDoorRowP
import Derived.Carry
import Derived.Test.YtamdmhclhjkogaaDoorCards
import Derived.Test.YtamdmhclhjkogaaDoorTie
namespace Go.Proofs.YtamdmhclhjkogaaDoor.fnExactNeedlessWalls
open Go.ChangeShapes Go.WideShapes Go.ChangeAt Go.RowKit
open Go.ChangeMaps (open_string shut_string)

theorem own : ownKnob Tryd.prog.godebug = none := by kernel_rfl
noncomputable def laid : List (String × DataW Unit) := [("unicode/utf8.acceptRanges", Rows.laid_unicode_utf8_acceptRanges), ("unicode/utf8.first", Rows.laid_unicode_utf8_first)]
set_option maxRecDepth 100000 in
set_option maxHeartbeats 1000000 in
theorem lifted (os : Os) (started : os.Started) (H : Type) (enc : TypeId × Value → H) :
    ReturnsInHanded {} Tryd.checked os 10 .any (fun w args => (Rows.fnExactNeedlessWallsSpec.pre enc Tryd.prog Tryd.f10 Rows.fnExactNeedlessWallsRow.domain false w args ∧ laidMetH Tryd.prog laid w) ∧ sizedMet enc Tryd.prog Tryd.f10 (OpenSpec.ofChange Rows.fnExactNeedlessWallsSpec) false w args)
      (Rows.fnExactNeedlessWallsSpec.post enc Tryd.prog Tryd.f10 false true false false) := by
  refine handed_both (C := Tryd.checked) (X := fun w _ => laidMetH Tryd.prog laid w) (fun _ _ _ hh h => h.of_heap hh) own started (by kernel_rfl) Tryd.func10
    (ChangeSpec.witness_shaped (enc := enc) (C := Tryd.checked) (os := os) (X := fun w _ => laidMetH Tryd.prog laid w) false (World.laidAll Tryd.prog os laid) #[.agg #[.string ByteArray.empty, .string ByteArray.empty, .int .i64 0]] 8 (World.laidAll_os _ _ _)
      (World.shaped_of_ZipB (by kernel_rfl) (by kernel_rfl)) (by kernel_rfl) (by kernel_rfl) (by kernel_rfl)
      (by rw [MakeChecks.laidMetH_plain _ _ _ (by kernel_rfl)]; exact laidMet_laidAll _ (by kernel_rfl) (by kernel_rfl))) ?_
  intro W base args ds gs before hval0 hW hsh
  have hval : ∀ (j : Nat) t v, Tryd.f10.params[j]? = some t → args[j]? = some v → Value.okWide Tryd.prog W .any base t v := hval0
  have hW' := hW
  obtain ⟨p, q, hA0, hV, rfl, hfz, hnd⟩ := hW
  have hA : DataW.TrodAll enc Tryd.prog W 0 (fun _ => true) true Tryd.f10.params.toList args.toList ds p := hA0
  rw [Tryd.params10] at hA hval
  obtain ⟨v0, vs0, d0, ds0, p0, q0, hargs, rfl, rfl, h0, r0⟩ := trodAll_cons hA
  obtain ⟨rfl, rfl, rfl⟩ := trodAll_nil r0
  obtain rfl : args = #[v0] := by cases args; simp_all
  obtain ⟨rfl, rfl⟩ := trodVars_none hV
  obtain ⟨s0, n0, z0, rfl, hs0, hn0⟩ := Tryd.open_puzzle (hval 0 23 v0 rfl rfl) h0
  have hlt0 : ∀ x ∈ p0, x.block < W.heap.size := fun x hx => DataW.TrodAll.lt hA x (by simp [hx])
  clear hA0 hval0
  simp only [List.append_nil] at hW'
  have e1 : Rows.fnExactNeedlessWallsSpec.fn H ([d0] ++ []) = { results := [.lit (.bool true)], args := [d0] } := by simp [Rows.fnExactNeedlessWallsSpec]
  refine (lawNeedlessWalls s0 n0 z0 W hs0 hn0 (Tryd.laysM146.s1_3 W hsh)).mono fun e W' ⟨he, hg⟩ => ?_
  subst he
  refine ⟨_, rfl, _, _, _, [], (p0 ++ []), [], hW', ?_, ?_, ?_, Below.frame hg _, fun h => by cases h⟩
  · rw [e1]; exact trodAll_cons_mk (shut_bool Tryd.underlying4 true) trodAll_mk0
  · rw [e1]; exact (trodAll_cons_mk (Below.trod facts.p2 (by kernel_rfl) (of_decide_eq_true (by kernel_rfl)) h0 hg hlt0) trodAll_mk0)
  · rw [e1]; rfl
theorem kI : (Rows.fnExactNeedlessWallsRow.inPlace == Tryd.prog.inPlace 10) = true := by kernel_rfl
theorem kU : (Rows.fnExactNeedlessWallsRow.unfollowed == Tryd.prog.unfollowed 10) = true := by kernel_rfl
theorem kR : (Rows.fnExactNeedlessWallsRow.recurses == Tryd.prog.recurses 10) = true := by kernel_rfl
theorem kN : (Rows.fnExactNeedlessWallsRow.named == Tryd.prog.varsNamed 10) = true := by kernel_rfl
theorem closed : joinedFacts Tryd.prog 10 Tryd.f10 Rows.fnExactNeedlessWallsSpec Rows.fnExactNeedlessWallsRow = true := by
  unfold joinedFacts
  exact facts.and_i (facts.and_i (facts.and_i (facts.and_i (facts.and_i (facts.and_i (facts.and_i (facts.and_i (facts.and_i (facts.and_i (facts.and_i (facts.and_i (facts.and_i (facts.and_i (facts.and_i (facts.and_i (facts.and_i (facts.and_i (facts.and_i (facts.and_i (facts.and_i (facts.and_i (facts.and_i (facts.and_i (facts.and_i (facts.and_i (facts.and_i (facts.and_i (facts.and_i (facts.and_i (facts.and_i ((by kernel_rfl)) (facts.p2)) (facts.p3)) (by kernel_rfl)) (by kernel_rfl)) (by kernel_rfl)) (facts.p7)) (by kernel_rfl)) (facts.p9)) (kI)) (kU)) (kR)) (kN)) (by kernel_rfl)) (by kernel_rfl)) (by kernel_rfl)) (by kernel_rfl)) (by kernel_rfl)) (by kernel_rfl)) (by kernel_rfl)) (by kernel_rfl)) (by kernel_rfl)) ((show (Rows.fnExactNeedlessWallsRow.plainKeys == Tryd.prog.plainKeys) = true from by rw [show Rows.fnExactNeedlessWallsRow.plainKeys = Rows.fnExactIsPuzzleRow.plainKeys from rfl]; exact facts.p23))) (by kernel_rfl)) (facts.p25)) (facts.p26)) ((by rw [show Rows.fnExactNeedlessWallsRow.lifted = Rows.fnExactIsPuzzleRow.lifted from rfl]; exact facts.p27))) ((by rw [show Rows.fnExactNeedlessWallsRow.make = Rows.fnExactIsPuzzleRow.make from rfl]; exact facts.p28))) (by kernel_rfl)) (by kernel_rfl)) (by kernel_rfl)) (by kernel_rfl)

theorem row_holds : Rows.FnExactNeedlessWallsSaid :=
  OpenClaim.holds_of_wide 10 Tryd.f10 rfl rfl rfl rfl rfl rfl rfl ⟨rfl, rfl, rfl, rfl, rfl⟩ rfl rfl rfl rfl rfl (by kernel_rfl) Tryd.func10 closed
    (of_decide_eq_true (by kernel_rfl)) (by unfold Func.isWrapper; first | (rw [if_pos (by decide +kernel)]; kernel_rfl) | (rw [if_neg (by decide +kernel)]; exact ⟨rfl, rfl⟩))
    (fun os started H enc _ => lifted os started H enc)
theorem cW : Rows.fnExactNeedlessWallsRow.wfByText (OpenSpec.ofChange Rows.fnExactNeedlessWallsSpec) = true := by kernel_rfl
theorem cG : false = Rows.fnExactNeedlessWallsRow.goesBy Tryd.prog := by kernel_rfl
theorem cF : Tryd.prog.funcNamed "loop.example/g01199/laws.FnExactNeedlessWalls" = some 10 := by kernel_rfl

theorem card_holds : Rows.FnExactNeedlessWallsCardSaid :=
  Claim7.holds_tied_plain_at .later [] [.data, .pinned] true (true, "f227a04f1d4bfd025385ec3eff1237758ded348d6d0e65fdd1d67fcfd154d5cf") true
    row_holds (fun _ h => by cases h) cW (fun _ h => by cases h) fnExactNeedlessWalls_row_tie rfl ⟨rfl, rfl⟩ facts.mainIs rfl
    (fun f fn hf hfn => by
      obtain rfl : f = 10 := Option.some.inj (cF.symm.trans hf) |>.symm
      obtain rfl : fn = Tryd.f10 := (Option.some.inj (Tryd.func10.symm.trans hfn)).symm
      exact ⟨facts.looks0, fun j t ht => by
        rw [Tryd.params10] at ht
        have hm : t ∈ [23] := by simpa using Array.mem_of_getElem? ht
        obtain rfl : t = 23 := by simpa using hm
        exact facts.standIn23⟩)
    cG
end Go.Proofs.YtamdmhclhjkogaaDoor.fnExactNeedlessWalls
