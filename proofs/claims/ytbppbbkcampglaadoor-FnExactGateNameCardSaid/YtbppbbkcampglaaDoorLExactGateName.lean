/-
  The law FnExactGateName, proved at its row and its card: for every input the call returns true, and each argument reads behind it as it read before.
  Conditions: none of ours.
-/
import Derived.Test.YtbppbbkcampglaaDoorRows
import Derived.Test.YtbppbbkcampglaaDoorFacts
import Derived.Test.YtbppbbkcampglaaDoorFacts2
import Derived.Test.YtbppbbkcampglaaDoorRowKit
import Derived.Test.YtbppbbkcampglaaDoorGateN
import Derived.Test.YtbppbbkcampglaaDoorRowV
import Derived.Test.YtbppbbkcampglaaDoorCards
import Derived.Test.YtbppbbkcampglaaDoorTie
namespace Go.Proofs.YtbppbbkcampglaaDoor.fnExactGateName
open Go.ChangeShapes Go.WideShapes Go.ChangeAt Go.RowKit
open Go.ChangeMaps (open_string shut_string)

theorem own : ownKnob Tryd.prog.godebug = none := by kernel_rfl
noncomputable def laid : List (String × DataW Unit) := [("loop.example/g01199/impl.gateNames", Rows.laid_loop_example_g01199_impl_gateNames)]
set_option maxRecDepth 100000 in
set_option maxHeartbeats 1000000 in
theorem lifted (os : Os) (started : os.Started) (H : Type) (enc : TypeId × Value → H) :
    ReturnsInHanded {} Tryd.checked os 5 .any (fun w args => (Rows.fnExactGateNameSpec.pre enc Tryd.prog Tryd.f5 Rows.fnExactGateNameRow.domain false w args ∧ laidMetH Tryd.prog laid w) ∧ sizedMet enc Tryd.prog Tryd.f5 (OpenSpec.ofChange Rows.fnExactGateNameSpec) false w args)
      (Rows.fnExactGateNameSpec.post enc Tryd.prog Tryd.f5 false true false false) := by
  refine handed_laid (C := Tryd.checked) (X := fun w _ => laidMetH Tryd.prog laid w) (fun _ _ _ hh h => h.of_heap hh) own started (by kernel_rfl) Tryd.func5
    (ChangeSpec.witness_shaped (enc := enc) (C := Tryd.checked) (os := os) (X := fun w _ => laidMetH Tryd.prog laid w) false (World.laidAll Tryd.prog os laid) #[.int .i64 0] 8 (World.laidAll_os _ _ _)
      (World.shaped_of_ZipB (by kernel_rfl) (by kernel_rfl)) (by kernel_rfl) (by kernel_rfl) (by kernel_rfl)
      (by rw [MakeChecks.laidMetH_plain _ _ _ (by kernel_rfl)]; exact laidMet_laidAll _ (by kernel_rfl) (by kernel_rfl))) ?_
  intro W base args ds gs before hval0 hW hsh hL
  have hval : ∀ (j : Nat) t v, Tryd.f5.params[j]? = some t → args[j]? = some v → Value.okWide Tryd.prog W .any base t v := hval0
  have hW' := hW
  obtain ⟨p, q, hA0, hV, rfl, hfz, hnd⟩ := hW
  have hA : DataW.TrodAll enc Tryd.prog W 0 (fun _ => true) true Tryd.f5.params.toList args.toList ds p := hA0
  rw [Tryd.params5] at hA hval
  obtain ⟨v0, vs0, d0, ds0, p0, q0, hargs, rfl, rfl, h0, r0⟩ := trodAll_cons hA
  obtain ⟨rfl, rfl, rfl⟩ := trodAll_nil r0
  obtain rfl : args = #[v0] := by cases args; simp_all
  obtain ⟨_, _, _, _, gd, _, rfl, _⟩ := trodVars_one hV
  obtain ⟨a0, rfl, rfl, rfl, w0⟩ := open_int Tryd.underlying3 (hval 0 3 v0 rfl rfl) h0
  clear hA0 hval0
  simp only [List.append_nil] at hW'
  have e1 : Rows.fnExactGateNameSpec.fn H ([.lit (.int .i64 a0)] ++ [gd]) = { results := [.lit (.bool true)], args := [.lit (.int .i64 a0)], vars := [gd] } := by simp [Rows.fnExactGateNameSpec]
  refine (lawGateName a0 W (gates_met (D := Rows.laid_loop_example_g01199_impl_gateNames) rfl (by rw [MakeChecks.laidMetH_plain _ _ _ (by kernel_rfl)] at hL; exact hL))).mono fun e W' ⟨he, hg⟩ => ?_
  subst he
  refine ⟨_, rfl, _, _, _, [], [], q, hW', ?_, ?_, ?_, Below.frame hg _, fun h => by cases h⟩
  · rw [e1]; exact trodAll_cons_mk (shut_bool Tryd.underlying4 true) trodAll_mk0
  · rw [e1]; exact (trodAll_cons_mk (shut_int Tryd.underlying3 w0) trodAll_mk0)
  · rw [e1]; exact Below.trodVars facts.p2 hg (by kernel_rfl) hV
theorem kI : (Rows.fnExactGateNameRow.inPlace == Tryd.prog.inPlace 5) = true := by kernel_rfl
theorem kU : (Rows.fnExactGateNameRow.unfollowed == Tryd.prog.unfollowed 5) = true := by kernel_rfl
theorem kR : (Rows.fnExactGateNameRow.recurses == Tryd.prog.recurses 5) = true := by kernel_rfl
theorem kN : (Rows.fnExactGateNameRow.named == Tryd.prog.varsNamed 5) = true := by kernel_rfl
theorem closed : joinedFacts Tryd.prog 5 Tryd.f5 Rows.fnExactGateNameSpec Rows.fnExactGateNameRow = true := by
  unfold joinedFacts
  exact facts.and_i (facts.and_i (facts.and_i (facts.and_i (facts.and_i (facts.and_i (facts.and_i (facts.and_i (facts.and_i (facts.and_i (facts.and_i (facts.and_i (facts.and_i (facts.and_i (facts.and_i (facts.and_i (facts.and_i (facts.and_i (facts.and_i (facts.and_i (facts.and_i (facts.and_i (facts.and_i (facts.and_i (facts.and_i (facts.and_i (facts.and_i (facts.and_i (facts.and_i (facts.and_i (facts.and_i ((by kernel_rfl)) (facts.p2)) (facts.p3)) (by kernel_rfl)) (by kernel_rfl)) (by kernel_rfl)) (facts.p7)) (by kernel_rfl)) (facts.p9)) (kI)) (kU)) (kR)) (kN)) (by kernel_rfl)) (by kernel_rfl)) (by kernel_rfl)) (by kernel_rfl)) (by kernel_rfl)) (by kernel_rfl)) (by kernel_rfl)) (by kernel_rfl)) (by kernel_rfl)) ((show (Rows.fnExactGateNameRow.plainKeys == Tryd.prog.plainKeys) = true from by rw [show Rows.fnExactGateNameRow.plainKeys = Rows.fnExactPowerWordRow.plainKeys from rfl]; exact facts.p23))) (by kernel_rfl)) (facts.p25)) (facts.p26)) ((by rw [show Rows.fnExactGateNameRow.lifted = Rows.fnExactPowerWordRow.lifted from rfl]; exact facts.p27))) ((by rw [show Rows.fnExactGateNameRow.make = Rows.fnExactPowerWordRow.make from rfl]; exact facts.p28))) (by kernel_rfl)) (by kernel_rfl)) (by kernel_rfl)) (by kernel_rfl)

theorem row_holds : Rows.FnExactGateNameSaid :=
  OpenClaim.holds_of_wide 5 Tryd.f5 rfl rfl rfl rfl rfl rfl rfl ⟨rfl, rfl, rfl, rfl, rfl⟩ rfl rfl rfl rfl rfl (by kernel_rfl) Tryd.func5 closed
    (of_decide_eq_true (by kernel_rfl)) (by unfold Func.isWrapper; first | (rw [if_pos (by decide +kernel)]; kernel_rfl) | (rw [if_neg (by decide +kernel)]; exact ⟨rfl, rfl⟩))
    (fun os started H enc _ => lifted os started H enc)
theorem cW : Rows.fnExactGateNameRow.wfByText (OpenSpec.ofChange Rows.fnExactGateNameSpec) = true := by kernel_rfl
theorem cG : false = Rows.fnExactGateNameRow.goesBy Tryd.prog := by kernel_rfl
theorem cF : Tryd.prog.funcNamed "loop.example/g01199/laws.FnExactGateName" = some 5 := by kernel_rfl

theorem card_holds : Rows.FnExactGateNameCardSaid :=
  Claim7.holds_tied_plain_at .later [] [.data] true (true, "467411af30355936a6331e56e6991f9d911b1561fce6f8184f236c95c7ab8897") false
    row_holds (fun _ h => by cases h) cW (fun _ h => by cases h) fnExactGateName_row_tie rfl ⟨rfl, rfl⟩ facts.mainIs rfl
    (fun f fn hf hfn => by
      obtain rfl : f = 5 := Option.some.inj (cF.symm.trans hf) |>.symm
      obtain rfl : fn = Tryd.f5 := (Option.some.inj (Tryd.func5.symm.trans hfn)).symm
      exact ⟨facts.looks0, fun j t ht => by
        rw [Tryd.params5] at ht
        have hm : t ∈ [3] := by simpa using Array.mem_of_getElem? ht
        obtain rfl : t = 3 := by simpa using hm
        exact facts.standIn3⟩)
    cG
end Go.Proofs.YtbppbbkcampglaaDoor.fnExactGateName
