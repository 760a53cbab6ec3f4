/-
  The law FnExactFirstDesk, proved at its row: for every input the call returns true, and each argument reads behind it as it read before.
  Conditions: none of ours.
-/
import Derived.Test.YtdebiobhmpoiiaaRows
import Derived.Test.YtdebiobhmpoiiaaFacts
import Derived.Test.YtdebiobhmpoiiaaRowKit
import Derived.Test.YtdebiobhmpoiiaaDeskK
namespace Go.Proofs.Ytdebiobhmpoiiaa.fnExactFirstDesk
open Go.ChangeShapes Go.WideShapes Go.ChangeAt Go.RowKit
open Go.ChangeMaps (open_string shut_string)

theorem own : ownKnob Try.prog.godebug = none := by kernel_rfl
set_option maxRecDepth 100000 in
set_option maxHeartbeats 1000000 in
theorem lifted (os : Os) (started : os.Started) (H : Type) (enc : TypeId × Value → H) :
    ReturnsInHanded {} Try.checked os 3 .any (Rows.fnExactFirstDeskSpec.pre6 enc Try.prog Try.f3 Rows.fnExactFirstDeskRow.domain false)
      (Rows.fnExactFirstDeskSpec.post enc Try.prog Try.f3 false true false false) := by
  refine returnsInHanded_of_change (C := Try.checked) own started (by kernel_rfl) Try.func3
    (ChangeSpec.witness6 (enc := enc) (C := Try.checked) false ⟨#[], #[], []⟩ 8 (by kernel_rfl) (by kernel_rfl) (by kernel_rfl) (by kernel_rfl)) ?_
  intro W base args ds gs before hval0 hW _ _
  have hval : ∀ (j : Nat) t v, Try.f3.params[j]? = some t → args[j]? = some v → Value.okWide Try.prog W .any base t v := hval0
  have hW' := hW
  obtain ⟨p, q, hA0, hV, rfl, hfz, hnd⟩ := hW
  have hA : DataW.TrodAll enc Try.prog W 0 (fun _ => true) true Try.f3.params.toList args.toList ds p := hA0
  rw [Try.params3] at hA hval
  obtain ⟨hargs, rfl, rfl⟩ := trodAll_nil hA
  clear hval
  obtain rfl : args = #[] := by cases args; simp_all
  obtain ⟨rfl, rfl⟩ := trodVars_none hV
  clear hA0
  simp only [List.append_nil] at hW'
  have e1 : Rows.fnExactFirstDeskSpec.fn H ([] ++ []) = { results := [.lit (.bool true)], args := [] } := by simp [Rows.fnExactFirstDeskSpec]
  refine (lawFirstDesk  W).mono fun e W' ⟨he, hg⟩ => ?_
  subst he
  refine ⟨_, rfl, _, _, _, [], [], [], hW', ?_, ?_, ?_, Below.frame hg _, fun h => by cases h⟩
  · rw [e1]; exact trodAll_cons_mk (shut_bool Try.underlying4 true) trodAll_mk0
  · rw [e1]; exact trodAll_mk0
  · rw [e1]; rfl
theorem kI : (Rows.fnExactFirstDeskRow.inPlace == Try.prog.inPlace 3) = true := by kernel_rfl
theorem kU : (Rows.fnExactFirstDeskRow.unfollowed == Try.prog.unfollowed 3) = true := by kernel_rfl
theorem kR : (Rows.fnExactFirstDeskRow.recurses == Try.prog.recurses 3) = true := by kernel_rfl
theorem kN : (Rows.fnExactFirstDeskRow.named == Try.prog.varsNamed 3) = true := by kernel_rfl
theorem closed : joinedFacts Try.prog 3 Try.f3 Rows.fnExactFirstDeskSpec Rows.fnExactFirstDeskRow = true := by
  unfold joinedFacts
  exact facts.and_i (facts.and_i (facts.and_i (facts.and_i (facts.and_i (facts.and_i (facts.and_i (facts.and_i (facts.and_i (facts.and_i (facts.and_i (facts.and_i (facts.and_i (facts.and_i (facts.and_i (facts.and_i (facts.and_i (facts.and_i (facts.and_i (facts.and_i (facts.and_i (facts.and_i (facts.and_i (facts.and_i (facts.and_i (facts.and_i (facts.and_i (facts.and_i (facts.and_i (facts.and_i (facts.and_i ((by kernel_rfl)) (facts.p2)) (facts.p3)) (by kernel_rfl)) (by kernel_rfl)) (by kernel_rfl)) (facts.p7)) (by kernel_rfl)) (facts.p9)) (kI)) (kU)) (kR)) (kN)) (by kernel_rfl)) (by kernel_rfl)) (by kernel_rfl)) (by kernel_rfl)) (by kernel_rfl)) (by kernel_rfl)) (by kernel_rfl)) (by kernel_rfl)) (by kernel_rfl)) ((show (Rows.fnExactFirstDeskRow.plainKeys == Try.prog.plainKeys) = true from by rw [show Rows.fnExactFirstDeskRow.plainKeys = Rows.fnExactFirstDeskRow.plainKeys from rfl]; exact facts.p23))) (by kernel_rfl)) (facts.p25)) (facts.p26)) ((by rw [show Rows.fnExactFirstDeskRow.lifted = Rows.fnExactFirstDeskRow.lifted from rfl]; exact facts.p27))) ((by rw [show Rows.fnExactFirstDeskRow.make = Rows.fnExactFirstDeskRow.make from rfl]; exact facts.p28))) (by kernel_rfl)) (by kernel_rfl)) (by kernel_rfl)) (by kernel_rfl)

theorem row_holds : Rows.FnExactFirstDeskSaid :=
  OpenClaim.holds_of_wide 3 Try.f3 rfl rfl rfl rfl rfl rfl rfl ⟨rfl, rfl, rfl, rfl, rfl⟩ rfl rfl rfl rfl rfl (by kernel_rfl) Try.func3 closed
    (of_decide_eq_true (by kernel_rfl)) (by unfold Func.isWrapper; first | (rw [if_pos (by decide +kernel)]; kernel_rfl) | (rw [if_neg (by decide +kernel)]; exact ⟨rfl, rfl⟩))
    (fun os started H enc _ => lifted os started H enc)
end Go.Proofs.Ytdebiobhmpoiiaa.fnExactFirstDesk
