/-
  The law FnExactCountKept, proved at its row: for every input the call returns true, and each argument reads behind it as it read before.
  Conditions: none of ours.
-/
import Derived.Test.YtmjmjibokombiaaRows
import Derived.Test.YtmjmjibokombiaaFacts
import Derived.Test.YtmjmjibokombiaaRowKit
import Derived.Test.YtmjmjibokombiaaKepL
namespace Go.Proofs.Ytmjmjibokombiaa.fnExactCountKept
open Go.ChangeShapes Go.WideShapes Go.ChangeAt Go.RowKit
open Go.ChangeMaps (open_string shut_string)

theorem own : ownKnob Try.prog.godebug = none := by kernel_rfl
set_option maxRecDepth 100000 in
set_option maxHeartbeats 1000000 in
theorem lifted (os : Os) (started : os.Started) (H : Type) (enc : TypeId × Value → H) :
    ReturnsInHanded {} Try.checked os 3 .any (Rows.fnExactCountKeptSpec.pre6 enc Try.prog Try.f3 Rows.fnExactCountKeptRow.domain false)
      (Rows.fnExactCountKeptSpec.post enc Try.prog Try.f3 false true false false) := by
  refine returnsInHanded_of_change (C := Try.checked) own started (by kernel_rfl) Try.func3
    (ChangeSpec.witness6 (enc := enc) (C := Try.checked) false ⟨#[], #[.int .i64 0, .int .i64 0, .int .i64 0, .int .i64 0, .int .i64 0], []⟩ 8 (by kernel_rfl) (by kernel_rfl) (by kernel_rfl) (by kernel_rfl)) ?_
  intro W base args ds gs before hval0 hW _ _
  have hval : ∀ (j : Nat) t v, Try.f3.params[j]? = some t → args[j]? = some v → Value.okWide Try.prog W .any base t v := hval0
  have hW' := hW
  obtain ⟨p, q, hA0, hV, rfl, hfz, hnd⟩ := hW
  have hA : DataW.TrodAll enc Try.prog W 0 (fun _ => true) true Try.f3.params.toList args.toList ds p := hA0
  rw [Try.params3] at hA hval
  obtain ⟨v0, vs0, d0, ds0, p0, q0, hargs, rfl, rfl, h0, r0⟩ := trodAll_cons hA
  obtain ⟨v1, vs1, d1, ds1, p1, q1, rfl, rfl, rfl, h1, r1⟩ := trodAll_cons r0
  obtain ⟨v2, vs2, d2, ds2, p2, q2, rfl, rfl, rfl, h2, r2⟩ := trodAll_cons r1
  obtain ⟨v3, vs3, d3, ds3, p3, q3, rfl, rfl, rfl, h3, r3⟩ := trodAll_cons r2
  obtain ⟨v4, vs4, d4, ds4, p4, q4, rfl, rfl, rfl, h4, r4⟩ := trodAll_cons r3
  obtain ⟨rfl, rfl, rfl⟩ := trodAll_nil r4
  obtain rfl : args = #[v0, v1, v2, v3, v4] := by cases args; simp_all
  obtain ⟨rfl, rfl⟩ := trodVars_none hV
  obtain ⟨a0, rfl, rfl, rfl, w0⟩ := open_int Try.underlying3 (hval 0 3 v0 rfl rfl) h0
  obtain ⟨a1, rfl, rfl, rfl, w1⟩ := open_int Try.underlying3 (hval 1 3 v1 rfl rfl) h1
  obtain ⟨a2, rfl, rfl, rfl, w2⟩ := open_int Try.underlying3 (hval 2 3 v2 rfl rfl) h2
  obtain ⟨a3, rfl, rfl, rfl, w3⟩ := open_int Try.underlying3 (hval 3 3 v3 rfl rfl) h3
  obtain ⟨a4, rfl, rfl, rfl, w4⟩ := open_int Try.underlying3 (hval 4 3 v4 rfl rfl) h4
  clear hA0 hval0
  simp only [List.append_nil] at hW'
  have e1 : Rows.fnExactCountKeptSpec.fn H ([.lit (.int .i64 a0), .lit (.int .i64 a1), .lit (.int .i64 a2), .lit (.int .i64 a3), .lit (.int .i64 a4)] ++ []) = { results := [.lit (.bool true)], args := [.lit (.int .i64 a0), .lit (.int .i64 a1), .lit (.int .i64 a2), .lit (.int .i64 a3), .lit (.int .i64 a4)] } := by simp [Rows.fnExactCountKeptSpec]
  refine (lawCountKept a0 a1 a2 a3 a4 W).mono fun e W' ⟨he, hg⟩ => ?_
  subst he
  refine ⟨_, rfl, _, _, _, [], [], [], hW', ?_, ?_, ?_, Below.frame hg _, fun h => by cases h⟩
  · rw [e1]; exact trodAll_cons_mk (shut_bool Try.underlying4 true) trodAll_mk0
  · rw [e1]; exact (trodAll_cons_mk (shut_int Try.underlying3 w0) (trodAll_cons_mk (shut_int Try.underlying3 w1) (trodAll_cons_mk (shut_int Try.underlying3 w2) (trodAll_cons_mk (shut_int Try.underlying3 w3) (trodAll_cons_mk (shut_int Try.underlying3 w4) trodAll_mk0)))))
  · rw [e1]; rfl
theorem kI : (Rows.fnExactCountKeptRow.inPlace == Try.prog.inPlace 3) = true := by kernel_rfl
theorem kU : (Rows.fnExactCountKeptRow.unfollowed == Try.prog.unfollowed 3) = true := by kernel_rfl
theorem kR : (Rows.fnExactCountKeptRow.recurses == Try.prog.recurses 3) = true := by kernel_rfl
theorem kN : (Rows.fnExactCountKeptRow.named == Try.prog.varsNamed 3) = true := by kernel_rfl
theorem closed : joinedFacts Try.prog 3 Try.f3 Rows.fnExactCountKeptSpec Rows.fnExactCountKeptRow = true := by
  unfold joinedFacts
  exact facts.and_i (facts.and_i (facts.and_i (facts.and_i (facts.and_i (facts.and_i (facts.and_i (facts.and_i (facts.and_i (facts.and_i (facts.and_i (facts.and_i (facts.and_i (facts.and_i (facts.and_i (facts.and_i (facts.and_i (facts.and_i (facts.and_i (facts.and_i (facts.and_i (facts.and_i (facts.and_i (facts.and_i (facts.and_i (facts.and_i (facts.and_i (facts.and_i (facts.and_i (facts.and_i (facts.and_i ((by kernel_rfl)) (facts.p2)) (facts.p3)) (by kernel_rfl)) (by kernel_rfl)) (by kernel_rfl)) (facts.p7)) (by kernel_rfl)) (facts.p9)) (kI)) (kU)) (kR)) (kN)) (by kernel_rfl)) (by kernel_rfl)) (by kernel_rfl)) (by kernel_rfl)) (by kernel_rfl)) (by kernel_rfl)) (by kernel_rfl)) (by kernel_rfl)) (by kernel_rfl)) ((show (Rows.fnExactCountKeptRow.plainKeys == Try.prog.plainKeys) = true from by rw [show Rows.fnExactCountKeptRow.plainKeys = Rows.fnExactCountKeptRow.plainKeys from rfl]; exact facts.p23))) (by kernel_rfl)) (facts.p25)) (facts.p26)) ((by rw [show Rows.fnExactCountKeptRow.lifted = Rows.fnExactCountKeptRow.lifted from rfl]; exact facts.p27))) ((by rw [show Rows.fnExactCountKeptRow.make = Rows.fnExactCountKeptRow.make from rfl]; exact facts.p28))) (by kernel_rfl)) (by kernel_rfl)) (by kernel_rfl)) (by kernel_rfl)

theorem row_holds : Rows.FnExactCountKeptSaid :=
  OpenClaim.holds_of_wide 3 Try.f3 rfl rfl rfl rfl rfl rfl rfl ⟨rfl, rfl, rfl, rfl, rfl⟩ rfl rfl rfl rfl rfl (by kernel_rfl) Try.func3 closed
    (of_decide_eq_true (by kernel_rfl)) (by unfold Func.isWrapper; first | (rw [if_pos (by decide +kernel)]; kernel_rfl) | (rw [if_neg (by decide +kernel)]; exact ⟨rfl, rfl⟩))
    (fun os started H enc _ => lifted os started H enc)
end Go.Proofs.Ytmjmjibokombiaa.fnExactCountKept
