/-
  The law FnExactBoardText, proved at its row and its card: for every input the call returns true, and each argument reads behind it as it read before.
  Conditions: none of ours.
-/
import Derived.Test.YtdebiobhmpoiiaaDoorRows
import Derived.Test.YtdebiobhmpoiiaaDoorFacts
import Derived.Test.YtdebiobhmpoiiaaDoorFacts2
import Derived.Test.YtdebiobhmpoiiaaDoorRowKit
import Derived.Test.YtdebiobhmpoiiaaDoorBtxL
import Derived.Test.YtdebiobhmpoiiaaDoorRowB
import Derived.Test.YtdebiobhmpoiiaaDoorCards
import Derived.Test.YtdebiobhmpoiiaaDoorTie
namespace Go.Proofs.YtdebiobhmpoiiaaDoor.fnExactBoardText
open Go.ChangeShapes Go.WideShapes Go.ChangeAt Go.RowKit
open Go.ChangeMaps (open_string shut_string)

theorem own : ownKnob Tryd.prog.godebug = none := by kernel_rfl
noncomputable def laid : List (String × DataW Unit) := [("math/bits.deBruijn32tab", Rows.laid_math_bits_deBruijn32tab), ("math/bits.deBruijn64tab", Rows.laid_math_bits_deBruijn64tab), ("internal/strconv.uint64pow10", Rows.laid_internal_strconv_uint64pow10)]
set_option maxRecDepth 100000 in
set_option maxHeartbeats 1000000 in
theorem lifted (os : Os) (started : os.Started) (H : Type) (enc : TypeId × Value → H) :
    ReturnsInHanded {} Tryd.checked os 8 .any (fun w args => (Rows.fnExactBoardTextSpec.pre enc Tryd.prog Tryd.f8 Rows.fnExactBoardTextRow.domain false w args ∧ laidMetH Tryd.prog laid w) ∧ sizedMet enc Tryd.prog Tryd.f8 (OpenSpec.ofChange Rows.fnExactBoardTextSpec) false w args)
      (Rows.fnExactBoardTextSpec.post enc Tryd.prog Tryd.f8 false true false false) := by
  refine handed_both (C := Tryd.checked) (X := fun w _ => laidMetH Tryd.prog laid w) (fun _ _ _ hh h => h.of_heap hh) own started (by kernel_rfl) Tryd.func8
    (ChangeSpec.witness_shaped (enc := enc) (C := Tryd.checked) (os := os) (X := fun w _ => laidMetH Tryd.prog laid w) false (World.laidAll Tryd.prog os laid) #[.agg #[.int .i64 0, .slice none 0 0]] 8 (World.laidAll_os _ _ _)
      (World.shaped_of_ZipB (by kernel_rfl) (by kernel_rfl)) (by kernel_rfl) (by kernel_rfl) (by kernel_rfl)
      (by rw [MakeChecks.laidMetH_plain _ _ _ (by kernel_rfl)]; exact laidMet_laidAll _ (by kernel_rfl) (by kernel_rfl))) ?_
  intro W base args ds gs before hval0 hW hsh
  have hval : ∀ (j : Nat) t v, Tryd.f8.params[j]? = some t → args[j]? = some v → Value.okWide Tryd.prog W .any base t v := hval0
  have hW' := hW
  obtain ⟨p, q, hA0, hV, rfl, hfz, hnd⟩ := hW
  have hA : DataW.TrodAll enc Tryd.prog W 0 (fun _ => true) true Tryd.f8.params.toList args.toList ds p := hA0
  rw [Tryd.params8] at hA hval
  obtain ⟨v0, vs0, d0, ds0, p0, q0, hargs, rfl, rfl, h0, r0⟩ := trodAll_cons hA
  obtain ⟨rfl, rfl, rfl⟩ := trodAll_nil r0
  obtain rfl : args = #[v0] := by cases args; simp_all
  obtain ⟨rfl, rfl⟩ := trodVars_none hV
  obtain ⟨z0, s0, L0, rfl, hs0, hb0⟩ := Tryd.open_board (hval 0 42 v0 rfl rfl) h0
  have hlt0 : ∀ x ∈ p0, x.block < W.heap.size := fun x hx => DataW.TrodAll.lt hA x (by simp [hx])
  clear hA0 hval0
  simp only [List.append_nil] at hW'
  have e1 : Rows.fnExactBoardTextSpec.fn H ([d0] ++ []) = { results := [.lit (.bool true)], args := [d0] } := by simp [Rows.fnExactBoardTextSpec]
  refine (lawBoardText z0 s0 L0 W hs0 hb0).mono fun e W' ⟨he, hg⟩ => ?_
  subst he
  refine ⟨_, rfl, _, _, _, [], (p0 ++ []), [], hW', ?_, ?_, ?_, Below.frame hg _, fun h => by cases h⟩
  · rw [e1]; exact trodAll_cons_mk (shut_bool Tryd.underlying4 true) trodAll_mk0
  · rw [e1]; exact (trodAll_cons_mk (Below.trod facts.p2 (by kernel_rfl) (of_decide_eq_true (by kernel_rfl)) h0 hg hlt0) trodAll_mk0)
  · rw [e1]; rfl
theorem kI : (Rows.fnExactBoardTextRow.inPlace == Tryd.prog.inPlace 8) = true := by kernel_rfl
theorem kU : (Rows.fnExactBoardTextRow.unfollowed == Tryd.prog.unfollowed 8) = true := by kernel_rfl
theorem kR : (Rows.fnExactBoardTextRow.recurses == Tryd.prog.recurses 8) = true := by kernel_rfl
theorem kN : (Rows.fnExactBoardTextRow.named == Tryd.prog.varsNamed 8) = true := by kernel_rfl
theorem closed : joinedFacts Tryd.prog 8 Tryd.f8 Rows.fnExactBoardTextSpec Rows.fnExactBoardTextRow = true := by
  unfold joinedFacts
  exact facts.and_i (facts.and_i (facts.and_i (facts.and_i (facts.and_i (facts.and_i (facts.and_i (facts.and_i (facts.and_i (facts.and_i (facts.and_i (facts.and_i (facts.and_i (facts.and_i (facts.and_i (facts.and_i (facts.and_i (facts.and_i (facts.and_i (facts.and_i (facts.and_i (facts.and_i (facts.and_i (facts.and_i (facts.and_i (facts.and_i (facts.and_i (facts.and_i (facts.and_i (facts.and_i (facts.and_i ((by kernel_rfl)) (facts.p2)) (facts.p3)) (by kernel_rfl)) (by kernel_rfl)) (by kernel_rfl)) (facts.p7)) (by kernel_rfl)) (facts.p9)) (kI)) (kU)) (kR)) (kN)) (by kernel_rfl)) (by kernel_rfl)) (by kernel_rfl)) (by kernel_rfl)) (by kernel_rfl)) (by kernel_rfl)) (by kernel_rfl)) (by kernel_rfl)) (by kernel_rfl)) ((show (Rows.fnExactBoardTextRow.plainKeys == Tryd.prog.plainKeys) = true from by rw [show Rows.fnExactBoardTextRow.plainKeys = Rows.fnExactIsDeskRow.plainKeys from rfl]; exact facts.p23))) (by kernel_rfl)) (facts.p25)) (facts.p26)) ((by rw [show Rows.fnExactBoardTextRow.lifted = Rows.fnExactIsDeskRow.lifted from rfl]; exact facts.p27))) ((by rw [show Rows.fnExactBoardTextRow.make = Rows.fnExactIsDeskRow.make from rfl]; exact facts.p28))) (by kernel_rfl)) (by kernel_rfl)) (by kernel_rfl)) (by kernel_rfl)

theorem row_holds : Rows.FnExactBoardTextSaid :=
  OpenClaim.holds_of_wide 8 Tryd.f8 rfl rfl rfl rfl rfl rfl rfl ⟨rfl, rfl, rfl, rfl, rfl⟩ rfl rfl rfl rfl rfl (by kernel_rfl) Tryd.func8 closed
    (of_decide_eq_true (by kernel_rfl)) (by unfold Func.isWrapper; first | (rw [if_pos (by decide +kernel)]; kernel_rfl) | (rw [if_neg (by decide +kernel)]; exact ⟨rfl, rfl⟩))
    (fun os started H enc _ => lifted os started H enc)
theorem cW : Rows.fnExactBoardTextRow.wfByText (OpenSpec.ofChange Rows.fnExactBoardTextSpec) = true := by kernel_rfl
theorem cG : false = Rows.fnExactBoardTextRow.goesBy Tryd.prog := by kernel_rfl
theorem cF : Tryd.prog.funcNamed "loop.example/g01199/laws.FnExactBoardText" = some 8 := by kernel_rfl

theorem card_holds : Rows.FnExactBoardTextCardSaid :=
  Claim7.holds_tied_plain_at .later [] [.data, .data, .data] true (true, "b56c3f4428b78518f08b24f82ecc154ff9a614e8043b649f1f08cc36808fe66f") false
    row_holds (fun _ h => by cases h) cW (fun _ h => by cases h) fnExactBoardText_row_tie rfl ⟨rfl, rfl⟩ facts.mainIs rfl
    (fun f fn hf hfn => by
      obtain rfl : f = 8 := Option.some.inj (cF.symm.trans hf) |>.symm
      obtain rfl : fn = Tryd.f8 := (Option.some.inj (Tryd.func8.symm.trans hfn)).symm
      exact ⟨facts.looks0, fun j t ht => by
        rw [Tryd.params8] at ht
        have hm : t ∈ [42] := by simpa using Array.mem_of_getElem? ht
        obtain rfl : t = 42 := by simpa using hm
        exact facts.standIn42⟩)
    cG
end Go.Proofs.YtdebiobhmpoiiaaDoor.fnExactBoardText
