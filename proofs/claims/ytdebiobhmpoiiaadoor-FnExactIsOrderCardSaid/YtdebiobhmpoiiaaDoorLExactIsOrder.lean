/-
  The law FnExactIsOrder, proved at its row and its card: for every input the call returns true, and each argument reads behind it as it read before.
  Conditions: none of ours.
-/
import Derived.Test.YtdebiobhmpoiiaaDoorRows
import Derived.Test.YtdebiobhmpoiiaaDoorFacts
import Derived.Test.YtdebiobhmpoiiaaDoorFacts2
import Derived.Test.YtdebiobhmpoiiaaDoorRowKit
import Derived.Test.YtdebiobhmpoiiaaDoorOrdL
import Derived.Test.YtdebiobhmpoiiaaDoorRowI
import Derived.Carry
import Derived.Test.YtdebiobhmpoiiaaDoorCards
import Derived.Test.YtdebiobhmpoiiaaDoorTie
namespace Go.Proofs.YtdebiobhmpoiiaaDoor.fnExactIsOrder
open Go.ChangeShapes Go.WideShapes Go.ChangeAt Go.RowKit
open Go.ChangeMaps (open_string shut_string)

theorem own : ownKnob Tryd.prog.godebug = none := by kernel_rfl
noncomputable def laid : List (String × DataW Unit) := [("unicode/utf8.acceptRanges", Rows.laid_unicode_utf8_acceptRanges), ("unicode/utf8.first", Rows.laid_unicode_utf8_first)]
set_option maxRecDepth 100000 in
set_option maxHeartbeats 1000000 in
theorem lifted (os : Os) (started : os.Started) (H : Type) (enc : TypeId × Value → H) :
    ReturnsInHanded {} Tryd.checked os 6 .any (fun w args => (Rows.fnExactIsOrderSpec.pre enc Tryd.prog Tryd.f6 Rows.fnExactIsOrderRow.domain false w args ∧ laidMetH Tryd.prog laid w) ∧ sizedMet enc Tryd.prog Tryd.f6 (OpenSpec.ofChange Rows.fnExactIsOrderSpec) false w args)
      (Rows.fnExactIsOrderSpec.post enc Tryd.prog Tryd.f6 false true false false) := by
  refine handed_both (C := Tryd.checked) (X := fun w _ => laidMetH Tryd.prog laid w) (fun _ _ _ hh h => h.of_heap hh) own started (by kernel_rfl) Tryd.func6
    (ChangeSpec.witness_shaped (enc := enc) (C := Tryd.checked) (os := os) (X := fun w _ => laidMetH Tryd.prog laid w) false (World.laidAll Tryd.prog os laid) #[.string ByteArray.empty, .slice none 0 0] 8 (World.laidAll_os _ _ _)
      (World.shaped_of_ZipB (by kernel_rfl) (by kernel_rfl)) (by kernel_rfl) (by kernel_rfl) (by kernel_rfl)
      (by rw [MakeChecks.laidMetH_plain _ _ _ (by kernel_rfl)]; exact laidMet_laidAll _ (by kernel_rfl) (by kernel_rfl))) ?_
  intro W base args ds gs before hval0 hW hsh
  have hval : ∀ (j : Nat) t v, Tryd.f6.params[j]? = some t → args[j]? = some v → Value.okWide Tryd.prog W .any base t v := hval0
  have hW' := hW
  obtain ⟨p, q, hA0, hV, rfl, hfz, hnd⟩ := hW
  have hA : DataW.TrodAll enc Tryd.prog W 0 (fun _ => true) true Tryd.f6.params.toList args.toList ds p := hA0
  rw [Tryd.params6] at hA hval
  obtain ⟨v0, vs0, d0, ds0, p0, q0, hargs, rfl, rfl, h0, r0⟩ := trodAll_cons hA
  obtain ⟨v1, vs1, d1, ds1, p1, q1, rfl, rfl, rfl, h1, r1⟩ := trodAll_cons r0
  obtain ⟨rfl, rfl, rfl⟩ := trodAll_nil r1
  obtain rfl : args = #[v0, v1] := by cases args; simp_all
  obtain ⟨rfl, rfl⟩ := trodVars_none hV
  obtain ⟨a0, rfl, rfl, rfl, w0⟩ := open_string Tryd.underlying9 (hval 0 9 v0 rfl rfl) h0
  obtain ⟨z1, s1, L1, rfl, hs1, hb1, hw1⟩ := Tryd.open_intl (hval 1 34 v1 rfl rfl) h1
  have hlt1 : ∀ x ∈ p1, x.block < W.heap.size := fun x hx => DataW.TrodAll.lt hA x (by simp [hx])
  clear hA0 hval0
  simp only [List.append_nil] at hW'
  have e1 : Rows.fnExactIsOrderSpec.fn H ([.lit (.string a0.data.toList), d1] ++ []) = { results := [.lit (.bool true)], args := [.lit (.string a0.data.toList), d1] } := by simp [Rows.fnExactIsOrderSpec]
  refine (lawIsOrder a0 z1 s1 L1 W hs1 hb1 hw1 (Tryd.laysM146.s1_3 W hsh)).mono fun e W' ⟨he, hg⟩ => ?_
  subst he
  refine ⟨_, rfl, _, _, _, [], ([] ++ (p1 ++ [])), [], hW', ?_, ?_, ?_, Below.frame hg _, fun h => by cases h⟩
  · rw [e1]; exact trodAll_cons_mk (shut_bool Tryd.underlying4 true) trodAll_mk0
  · rw [e1]; exact (trodAll_cons_mk (shut_string Tryd.underlying9 w0) (trodAll_cons_mk (Below.trod facts.p2 (by kernel_rfl) (of_decide_eq_true (by kernel_rfl)) h1 hg hlt1) trodAll_mk0))
  · rw [e1]; rfl
theorem kI : (Rows.fnExactIsOrderRow.inPlace == Tryd.prog.inPlace 6) = true := by kernel_rfl
theorem kU : (Rows.fnExactIsOrderRow.unfollowed == Tryd.prog.unfollowed 6) = true := by kernel_rfl
theorem kR : (Rows.fnExactIsOrderRow.recurses == Tryd.prog.recurses 6) = true := by kernel_rfl
theorem kN : (Rows.fnExactIsOrderRow.named == Tryd.prog.varsNamed 6) = true := by kernel_rfl
theorem closed : joinedFacts Tryd.prog 6 Tryd.f6 Rows.fnExactIsOrderSpec Rows.fnExactIsOrderRow = true := by
  unfold joinedFacts
  exact facts.and_i (facts.and_i (facts.and_i (facts.and_i (facts.and_i (facts.and_i (facts.and_i (facts.and_i (facts.and_i (facts.and_i (facts.and_i (facts.and_i (facts.and_i (facts.and_i (facts.and_i (facts.and_i (facts.and_i (facts.and_i (facts.and_i (facts.and_i (facts.and_i (facts.and_i (facts.and_i (facts.and_i (facts.and_i (facts.and_i (facts.and_i (facts.and_i (facts.and_i (facts.and_i (facts.and_i ((by kernel_rfl)) (facts.p2)) (facts.p3)) (by kernel_rfl)) (by kernel_rfl)) (by kernel_rfl)) (facts.p7)) (by kernel_rfl)) (facts.p9)) (kI)) (kU)) (kR)) (kN)) (by kernel_rfl)) (by kernel_rfl)) (by kernel_rfl)) (by kernel_rfl)) (by kernel_rfl)) (by kernel_rfl)) (by kernel_rfl)) (by kernel_rfl)) (by kernel_rfl)) ((show (Rows.fnExactIsOrderRow.plainKeys == Tryd.prog.plainKeys) = true from by rw [show Rows.fnExactIsOrderRow.plainKeys = Rows.fnExactIsDeskRow.plainKeys from rfl]; exact facts.p23))) (by kernel_rfl)) (facts.p25)) (facts.p26)) ((by rw [show Rows.fnExactIsOrderRow.lifted = Rows.fnExactIsDeskRow.lifted from rfl]; exact facts.p27))) ((by rw [show Rows.fnExactIsOrderRow.make = Rows.fnExactIsDeskRow.make from rfl]; exact facts.p28))) (by kernel_rfl)) (by kernel_rfl)) (by kernel_rfl)) (by kernel_rfl)

theorem row_holds : Rows.FnExactIsOrderSaid :=
  OpenClaim.holds_of_wide 6 Tryd.f6 rfl rfl rfl rfl rfl rfl rfl ⟨rfl, rfl, rfl, rfl, rfl⟩ rfl rfl rfl rfl rfl (by kernel_rfl) Tryd.func6 closed
    (of_decide_eq_true (by kernel_rfl)) (by unfold Func.isWrapper; first | (rw [if_pos (by decide +kernel)]; kernel_rfl) | (rw [if_neg (by decide +kernel)]; exact ⟨rfl, rfl⟩))
    (fun os started H enc _ => lifted os started H enc)
theorem cW : Rows.fnExactIsOrderRow.wfByText (OpenSpec.ofChange Rows.fnExactIsOrderSpec) = true := by kernel_rfl
theorem cG : false = Rows.fnExactIsOrderRow.goesBy Tryd.prog := by kernel_rfl
theorem cF : Tryd.prog.funcNamed "loop.example/g01199/laws.FnExactIsOrder" = some 6 := by kernel_rfl

theorem card_holds : Rows.FnExactIsOrderCardSaid :=
  Claim7.holds_tied_plain_at .later [] [.data, .pinned] true (true, "b56c3f4428b78518f08b24f82ecc154ff9a614e8043b649f1f08cc36808fe66f") false
    row_holds (fun _ h => by cases h) cW (fun _ h => by cases h) fnExactIsOrder_row_tie rfl ⟨rfl, rfl⟩ facts.mainIs rfl
    (fun f fn hf hfn => by
      obtain rfl : f = 6 := Option.some.inj (cF.symm.trans hf) |>.symm
      obtain rfl : fn = Tryd.f6 := (Option.some.inj (Tryd.func6.symm.trans hfn)).symm
      exact ⟨facts.looks0, fun j t ht => by
        rw [Tryd.params6] at ht
        have hm : t ∈ [9, 34] := by simpa using Array.mem_of_getElem? ht
        have hc : t = 9 ∨ t = 34 := by simp only [List.mem_cons, List.not_mem_nil, or_false] at hm; rcases hm with h | h <;> simp [h]
        rcases hc with rfl | rfl
        · exact facts.standIn9
        · exact facts.standIn34⟩)
    cG
end Go.Proofs.YtdebiobhmpoiiaaDoor.fnExactIsOrder
