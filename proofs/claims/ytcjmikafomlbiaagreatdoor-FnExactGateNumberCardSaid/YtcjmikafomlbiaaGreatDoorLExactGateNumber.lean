/-
  The law FnExactGateNumber, proved at its row and its card: for every input the call returns true, and each argument reads behind it as it read before.
  Conditions: none of ours.
-/
import Derived.Test.YtcjmikafomlbiaaGreatDoorRows
import Derived.Test.YtcjmikafomlbiaaGreatDoorFacts
import Derived.Test.YtcjmikafomlbiaaGreatDoorFacts2
import Derived.Test.YtcjmikafomlbiaaGreatDoorRowKit
import Derived.Test.YtcjmikafomlbiaaGreatDoorGateQ
import Derived.Test.YtcjmikafomlbiaaGreatDoorRowI
import Derived.Carry
import Derived.Test.YtcjmikafomlbiaaGreatDoorCards
import Derived.Test.YtcjmikafomlbiaaGreatDoorTie
namespace Go.Proofs.YtcjmikafomlbiaaGreatDoor.fnExactGateNumber
open Go.ChangeShapes Go.WideShapes Go.ChangeAt Go.RowKit
open Go.ChangeMaps (open_string shut_string)

theorem own : ownKnob Tryz.prog.godebug = none := by kernel_rfl
noncomputable def laid : List (String × DataW Unit) := [("unicode/utf8.acceptRanges", Rows.laid_unicode_utf8_acceptRanges), ("unicode/utf8.first", Rows.laid_unicode_utf8_first)]
set_option maxRecDepth 100000 in
set_option maxHeartbeats 1000000 in
theorem lifted (os : Os) (started : os.Started) (H : Type) (enc : TypeId × Value → H) :
    ReturnsInHanded {} Tryz.checked os 4 .any (fun w args => (Rows.fnExactGateNumberSpec.pre enc Tryz.prog Tryz.f4 Rows.fnExactGateNumberRow.domain false w args ∧ laidMetH Tryz.prog laid w) ∧ sizedMet enc Tryz.prog Tryz.f4 (OpenSpec.ofChange Rows.fnExactGateNumberSpec) false w args)
      (Rows.fnExactGateNumberSpec.post enc Tryz.prog Tryz.f4 false true false false) := by
  refine handed_both (C := Tryz.checked) (X := fun w _ => laidMetH Tryz.prog laid w) (fun _ _ _ hh h => h.of_heap hh) own started (by kernel_rfl) Tryz.func4
    (ChangeSpec.witness_shaped (enc := enc) (C := Tryz.checked) (os := os) (X := fun w _ => laidMetH Tryz.prog laid w) false (World.laidAll Tryz.prog os laid) #[.string ByteArray.empty, .slice none 0 0, .int .i64 0, .string ByteArray.empty] 8 (World.laidAll_os _ _ _)
      (World.shaped_of_ZipB (by kernel_rfl) (by kernel_rfl)) (by kernel_rfl) (by kernel_rfl) (by kernel_rfl)
      (by rw [MakeChecks.laidMetH_plain _ _ _ (by kernel_rfl)]; exact laidMet_laidAll _ (by kernel_rfl) (by kernel_rfl))) ?_
  intro W base args ds gs before hval0 hW hsh
  have hval : ∀ (j : Nat) t v, Tryz.f4.params[j]? = some t → args[j]? = some v → Value.okWide Tryz.prog W .any base t v := hval0
  have hW' := hW
  obtain ⟨p, q, hA0, hV, rfl, hfz, hnd⟩ := hW
  have hA : DataW.TrodAll enc Tryz.prog W 0 (fun _ => true) true Tryz.f4.params.toList args.toList ds p := hA0
  rw [Tryz.params4] at hA hval
  obtain ⟨v0, vs0, d0, ds0, p0, q0, hargs, rfl, rfl, h0, r0⟩ := trodAll_cons hA
  obtain ⟨v1, vs1, d1, ds1, p1, q1, rfl, rfl, rfl, h1, r1⟩ := trodAll_cons r0
  obtain ⟨v2, vs2, d2, ds2, p2, q2, rfl, rfl, rfl, h2, r2⟩ := trodAll_cons r1
  obtain ⟨v3, vs3, d3, ds3, p3, q3, rfl, rfl, rfl, h3, r3⟩ := trodAll_cons r2
  obtain ⟨rfl, rfl, rfl⟩ := trodAll_nil r3
  obtain rfl : args = #[v0, v1, v2, v3] := by cases args; simp_all
  obtain ⟨rfl, rfl⟩ := trodVars_none hV
  obtain ⟨a0, rfl, rfl, rfl, w0⟩ := open_string Tryz.underlying9 (hval 0 9 v0 rfl rfl) h0
  obtain ⟨z1, s1, L1, rfl, hs1, hb1, hw1⟩ := Tryz.open_intl (hval 1 22 v1 rfl rfl) h1
  have hlt1 : ∀ x ∈ p1, x.block < W.heap.size := fun x hx => DataW.TrodAll.lt hA x (by simp [hx])
  obtain ⟨a2, rfl, rfl, rfl, w2⟩ := open_int Tryz.underlying3 (hval 2 3 v2 rfl rfl) h2
  obtain ⟨a3, rfl, rfl, rfl, w3⟩ := open_string Tryz.underlying9 (hval 3 9 v3 rfl rfl) h3
  clear hA0 hval0
  simp only [List.append_nil] at hW'
  have e1 : Rows.fnExactGateNumberSpec.fn H ([.lit (.string a0.data.toList), d1, .lit (.int .i64 a2), .lit (.string a3.data.toList)] ++ []) = { results := [.lit (.bool true)], args := [.lit (.string a0.data.toList), d1, .lit (.int .i64 a2), .lit (.string a3.data.toList)] } := by simp [Rows.fnExactGateNumberSpec]
  refine (lawGateNumber a0 z1 s1 L1 a2 a3 W hs1 hb1 hw1 w2 (Tryz.laysM146.s1_3 W hsh)).mono fun e W' ⟨he, hg⟩ => ?_
  subst he
  refine ⟨_, rfl, _, _, _, [], ([] ++ (p1 ++ ([] ++ ([] ++ [])))), [], hW', ?_, ?_, ?_, Below.frame hg _, fun h => by cases h⟩
  · rw [e1]; exact trodAll_cons_mk (shut_bool Tryz.underlying4 true) trodAll_mk0
  · rw [e1]; exact (trodAll_cons_mk (shut_string Tryz.underlying9 w0) (trodAll_cons_mk (Below.trod facts.p2 (by kernel_rfl) (of_decide_eq_true (by kernel_rfl)) h1 hg hlt1) (trodAll_cons_mk (shut_int Tryz.underlying3 w2) (trodAll_cons_mk (shut_string Tryz.underlying9 w3) trodAll_mk0))))
  · rw [e1]; rfl
theorem kI : (Rows.fnExactGateNumberRow.inPlace == Tryz.prog.inPlace 4) = true := by kernel_rfl
theorem kU : (Rows.fnExactGateNumberRow.unfollowed == Tryz.prog.unfollowed 4) = true := by kernel_rfl
theorem kR : (Rows.fnExactGateNumberRow.recurses == Tryz.prog.recurses 4) = true := by kernel_rfl
theorem kN : (Rows.fnExactGateNumberRow.named == Tryz.prog.varsNamed 4) = true := by kernel_rfl
theorem closed : joinedFacts Tryz.prog 4 Tryz.f4 Rows.fnExactGateNumberSpec Rows.fnExactGateNumberRow = true := by
  unfold joinedFacts
  exact facts.and_i (facts.and_i (facts.and_i (facts.and_i (facts.and_i (facts.and_i (facts.and_i (facts.and_i (facts.and_i (facts.and_i (facts.and_i (facts.and_i (facts.and_i (facts.and_i (facts.and_i (facts.and_i (facts.and_i (facts.and_i (facts.and_i (facts.and_i (facts.and_i (facts.and_i (facts.and_i (facts.and_i (facts.and_i (facts.and_i (facts.and_i (facts.and_i (facts.and_i (facts.and_i (facts.and_i ((by kernel_rfl)) (facts.p2)) (facts.p3)) (by kernel_rfl)) (by kernel_rfl)) (by kernel_rfl)) (facts.p7)) (by kernel_rfl)) (facts.p9)) (kI)) (kU)) (kR)) (kN)) (by kernel_rfl)) (by kernel_rfl)) (by kernel_rfl)) (by kernel_rfl)) (by kernel_rfl)) (by kernel_rfl)) (by kernel_rfl)) (by kernel_rfl)) (by kernel_rfl)) ((show (Rows.fnExactGateNumberRow.plainKeys == Tryz.prog.plainKeys) = true from by rw [show Rows.fnExactGateNumberRow.plainKeys = Rows.fnExactGateTableRow.plainKeys from rfl]; exact facts.p23))) (by kernel_rfl)) (facts.p25)) (facts.p26)) ((by rw [show Rows.fnExactGateNumberRow.lifted = Rows.fnExactGateTableRow.lifted from rfl]; exact facts.p27))) ((by rw [show Rows.fnExactGateNumberRow.make = Rows.fnExactGateTableRow.make from rfl]; exact facts.p28))) (by kernel_rfl)) (by kernel_rfl)) (by kernel_rfl)) (by kernel_rfl)

theorem row_holds : Rows.FnExactGateNumberSaid :=
  OpenClaim.holds_of_wide 4 Tryz.f4 rfl rfl rfl rfl rfl rfl rfl ⟨rfl, rfl, rfl, rfl, rfl⟩ rfl rfl rfl rfl rfl (by kernel_rfl) Tryz.func4 closed
    (of_decide_eq_true (by kernel_rfl)) (by unfold Func.isWrapper; first | (rw [if_pos (by decide +kernel)]; kernel_rfl) | (rw [if_neg (by decide +kernel)]; exact ⟨rfl, rfl⟩))
    (fun os started H enc _ => lifted os started H enc)
theorem cW : Rows.fnExactGateNumberRow.wfByText (OpenSpec.ofChange Rows.fnExactGateNumberSpec) = true := by kernel_rfl
theorem cG : false = Rows.fnExactGateNumberRow.goesBy Tryz.prog := by kernel_rfl
theorem cF : Tryz.prog.funcNamed "loop.example/g01199/laws.FnExactGateNumber" = some 4 := by kernel_rfl

theorem card_holds : Rows.FnExactGateNumberCardSaid :=
  Claim7.holds_tied_plain_at .later [] [.data, .pinned] true (true, "a8c3464f054e2314b816f28fd79ec567d4cb3ef43a39423e7d2cb2f6c398aa7c") false
    row_holds (fun _ h => by cases h) cW (fun _ h => by cases h) fnExactGateNumber_row_tie rfl ⟨rfl, rfl⟩ facts.mainIs rfl
    (fun f fn hf hfn => by
      obtain rfl : f = 4 := Option.some.inj (cF.symm.trans hf) |>.symm
      obtain rfl : fn = Tryz.f4 := (Option.some.inj (Tryz.func4.symm.trans hfn)).symm
      exact ⟨facts.looks0, fun j t ht => by
        rw [Tryz.params4] at ht
        have hm : t ∈ [9, 22, 3, 9] := by simpa using Array.mem_of_getElem? ht
        have hc : t = 9 ∨ t = 22 ∨ t = 3 := by simp only [List.mem_cons, List.not_mem_nil, or_false] at hm; rcases hm with h | h | h | h <;> simp [h]
        rcases hc with rfl | rfl | rfl
        · exact facts.standIn9
        · exact facts.standIn22
        · exact facts.standIn3⟩)
    cG
end Go.Proofs.YtcjmikafomlbiaaGreatDoor.fnExactGateNumber
