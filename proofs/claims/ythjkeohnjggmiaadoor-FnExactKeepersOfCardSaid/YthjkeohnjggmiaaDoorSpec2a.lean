/-
  Words and directions: in the program and in the model, and the law on words.
-/
import Derived.Test.YthjkeohnjggmiaaDoorWordsP
import Derived.Test.YthjkeohnjggmiaaDoorShelf
import Derived.Shelf.Strings.SlTrimAscii
namespace Go.Proofs.YthjkeohnjggmiaaDoor
open Go.RowKit
theorem eql_bool (a b : ByteArray) : (a.toList == b.toList) = decide (a = b) := by
  rw [Lib.toList_data, Lib.toList_data, Bool.eq_iff_iff, beq_iff_eq, decide_eq_true_eq]
  constructor
  · intro h; exact ByteArray.ext (Array.toList_inj.1 h)
  · rintro rfl; rfl
theorem dS_hit (s : ByteArray) : (s = ⟨#[117]⟩ → dS s = 0) ∧ (s = ⟨#[114]⟩ → dS s = 1) ∧ (s = ⟨#[100]⟩ → dS s = 2) ∧ (s = ⟨#[108]⟩ → dS s = 3) := by
  refine ⟨?_, ?_, ?_, ?_⟩ <;> (rintro rfl; rfl)
theorem dS_miss (s : ByteArray) (h0 : s ≠ ⟨#[117]⟩) (h1 : s ≠ ⟨#[114]⟩) (h2 : s ≠ ⟨#[100]⟩) (h3 : s ≠ ⟨#[108]⟩) : dS s = -1 := by
  unfold dS
  by_cases h : s.size = 1
  · rw [if_pos h]
    have e := one_of s h
    unfold dI
    rw [if_neg, if_neg, if_neg, if_neg]
    all_goals intro e2; rw [e2] at e
    · exact h3 e
    · exact h2 e
    · exact h1 e
    · exact h0 e
  · rw [if_neg h]
theorem wordB_iff {s : ByteArray} : wordB s = true ↔ s.size ≤ 40 ∧ ∀ i (h : i < s.size), dirB s[i] = true := by
  unfold wordB
  rw [Bool.and_eq_true, decide_eq_true_eq, List.all_eq_true]
  refine and_congr Iff.rfl ⟨fun h i hi => h _ ?_, fun h b hb => ?_⟩
  · rw [ByteArray.getElem_eq_getElem_data]; exact Array.getElem_mem_toList hi
  · obtain ⟨i, hi, rfl⟩ := List.getElem_of_mem hb
    exact h i hi
set_option maxHeartbeats 1000000 in
theorem iIsWord (s : ByteArray) (w : World) : Calls Tryd.prog 33 #[.string s] w (Ret (.bool (wordB s)) w) := by
  have gg := Gr.refl w
  by_cases h : s.size ≤ 40
  · have hc : ∀ w, Calls Tryd.prog 69 #[.string s, .string ⟨#[117, 114, 100, 108]⟩] w fun e w' => e = .returned (.string ⟨(Lib.trimS s.data.toList [117, 114, 100, 108]).toArray⟩) ∧ Below w.heap.size w w' := fun w =>
      Any.strings_Trim_laid Tryd.lays160 (by kernel_rfl) s ⟨#[117, 114, 100, 108]⟩ w (by omega) (by decide) (ascii_of_all (by decide))
    have HC := hidI hc
    have hv : (Lib.trimS s.data.toList [117, 114, 100, 108]).isEmpty = wordB s := by
      unfold wordB
      rw [decide_eq_true h, Bool.true_and, Bool.eq_iff_iff, List.isEmpty_iff, trimS_nil]
      rfl
    have HV := hidI hv
    clear hc hv
    go_enter Tryd.func33, Tryd.ntmps33
    go_wp2_with (go_at_call 69; refine (HC.out _).mono ?_; rintro e w1 ⟨rfl, g1⟩; have gg : Gr w w1 := g1)
    go_ret
    exact ⟨ret_bool HV.out, gg⟩
  · have HV := hidI (show wordB s = false from by unfold wordB; rw [decide_eq_false h]; rfl)
    have h' : 40 < s.size := by omega
    clear h
    go_enter Tryd.func33, Tryd.ntmps33
    go_wp2
    go_ret
    exact ⟨ret_bool HV.out.symm, gg⟩
theorem Tryd.ssub (s : ByteArray) (i : Nat) (h : i < s.size) (w : World) : (Instr.sliceAt 9 (.string s) (some (.int .i64 i)) (some (.int .i64 ((i : Int) + 1))) none).run Tryd.prog w = .ok (.string ⟨#[s[i]'h]⟩) w := by
  rw [run_sliceAt_string (P := Tryd.prog) w 9 _ _ _ _ Tryd.underlying9, run_slice_string_if (P := Tryd.prog) w 9 s .i64 .i64 i ((i : Int) + 1) Tryd.underlying9, if_pos (by omega), if_pos (by omega)]
  have e1 : ((i : Int)).toNat = i := by omega
  have e2 : ((i : Int) + 1).toNat = i + 1 := by omega
  rw [e1, e2, byte_sub s i h]
set_option maxHeartbeats 1000000 in
theorem tiDirs_any (w : World) : Calls Tryd.prog 102 #[] w fun e w' => e = .returned (.string ⟨#[117, 114, 100, 108]⟩) ∧ w = w' := by
  go_enter Tryd.func102, Tryd.ntmps102
  go_wp2
  go_ret
  exact ⟨rfl, rfl⟩
set_option maxHeartbeats 2000000 in
theorem tiDir_any (s : ByteArray) (w : World) : Calls Tryd.prog 94 #[.string s] w (Ret (.int .i64 (dS s)) w) := by
  have gg := Gr.refl w
  have HH := hidI (dS_hit s)
  go_enter Tryd.func94, Tryd.ntmps94
  go_wp2
  go_loop [3] (fun i => ∃ k : Nat, k ≤ 4 ∧ i = .int .i64 k ∧ Hid ((0 < k → s ≠ ⟨#[117]⟩) ∧ (1 < k → s ≠ ⟨#[114]⟩) ∧ (2 < k → s ≠ ⟨#[100]⟩) ∧ (3 < k → s ≠ ⟨#[108]⟩))) (fun i => 4 - (intOf i).toNat)
  case atStart => exact ⟨0, by omega, rfl, fun h => absurd h (by omega), fun h => absurd h (by omega), fun h => absurd h (by omega), fun h => absurd h (by omega)⟩
  case round =>
    obtain ⟨k, hk, rfl, HA⟩ := hrel
    have hcs : k = 0 ∨ k = 1 ∨ k = 2 ∨ k = 3 ∨ k = 4 := by omega
    clear hk
    rcases hcs with rfl | rfl | rfl | rfl | rfl
    · have hq : (s.toList == ((⟨#[117, 114, 100, 108]⟩ : ByteArray).extract 0 1).toList) = decide (s = ⟨#[117]⟩) := eql_bool _ _
      by_cases hb : s = ⟨#[117]⟩
      · rw [decide_eq_true hb] at hq
        have HV := hidI (HH.out.1 hb)
        clear hb
        go_wp2_with (go_at_call 102; refine (tiDirs_any _).mono ?_; rintro e wSame ⟨rfl, rfl⟩)
        go_ret
        exact ⟨ret_int HV.out.symm, gg⟩
      · rw [decide_eq_false hb] at hq
        have HB := hidI hb
        clear hb
        go_wp2_with (go_at_call 102; refine (tiDirs_any _).mono ?_; rintro e wSame ⟨rfl, rfl⟩)
        go_round
        case rel => exact ⟨1, by omega, by go_num, fun _ => HB.out, fun h => absurd h (by omega), fun h => absurd h (by omega), fun h => absurd h (by omega)⟩
        case measure => simp [intOf]
    · have hq : (s.toList == ((⟨#[117, 114, 100, 108]⟩ : ByteArray).extract 1 2).toList) = decide (s = ⟨#[114]⟩) := eql_bool _ _
      by_cases hb : s = ⟨#[114]⟩
      · rw [decide_eq_true hb] at hq
        have HV := hidI (HH.out.2.1 hb)
        clear hb
        go_wp2_with (go_at_call 102; refine (tiDirs_any _).mono ?_; rintro e wSame ⟨rfl, rfl⟩)
        go_ret
        exact ⟨ret_int HV.out.symm, gg⟩
      · rw [decide_eq_false hb] at hq
        have HB := hidI hb
        clear hb
        go_wp2_with (go_at_call 102; refine (tiDirs_any _).mono ?_; rintro e wSame ⟨rfl, rfl⟩)
        go_round
        case rel => exact ⟨2, by omega, by go_num, fun _ => HA.out.1 (by omega), fun _ => HB.out, fun h => absurd h (by omega), fun h => absurd h (by omega)⟩
        case measure => simp [intOf]
    · have hq : (s.toList == ((⟨#[117, 114, 100, 108]⟩ : ByteArray).extract 2 3).toList) = decide (s = ⟨#[100]⟩) := eql_bool _ _
      by_cases hb : s = ⟨#[100]⟩
      · rw [decide_eq_true hb] at hq
        have HV := hidI (HH.out.2.2.1 hb)
        clear hb
        go_wp2_with (go_at_call 102; refine (tiDirs_any _).mono ?_; rintro e wSame ⟨rfl, rfl⟩)
        go_ret
        exact ⟨ret_int HV.out.symm, gg⟩
      · rw [decide_eq_false hb] at hq
        have HB := hidI hb
        clear hb
        go_wp2_with (go_at_call 102; refine (tiDirs_any _).mono ?_; rintro e wSame ⟨rfl, rfl⟩)
        go_round
        case rel => exact ⟨3, by omega, by go_num, fun _ => HA.out.1 (by omega), fun _ => HA.out.2.1 (by omega), fun _ => HB.out, fun h => absurd h (by omega)⟩
        case measure => simp [intOf]
    · have hq : (s.toList == ((⟨#[117, 114, 100, 108]⟩ : ByteArray).extract 3 4).toList) = decide (s = ⟨#[108]⟩) := eql_bool _ _
      by_cases hb : s = ⟨#[108]⟩
      · rw [decide_eq_true hb] at hq
        have HV := hidI (HH.out.2.2.2 hb)
        clear hb
        go_wp2_with (go_at_call 102; refine (tiDirs_any _).mono ?_; rintro e wSame ⟨rfl, rfl⟩)
        go_ret
        exact ⟨ret_int HV.out.symm, gg⟩
      · rw [decide_eq_false hb] at hq
        have HB := hidI hb
        clear hb
        go_wp2_with (go_at_call 102; refine (tiDirs_any _).mono ?_; rintro e wSame ⟨rfl, rfl⟩)
        go_round
        case rel => exact ⟨4, by omega, by go_num, fun _ => HA.out.1 (by omega), fun _ => HA.out.2.1 (by omega), fun _ => HA.out.2.2.1 (by omega), fun _ => HB.out⟩
        case measure => simp [intOf]
    · have HV := hidI (dS_miss s (HA.out.1 (by omega)) (HA.out.2.1 (by omega)) (HA.out.2.2.1 (by omega)) (HA.out.2.2.2 (by omega)))
      go_wp2
      go_ret
      exact ⟨ret_int HV.out.symm, gg⟩
set_option maxHeartbeats 2000000 in
theorem tiWord_any (s : ByteArray) (w : World) : Calls Tryd.prog 68 #[.string s] w (Ret (.bool (wordB s)) w) := by
  have gg := Gr.refl w
  by_cases h : s.size ≤ 40
  · go_enter Tryd.func68, Tryd.ntmps68
    go_wp2
    go_loopw [3] (fun i wr => ∃ k : Nat, k ≤ s.size ∧ i = .int .i64 k ∧ Gr w wr ∧ Hid (∀ j (hj : j < s.size), j < k → dirB s[j] = true)) (fun i _ => s.size - (intOf i).toNat)
    case atStart => exact ⟨0, Nat.zero_le _, rfl, gg, fun j _ hj => absurd hj (by omega)⟩
    case round =>
      obtain ⟨k, hk, rfl, gg, HA⟩ := hrel
      by_cases hlt : k < s.size
      · have hsl := Tryd.ssub s k hlt
        obtain ⟨b, hb⟩ : ∃ b, b = s[k] := ⟨_, rfl⟩
        rw [← hb] at hsl
        have hd1 : dS ⟨#[b]⟩ = dI b := rfl
        by_cases hd : dirB b = true
        · have hneg : ¬ dI b < 0 := by rw [dI_neg, hd]; simp
          have HD := hidI hd
          have HB := hidI hb
          clear hd hb
          go_wp2_with (go_at_call 94; refine (tiDir_any ⟨#[b]⟩ _).mono ?_; rintro e w1 ⟨rfl, g1⟩; rw [hd1]; have gg := gg.trans g1)
          go_roundw
          case rel => exact ⟨k + 1, by omega, by go_num, gg, fun j hj hjk => if h : j < k then HA.out j hj h else (by have e : j = k := (by omega); subst e; rw [← HB.out]; exact HD.out)⟩
          case measure => simp [intOf]; omega
        · have hneg : dI b < 0 := by rw [dI_neg]; simpa using hd
          have HV := hidI (show wordB s = false from by
            rw [← Bool.not_eq_true, wordB_iff]
            rintro ⟨_, h2⟩
            exact hd (by rw [hb]; exact h2 k hlt))
          clear hd hb
          go_wp2_with (go_at_call 94; refine (tiDir_any ⟨#[b]⟩ _).mono ?_; rintro e w1 ⟨rfl, g1⟩; rw [hd1]; have gg := gg.trans g1)
          go_ret
          exact ⟨ret_bool HV.out.symm, gg⟩
      · obtain rfl : k = s.size := by omega
        have HV := hidI (show wordB s = true from wordB_iff.2 ⟨h, fun i hi => HA.out i hi hi⟩)
        clear hlt
        go_wp2
        go_ret
        exact ⟨ret_bool HV.out.symm, gg⟩
  · have HV := hidI (show wordB s = false from by unfold wordB; rw [decide_eq_false h]; rfl)
    have h' : 40 < s.size := by omega
    clear h
    go_enter Tryd.func68, Tryd.ntmps68
    go_wp2
    go_ret
    exact ⟨ret_bool HV.out.symm, gg⟩
set_option maxHeartbeats 1000000 in
theorem sIsWord (s : ByteArray) (w : World) : Calls Tryd.prog 32 #[.string s] w (Ret (.bool (wordB s)) w) := by
  have gg := Gr.refl w
  go_enter Tryd.func32, Tryd.ntmps32
  go_wp2_with (go_at_call 68; refine (tiWord_any s _).mono ?_; rintro e w1 ⟨rfl, g1⟩; have z1 := g1.size; have gg := gg.trans g1)
  go_ret
  exact ⟨rfl, gg⟩
set_option maxHeartbeats 1000000 in
theorem lawIsWord (s : ByteArray) (w : World) : Calls Tryd.prog 10 #[.string s] w (Ret (.bool true) w) := by
  have gg := Gr.refl w
  by_cases hs : 1048576 < s.size
  · go_enter Tryd.func10, Tryd.ntmps10
    go_wp2
    go_ret
    exact ⟨rfl, gg⟩
  · have hs' : s.size ≤ 1048576 := by omega
    clear hs
    go_enter Tryd.func10, Tryd.ntmps10
    go_wp2_with (first | (go_at_call 32; refine (sIsWord s _).mono ?_; rintro e w1 ⟨rfl, g1⟩; have z1 := g1.size; have gg := gg.trans g1) | (go_at_call 33; refine (iIsWord s _).mono ?_; rintro e w2 ⟨rfl, g2⟩; have z2 := g2.size; have gg := gg.trans g2))
    go_ret
    exact ⟨rfl, gg⟩
end Go.Proofs.YthjkeohnjggmiaaDoor
