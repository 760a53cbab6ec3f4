/-
  A word done several times: in the program and in the model; and the law.
-/
import Derived.Test.YtbppbbkcampglaaDoorBWd
import Derived.Test.YtbppbbkcampglaaDoorCallC
import Derived.Test.YtbppbbkcampglaaDoorOps
namespace Go.Proofs.YtbppbbkcampglaaDoor
open Go.RowKit
def pwOk (u : ByteArray) (k : Int) : Bool := wordB u && decide (0 ≤ k ∧ k ≤ 40) && decide ((u.size : Int) * k ≤ 40)
def pwS (u : ByteArray) (k : Int) : ByteArray := if pwOk u k then mkS (Lib.repeatL u.data.toList k.toNat) else ⟨#[]⟩
theorem pw_cases (u : ByteArray) (k : Int) : (wordB u = false ∧ pwOk u k = false ∧ pwS u k = ⟨#[]⟩) ∨ (wordB u = true ∧ ((k < 0 ∧ pwOk u k = false ∧ pwS u k = ⟨#[]⟩) ∨ (¬ k < 0 ∧ 40 < k ∧ pwOk u k = false ∧ pwS u k = ⟨#[]⟩) ∨
    ∃ n f : Nat, k = n ∧ n ≤ 40 ∧ (u.size : Int) * (n : Int) = f ∧ f ≤ 1600 ∧ u.size * n = f ∧ ((40 < f ∧ pwOk u k = false ∧ pwS u k = ⟨#[]⟩) ∨ (f ≤ 40 ∧ pwOk u k = true ∧ pwS u k = mkS (Lib.repeatL u.data.toList n))))) := by
  have bad : pwOk u k = false → pwS u k = ⟨#[]⟩ := fun h => by unfold pwS; rw [h]; rfl
  cases hw : wordB u with
  | false =>
    have h : pwOk u k = false := by unfold pwOk; rw [hw]; rfl
    exact .inl ⟨rfl, h, bad h⟩
  | true =>
    refine .inr ⟨rfl, ?_⟩
    have hs := (wordB_iff.1 hw).1
    by_cases h0 : k < 0
    · have h : pwOk u k = false := by unfold pwOk; rw [decide_eq_false (show ¬ (0 ≤ k ∧ k ≤ 40) by omega), Bool.and_false, Bool.false_and]
      exact .inl ⟨h0, h, bad h⟩
    · by_cases h40 : 40 < k
      · have h : pwOk u k = false := by unfold pwOk; rw [decide_eq_false (show ¬ (0 ≤ k ∧ k ≤ 40) by omega), Bool.and_false, Bool.false_and]
        exact .inr (.inl ⟨h0, h40, h, bad h⟩)
      · obtain ⟨n, rfl⟩ : ∃ n : Nat, k = n := ⟨k.toNat, by omega⟩
        have hn : n ≤ 40 := by omega
        have hf : u.size * n ≤ 40 * 40 := Nat.mul_le_mul hs hn
        refine .inr (.inr ⟨n, u.size * n, rfl, hn, by simp, hf, rfl, ?_⟩)
        have e : ((u.size : Int) * (n : Int) ≤ 40) ↔ u.size * n ≤ 40 := by rw [← Int.natCast_mul]; omega
        by_cases h4 : 40 < u.size * n
        · have h : pwOk u n = false := by unfold pwOk; rw [decide_eq_false (show ¬ (u.size : Int) * (n : Int) ≤ 40 by rw [e]; omega), Bool.and_false]
          exact .inl ⟨h4, h, bad h⟩
        · have h : pwOk u n = true := by
            unfold pwOk
            rw [hw, decide_eq_true (show (0 : Int) ≤ n ∧ (n : Int) ≤ 40 by omega), decide_eq_true (e.2 (by omega))]
            rfl
          exact .inr ⟨by omega, h, by unfold pwS; rw [h]; rfl⟩
theorem rep_succ (u : ByteArray) (j : Nat) : mkS (Lib.repeatL u.data.toList j) ++ u = mkS (Lib.repeatL u.data.toList (j + 1)) := by
  rw [Lib.repeatL_add, Lib.repeatL_one]
  apply ByteArray.ext
  rw [ByteArray.data_append]
  show (Lib.repeatL u.data.toList j).toArray ++ u.data = (Lib.repeatL u.data.toList j ++ u.data.toList).toArray
  apply Array.toList_inj.1
  simp
set_option maxHeartbeats 1000000 in
set_option maxRecDepth 100000 in
theorem iPowerWord (u : ByteArray) (k : Int) (w : World) : Calls Tryd.prog 8 #[.string u, .int .i64 k] w (Ret (.tuple #[.string (pwS u k), .bool (pwOk u k)]) w) := by
  have gg := Gr.refl w
  rcases pw_cases u k with ⟨h1, h2, h3⟩ | ⟨h1, ⟨h0, h2, h3⟩ | ⟨h0, h40, h2, h3⟩ | ⟨n, f, rfl, hn, hf, hf2, hf3, ⟨h40, h2, h3⟩ | ⟨h40, h2, h3⟩⟩⟩
  · have H1 := hidI h1
    have H2 := hidI h2
    have H3 := hidI h3
    clear h1 h2 h3
    go_enter Tryd.func8, Tryd.ntmps8
    go_wp2_with (go_at_call 20; refine (iIsWord u _).mono ?_; rintro e w1 ⟨rfl, g1⟩; rw [H1.out]; have z1 := g1.size; have gg := gg.trans g1)
    go_ret2
    exact ⟨fin_sb H3.out.symm H2.out.symm, gg⟩
  · have H1 := hidI h1
    have H2 := hidI h2
    have H3 := hidI h3
    clear h1 h2 h3
    go_enter Tryd.func8, Tryd.ntmps8
    go_wp2_with (go_at_call 20; refine (iIsWord u _).mono ?_; rintro e w1 ⟨rfl, g1⟩; rw [H1.out]; have z1 := g1.size; have gg := gg.trans g1)
    go_ret2
    exact ⟨fin_sb H3.out.symm H2.out.symm, gg⟩
  · have H1 := hidI h1
    have H2 := hidI h2
    have H3 := hidI h3
    clear h1 h2 h3
    go_enter Tryd.func8, Tryd.ntmps8
    go_wp2_with (go_at_call 20; refine (iIsWord u _).mono ?_; rintro e w1 ⟨rfl, g1⟩; rw [H1.out]; have z1 := g1.size; have gg := gg.trans g1)
    go_ret2
    exact ⟨fin_sb H3.out.symm H2.out.symm, gg⟩
  · have H1 := hidI h1
    have H2 := hidI h2
    have H3 := hidI h3
    have h0 : ¬ ((n : Int) < 0) := by omega
    have h41 : ¬ ((40 : Int) < (n : Int)) := by omega
    clear h1 h2 h3 hf3
    go_enter Tryd.func8, Tryd.ntmps8
    go_wp2_with (go_at_call 20; refine (iIsWord u _).mono ?_; rintro e w1 ⟨rfl, g1⟩; rw [H1.out]; have z1 := g1.size; have gg := gg.trans g1)
    go_ret2
    exact ⟨fin_sb H3.out.symm H2.out.symm, gg⟩
  · have H1 := hidI h1
    have H2 := hidI h2
    have H3 := hidI h3
    have h0 : ¬ ((n : Int) < 0) := by omega
    have h41 : ¬ ((40 : Int) < (n : Int)) := by omega
    have HR := hidI (fun (w : World) => show Calls Tryd.prog 21 #[.string u, .int .i64 n] w (Ret (.string (mkS (Lib.repeatL u.data.toList n))) w) from Tryd.strings_Repeat u n w (by omega) (by omega))
    clear h1 h2 h3 hf3
    go_enter Tryd.func8, Tryd.ntmps8
    go_wp2_with (first | (go_at_call 20; refine (iIsWord u _).mono ?_; rintro e w1 ⟨rfl, g1⟩; rw [H1.out]; have z1 := g1.size; have gg := gg.trans g1) | (go_at_call 21; refine (HR.out _).mono ?_; rintro e w2 ⟨rfl, g2⟩; have z2 := g2.size; have gg := gg.trans g2))
    go_ret2
    exact ⟨fin_sb H3.out.symm H2.out.symm, gg⟩
set_option maxHeartbeats 1000000 in
set_option maxRecDepth 100000 in
theorem sPowerWord (u : ByteArray) (k : Int) (w : World) : Calls Tryd.prog 7 #[.string u, .int .i64 k] w (Ret (.tuple #[.string (pwS u k), .bool (pwOk u k)]) w) := by
  have gg := Gr.refl w
  rcases pw_cases u k with ⟨h1, h2, h3⟩ | ⟨h1, ⟨h0, h2, h3⟩ | ⟨h0, h40, h2, h3⟩ | ⟨n, f, rfl, hn, hf, hf2, hf3, ⟨h40, h2, h3⟩ | ⟨h40, h2, h3⟩⟩⟩
  · have hbt : True := trivial
    have H1 := hidI h1
    have H2 := hidI h2
    have H3 := hidI h3
    clear h1 h2 h3 hbt
    go_enter Tryd.func7, Tryd.ntmps7
    go_wp2_with (go_at_call 18; refine (tiWord_any u _).mono ?_; rintro e w1 ⟨rfl, g1⟩; rw [H1.out]; have z1 := g1.size; have gg := gg.trans g1)
    go_ret2
    exact ⟨fin_sb H3.out.symm H2.out.symm, gg⟩
  · have hbt : btw k 0 40 = false := by unfold btw; rw [decide_eq_false (show ¬ 0 ≤ k by omega)]; rfl
    have H1 := hidI h1
    have H2 := hidI h2
    have H3 := hidI h3
    have HB := hidI hbt
    clear h1 h2 h3 hbt
    go_enter Tryd.func7, Tryd.ntmps7
    go_wp2_with (first | (go_at_call 18; refine (tiWord_any u _).mono ?_; rintro e w1 ⟨rfl, g1⟩; rw [H1.out]; have z1 := g1.size; have gg := gg.trans g1) | (go_at_call 19; refine (l1In_any _ _ _ _).mono ?_; rintro e wSame ⟨rfl, rfl⟩; rw [HB.out]))
    go_ret2
    exact ⟨fin_sb H3.out.symm H2.out.symm, gg⟩
  · have hbt : btw k 0 40 = false := by unfold btw; rw [decide_eq_false (show ¬ k ≤ 40 by omega), Bool.and_false]
    have H1 := hidI h1
    have H2 := hidI h2
    have H3 := hidI h3
    have HB := hidI hbt
    clear h1 h2 h3 hbt
    go_enter Tryd.func7, Tryd.ntmps7
    go_wp2_with (first | (go_at_call 18; refine (tiWord_any u _).mono ?_; rintro e w1 ⟨rfl, g1⟩; rw [H1.out]; have z1 := g1.size; have gg := gg.trans g1) | (go_at_call 19; refine (l1In_any _ _ _ _).mono ?_; rintro e wSame ⟨rfl, rfl⟩; rw [HB.out]))
    go_ret2
    exact ⟨fin_sb H3.out.symm H2.out.symm, gg⟩
  · have hbt : btw n 0 40 = true := by unfold btw; rw [decide_eq_true (show (0 : Int) ≤ n by omega), decide_eq_true (show (n : Int) ≤ 40 by omega)]; rfl
    clear hf3
    have H1 := hidI h1
    have H2 := hidI h2
    have H3 := hidI h3
    have HB := hidI hbt
    clear h1 h2 h3 hbt
    go_enter Tryd.func7, Tryd.ntmps7
    go_wp2_with (first | (go_at_call 18; refine (tiWord_any u _).mono ?_; rintro e w1 ⟨rfl, g1⟩; rw [H1.out]; have z1 := g1.size; have gg := gg.trans g1) | (go_at_call 19; refine (l1In_any _ _ _ _).mono ?_; rintro e wSame ⟨rfl, rfl⟩; rw [HB.out]))
    go_ret2
    exact ⟨fin_sb H3.out.symm H2.out.symm, gg⟩
  · have hbt : btw n 0 40 = true := by unfold btw; rw [decide_eq_true (show (0 : Int) ≤ n by omega), decide_eq_true (show (n : Int) ≤ 40 by omega)]; rfl
    have H1 := hidI h1
    have H2 := hidI h2
    have H3 := hidI h3
    have HB := hidI hbt
    have hu40 := (wordB_iff.1 h1).1
    clear h1 h2 h3 hbt hf3
    go_enter Tryd.func7, Tryd.ntmps7
    go_wp2_with (first | (go_at_call 18; refine (tiWord_any u _).mono ?_; rintro e w1 ⟨rfl, g1⟩; rw [H1.out]; have z1 := g1.size; have gg := gg.trans g1) | (go_at_call 19; refine (l1In_any _ _ _ _).mono ?_; rintro e wSame ⟨rfl, rfl⟩; rw [HB.out]))
    go_loopw [1, 6] (fun kv ov wr => ∃ (j : Nat) (v : ByteArray), j ≤ n ∧ kv = .int .i64 ((n - j : Nat) : Int) ∧ ov = .string v ∧ Hid (v = mkS (Lib.repeatL u.data.toList j)) ∧ Gr w wr) (fun kv _ _ => (intOf kv).toNat)
    case atStart => exact ⟨0, ⟨#[]⟩, Nat.zero_le _, rfl, rfl, hidI rfl, gg⟩
    case round =>
      clear gg
      obtain ⟨j, v, hj, rfl, rfl, HV, gg⟩ := hrel
      obtain ⟨m, hm⟩ : ∃ m, m = n - j := ⟨_, rfl⟩
      rw [← hm]
      by_cases hlt : 0 < m
      · have HV2 := hidI (show v ++ u = mkS (Lib.repeatL u.data.toList (j + 1)) from by rw [HV.out]; exact rep_succ u j)
        have hm2 : (m : Int) - 1 = ((n - (j + 1) : Nat) : Int) := by omega
        have HM2 := hidI hm2
        have hd : (0 : Int) < (m : Int) := by omega
        have hm40 : m ≤ 40 := by omega
        have hjn : j + 1 ≤ n := by omega
        have hvs : v.size ≤ 1600 := by
          rw [HV.out, mkS_size, Lib.repeatL_length]
          have h1 : u.data.toList.length ≤ 40 := by rw [show u.data.toList.length = u.size from Array.length_toList]; exact hu40
          have h2 : j * u.data.toList.length ≤ 40 * 40 := Nat.mul_le_mul (by omega) h1
          omega
        clear hm2 hm
        go_wp2
        go_roundw
        case rel => exact ⟨j + 1, v ++ u, hjn, by rw [← HM2.out], rfl, HV2, gg⟩
        case measure => have := HM2.out; simp [intOf]; omega
      · have hjn : j = n := by omega
        obtain rfl : m = 0 := by omega
        have HE := hidI (show v = pwS u n from by rw [HV.out, H3.out, hjn])
        clear hm hjn hlt
        go_wp2
        go_ret2
        exact ⟨fin_sb HE.out H2.out.symm, gg⟩
set_option maxHeartbeats 1000000 in
theorem lawPowerWord (s : ByteArray) (k : Int) (w : World) : Calls Tryd.prog 3 #[.string s, .int .i64 k] w (Ret (.bool true) w) := by
  have gg := Gr.refl w
  by_cases hs : 1048576 < s.size
  · go_enter Tryd.func3, Tryd.ntmps3
    go_wp2
    go_ret
    exact ⟨rfl, gg⟩
  · have hs' : s.size ≤ 1048576 := by omega
    clear hs
    go_enter Tryd.func3, Tryd.ntmps3
    go_wp2_with (first | (go_at_call 7; refine (sPowerWord s k _).mono ?_; rintro e w1 ⟨rfl, g1⟩; have z1 := g1.size; have gg := gg.trans g1) | (go_at_call 8; refine (iPowerWord s k _).mono ?_; rintro e w2 ⟨rfl, g2⟩; have z2 := g2.size; have gg := gg.trans g2))
    go_ret
    exact ⟨rfl, gg⟩
end Go.Proofs.YtbppbbkcampglaaDoor
