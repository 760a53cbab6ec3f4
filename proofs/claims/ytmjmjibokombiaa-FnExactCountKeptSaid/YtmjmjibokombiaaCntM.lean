/-
  The moves that fit a size: in the program and in the model, and the law.
-/
import Derived.Test.YtmjmjibokombiaaCntP
import Derived.Test.YtmjmjibokombiaaBLs
namespace Go.Proofs.Ytmjmjibokombiaa
open Go.RowKit
def fitB (a b m : Nat) : Bool := decide (a = b) || decide (m % 2 = 0)
def mvToC (a b : Nat) : Nat → List Int
  | 0 => []
  | k + 1 => if fitB a b k = true then mvToC a b k ++ [(k : Int)] else mvToC a b k
theorem mvTo_leC (a b k : Nat) : (mvToC a b k).length ≤ k := by
  induction k with
  | zero => exact Nat.le_refl _
  | succ k ih => unfold mvToC; split <;> (try rw [List.length_append, List.length_singleton]) <;> omega
theorem fit_cases (a b k : Nat) : (fitB a b k = true ∧ ((((a : Int) == (b : Int)) = true) ∨ ((((a : Int) == (b : Int)) = false) ∧ (((k : Int) % 2 == 0) = true) ∧ k % 2 = 0))) ∨ (fitB a b k = false ∧ (((a : Int) == (b : Int)) = false) ∧ (((k : Int) % 2 == 0) = false) ∧ k % 2 = 1) := by
  by_cases h : a = b
  · exact .inl ⟨by unfold fitB; rw [decide_eq_true h]; rfl, .inl (by rw [beq_iff_eq]; omega)⟩
  · have h1 : (((a : Int) == (b : Int)) = false) := by rw [beq_eq_false_iff_ne]; omega
    by_cases h2 : k % 2 = 0
    · exact .inl ⟨by unfold fitB; rw [decide_eq_true h2, Bool.or_true], .inr ⟨h1, by rw [beq_iff_eq]; omega, h2⟩⟩
    · exact .inr ⟨by unfold fitB; rw [decide_eq_false h, decide_eq_false h2]; rfl, h1, by rw [beq_eq_false_iff_ne]; omega, by omega⟩
def mvL (x y : Int) : List Int := if isSz x y then mvToC x.toNat y.toNat 8 else []
theorem mvL_le (x y : Int) : (mvL x y).length ≤ 36 := by
  unfold mvL
  split
  · have := mvTo_leC x.toNat y.toNat 8; omega
  · exact Nat.zero_le _
set_option maxHeartbeats 1000000 in
set_option maxRecDepth 100000 in
theorem movesFor_any (a b : Nat) (w : World) : Calls Try.prog 13 #[.int .i64 a, .int .i64 b] w fun e w' => Gr w w' ∧ ∃ v, e = .returned v ∧ w'.ownsRow w.heap.size 3 1 v (mvToC a b 8).length (intsV (mvToC a b 8)) := by
  have gg := Gr.refl w
  go_enter Try.func13, Try.ntmps13
  go_wp2
  have own0 : w.ownsRow w.heap.size 3 1 (.slice none 0 0) (mvToC a b 0).length (intsV (mvToC a b 0)) := World.ownsRow_nil _ _ _ _
  go_loopw [5, 7] (fun bv i wr => ∃ k : Nat, k ≤ 8 ∧ i = .int .i64 k ∧ wr.ownsRow w.heap.size 3 1 bv (mvToC a b k).length (intsV (mvToC a b k)) ∧ Gr w wr) (fun _ i _ => 8 - (intOf i).toNat)
  case atStart => exact ⟨0, Nat.zero_le _, rfl, own0, gg⟩
  case round =>
    obtain ⟨k, hk, rfl, own, gg⟩ := hrel
    have hle := mvTo_leC a b k
    by_cases hlt : k < 8
    · rcases fit_cases a b k with ⟨hf, hc⟩ | ⟨hf, h1, h2, h3⟩
      · have HS := hidI (show mvToC a b k ++ [(k : Int)] = mvToC a b (k + 1) from by rw [mvToC, if_pos hf])
        clear hf
        rcases hc with h1 | ⟨h1, h2, h3⟩
        all_goals
          go_wp2_with (first | (refine r_slice1 34 3 (.tmp 19) (.int .i64 k) rfl (Try.bsi1 _ _) rfl ?_; intro w5 B5 N5; have g5 := N5.gr; have own5 := g5.row own; have gg5 := gg.trans g5; have z5 := g5.size) | (refine r_append (.tmp 18) (.tmp 20) 34 3 _ 1 8 w.heap.size Try.intsI _ _ (intsV (mvToC a b k)) rfl own5 ⟨B5, 0, none⟩ 1 1 [.int .i64 k] rfl rfl N5.cell1 (intsV_one [(k : Int)]) (by omega) (by decide) (by have := gg5.size; omega) rfl ?_; intro v6 w6 own6 g6))
          have gg6 := g6.gr gg5 (own_gr own5 (Nat.le_refl _))
          have own7 : w6.ownsRow w.heap.size 3 1 v6 (mvToC a b (k + 1)).length (intsV (mvToC a b (k + 1))) := by
            rw [← HS.out, ← intsV_append, List.length_append]
            exact own6
          go_roundw
          case rel => exact ⟨k + 1, by omega, by go_num, own7, gg6⟩
          case measure => simp [intOf]; omega
      · have HS := hidI (show mvToC a b k = mvToC a b (k + 1) from by rw [mvToC, if_neg (by rw [hf]; decide)])
        clear hf
        go_wp2
        go_roundw
        case rel => exact ⟨k + 1, by omega, by go_num, by rw [← HS.out]; exact own, gg⟩
        case measure => simp [intOf]; omega
    · obtain rfl : k = 8 := by omega
      clear hlt
      go_wp2
      go_ret
      exact ⟨gg, _, rfl, own⟩
set_option maxHeartbeats 1000000 in
set_option maxRecDepth 100000 in
theorem cnSize_any (x y : Int) (w : World) : Calls Try.prog 19 #[.int .i64 x, .int .i64 y] w fun e w' => e = .returned (.bool (isSz x y)) ∧ w = w' := by
  by_cases h1 : btw x 1 7 = true
  · by_cases h2 : btw y 1 7 = true
    · have H1 := hidI h1
      have H2 := hidI h2
      have hx : 1 ≤ x ∧ x ≤ 7 := by unfold btw at h1; simpa using h1
      have hy : 1 ≤ y ∧ y ≤ 7 := by unfold btw at h2; simpa using h2
      have hm := mul_small hx.1 hx.2 hy.1 hy.2
      have HW : Hid (wrap64 (x * y) = x * y) := IntWalk.wrap64_in _ ⟨by omega, by omega⟩
      have HV := hidI (show isSz x y = decide (x * y ≤ 36) from by unfold isSz; simp [hx.1, hx.2, hy.1, hy.2])
      clear hm h1 h2 hx hy
      go_enter Try.func19, Try.ntmps19
      go_wp2_with (go_at_call 7; refine (l1In_any _ _ _ _).mono ?_; rintro e wSame ⟨rfl, rfl⟩; first | rw [H1.out] | rw [H2.out])
      go_ret
      exact ⟨by rw [HV.out]; simp [HW.out], rfl⟩
    · have H1 := hidI h1
      have H2 := hidI (show btw y 1 7 = false from by simpa using h2)
      have HV := hidI (show isSz x y = false from by
        rw [← Bool.not_eq_true, isSz_iff]
        intro e
        have := H2.out
        unfold btw at this
        simp at this
        omega)
      clear h1 h2
      go_enter Try.func19, Try.ntmps19
      go_wp2_with (go_at_call 7; refine (l1In_any _ _ _ _).mono ?_; rintro e wSame ⟨rfl, rfl⟩; first | rw [H1.out] | rw [H2.out])
      go_ret
      exact ⟨ret_bool (by rw [HV.out] <;> (first | rfl | (simp; done) | (simp; omega))), rfl⟩
  · have H1 := hidI (show btw x 1 7 = false from by simpa using h1)
    have HV := hidI (show isSz x y = false from by
      rw [← Bool.not_eq_true, isSz_iff]
      intro e
      have := H1.out
      unfold btw at this
      simp at this
      omega)
    clear h1
    go_enter Try.func19, Try.ntmps19
    go_wp2_with (go_at_call 7; refine (l1In_any _ _ _ _).mono ?_; rintro e wSame ⟨rfl, rfl⟩; rw [H1.out])
    go_ret
    exact ⟨ret_bool (by rw [HV.out] <;> (first | rfl | (simp; done) | (simp; omega))), rfl⟩
set_option maxHeartbeats 1000000 in
set_option maxRecDepth 100000 in
theorem cnFits_any (a b k : Nat) (w : World) : Calls Try.prog 8 #[.int .i64 a, .int .i64 b, .int .i64 k] w fun e w' => e = .returned (.bool (fitB a b k)) ∧ w = w' := by
  rcases fit_cases a b k with ⟨hf, h1 | ⟨h1, h2, h3⟩⟩ | ⟨hf, h1, h2, h3⟩
  all_goals
    have HF := hidI hf
    clear hf
    go_enter Try.func8, Try.ntmps8
    go_wp2
    go_ret
    exact ⟨ret_bool (by rw [HF.out] <;> (first | rfl | (simp; done) | (simp; omega))), rfl⟩
end Go.Proofs.Ytmjmjibokombiaa
