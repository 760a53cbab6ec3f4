/-
  Numbers of boards, and the solved board: in the program and in the model; the laws.
-/
import Derived.Test.YtgibpcmjfnmkdaaBoardX
namespace Go.Proofs.Ytgibpcmjfnmkdaa
open Go.RowKit
theorem facN_le : ∀ k, k ≤ 9 → facN k ≤ 362880 := by decide
def cbV (x y : Int) : Int := if bSz x y = true then (cntB x.toNat y.toNat : Nat) else 0
theorem cbV_bad {x y : Int} (h : bSz x y = false) : cbV x y = 0 := by unfold cbV; rw [h]; rfl
theorem cbV_line {x y : Nat} (h : bSz x y = true) (hl : x = 1 ∨ y = 1) : cbV x y = (nn x y : Nat) := by
  unfold cbV cntB; rw [if_pos h, Int.toNat_natCast, Int.toNat_natCast, if_pos hl]
theorem cbV_fac {x y : Nat} (h : bSz x y = true) (hl : ¬ (x = 1 ∨ y = 1)) : cbV x y = (facN (nn x y) / 2 : Nat) := by
  unfold cbV cntB; rw [if_pos h, Int.toNat_natCast, Int.toNat_natCast, if_neg hl]
theorem bSz_nat {x y : Int} (h : bSz x y = true) : ∃ a b : Nat, x = a ∧ y = b ∧ 1 ≤ a ∧ a ≤ 3 ∧ 1 ≤ b ∧ b ≤ 3 := by
  have := bSz_iff.1 h
  exact ⟨x.toNat, y.toNat, by omega, by omega, by omega, by omega, by omega, by omega⟩
theorem btw13 {x : Int} : btw x 1 3 = true ↔ 1 ≤ x ∧ x ≤ 3 := by unfold btw; rw [Bool.and_eq_true, decide_eq_true_eq, decide_eq_true_eq]
theorem fin_ib' {a b : Int} {x y : Bool} (h1 : a = b) (h2 : x = y) : Ending.returned (.tuple #[.int .i64 a, .bool x]) = .returned (.tuple #[.int .i64 b, .bool y]) := by rw [h1, h2]
set_option maxHeartbeats 400000 in
theorem blSize_any (x y : Int) (w : World) : Calls Try.prog 49 #[.int .i64 x, .int .i64 y] w fun e w' => e = .returned (.bool (bSz x y)) ∧ w = w' := by
  by_cases h1 : btw x 1 3 = true
  · by_cases h2 : btw y 1 3 = true
    · have HV := hidI (show bSz x y = true from by rw [bSz_iff]; rw [btw13] at h1 h2; omega)
      have H1 := hidI h1
      have H2 := hidI h2
      clear h1 h2
      go_enter Try.func49, Try.ntmps49
      go_wp2_with (go_at_call 79; refine (l1In_any _ _ _ _).mono ?_; rintro e wSame ⟨rfl, rfl⟩; first | rw [H1.out] | rw [H2.out])
      go_ret
      exact ⟨ret_bool (by rw [HV.out] <;> (first | rfl | (simp; done) | (simp; omega))), rfl⟩
    · have HV := hidI (show bSz x y = false from by rw [← Bool.not_eq_true, bSz_iff]; rw [btw13] at h1 h2; omega)
      have H1 := hidI h1
      have H2 := hidI (show btw y 1 3 = false by simpa using h2)
      clear h1 h2
      go_enter Try.func49, Try.ntmps49
      go_wp2_with (go_at_call 79; refine (l1In_any _ _ _ _).mono ?_; rintro e wSame ⟨rfl, rfl⟩; first | rw [H1.out] | rw [H2.out])
      go_ret
      exact ⟨ret_bool (by rw [HV.out] <;> (first | rfl | (simp; done) | (simp; omega))), rfl⟩
  · have HV := hidI (show bSz x y = false from by rw [← Bool.not_eq_true, bSz_iff]; rw [btw13] at h1; omega)
    have H1 := hidI (show btw x 1 3 = false by simpa using h1)
    clear h1
    go_enter Try.func49, Try.ntmps49
    go_wp2_with (go_at_call 79; refine (l1In_any _ _ _ _).mono ?_; rintro e wSame ⟨rfl, rfl⟩; rw [H1.out])
    go_ret
    exact ⟨ret_bool (by rw [HV.out] <;> (first | rfl | (simp; done) | (simp; omega))), rfl⟩
set_option maxHeartbeats 1000000 in
theorem iCountBoards (x y : Int) (w : World) : Calls Try.prog 34 #[.int .i64 x, .int .i64 y] w (Ret (.tuple #[.int .i64 (cbV x y), .bool (bSz x y)]) w) := by
  have gg := Gr.refl w
  by_cases h1 : bSz x y = true
  · have HZ := hidI h1
    obtain ⟨x, y, rfl, rfl, hx1, hx3, hy1, hy3⟩ := bSz_nat h1
    obtain ⟨n, hn⟩ : ∃ n, n = nn x y := ⟨_, rfl⟩
    have h9 : n ≤ 9 := by rw [hn]; exact Nat.mul_le_mul hx3 hy3
    have hn1 : 1 ≤ n := by rw [hn]; exact Nat.mul_pos hx1 hy1
    have e1 : (x : Int) * (y : Int) = (n : Int) := by rw [hn, nn_int]
    by_cases hl : x = 1 ∨ y = 1
    · have HV := hidI (show cbV x y = (n : Nat) from by rw [cbV_line h1 hl, hn])
      clear h1 hn
      by_cases hx : x = 1
      · have hxe : ((x : Int) == 1) = true := by rw [hx]; rfl
        clear hl hx
        go_enter Try.func34, Try.ntmps34
        go_wp2_with (go_at_call 51; refine (bSize_any _ _ _).mono ?_; rintro e wSame ⟨rfl, rfl⟩; rw [HZ.out])
        go_ret2
        exact ⟨fin_ib' (by rw [HV.out]) HZ.out.symm, gg⟩
      · have hy : y = 1 := by rcases hl with h | h; exact absurd h hx; exact h
        have hx0 : ((x : Int) == 1) = false := by rw [beq_eq_false_iff_ne]; omega
        have hye : ((y : Int) == 1) = true := by rw [hy]; rfl
        clear hl hx hy
        go_enter Try.func34, Try.ntmps34
        go_wp2_with (go_at_call 51; refine (bSize_any _ _ _).mono ?_; rintro e wSame ⟨rfl, rfl⟩; rw [HZ.out])
        go_ret2
        exact ⟨fin_ib' (by rw [HV.out]) HZ.out.symm, gg⟩
    · have HV := hidI (show cbV x y = (facN n / 2 : Nat) from by rw [cbV_fac h1 hl, hn])
      have hx0 : ((x : Int) == 1) = false := by rw [beq_eq_false_iff_ne]; omega
      have hy0 : ((y : Int) == 1) = false := by rw [beq_eq_false_iff_ne]; omega
      have hxa : 1 < x := by omega
      have hya : 1 < y := by omega
      clear h1 hn hl
      go_enter Try.func34, Try.ntmps34
      go_wp2_with (go_at_call 51; refine (bSize_any _ _ _).mono ?_; rintro e wSame ⟨rfl, rfl⟩; rw [HZ.out])
      go_loop [6, 7, 24] (fun b _ i => ∃ k : Nat, k ≤ n ∧ i = .int .i64 k ∧ b = .int .i64 (facN k : Nat)) (fun _ _ i => n - (intOf i).toNat)
      case atStart => exact ⟨0, Nat.zero_le _, rfl, rfl⟩
      case round =>
        obtain ⟨k, hk, rfl, rfl⟩ := hrel
        have hf := facN_le k (by omega)
        by_cases hlt : k < n
        · have hf1 := facN_le (k + 1) (by omega)
          have e2 : ((facN k : Nat) : Int) * ((k : Int) + 1) = (facN (k + 1) : Nat) := by rw [facN, Int.natCast_mul]; rfl
          generalize hF1 : facN (k + 1) = F1 at *
          generalize facN k = F0 at *
          go_wp2
          go_round
          case rel => exact ⟨k + 1, by omega, by go_num, by rw [hF1]⟩
          case measure => simp [intOf]; omega
        · obtain rfl : k = n := by omega
          have e3 : Int.tdiv ((facN k : Nat) : Int) 2 = ((facN k / 2 : Nat) : Int) := rfl
          have hf2 := Nat.div_le_self (facN k) 2
          generalize facN k / 2 = F2 at *
          go_wp2
          go_ret2
          exact ⟨fin_ib' (by rw [HV.out]) HZ.out.symm, gg⟩
  · have HZ := hidI (show bSz x y = false from by simpa using h1)
    have HV := hidI (cbV_bad HZ.out)
    clear h1
    go_enter Try.func34, Try.ntmps34
    go_wp2_with (go_at_call 51; refine (bSize_any _ _ _).mono ?_; rintro e wSame ⟨rfl, rfl⟩; rw [HZ.out])
    go_ret2
    exact ⟨fin_ib' HV.out.symm HZ.out.symm, gg⟩
set_option maxHeartbeats 1000000 in
theorem sCountBoards (x y : Int) (w : World) : Calls Try.prog 33 #[.int .i64 x, .int .i64 y] w (Ret (.tuple #[.int .i64 (cbV x y), .bool (bSz x y)]) w) := by
  have gg := Gr.refl w
  by_cases h1 : bSz x y = true
  · have HZ := hidI h1
    obtain ⟨x, y, rfl, rfl, hx1, hx3, hy1, hy3⟩ := bSz_nat h1
    obtain ⟨n, hn⟩ : ∃ n, n = nn x y := ⟨_, rfl⟩
    have h9 : n ≤ 9 := by rw [hn]; exact Nat.mul_le_mul hx3 hy3
    have hn1 : 1 ≤ n := by rw [hn]; exact Nat.mul_pos hx1 hy1
    have e1 : (x : Int) * (y : Int) = (n : Int) := by rw [hn, nn_int]
    by_cases hl : x = 1 ∨ y = 1
    · have HV := hidI (show cbV x y = (n : Nat) from by rw [cbV_line h1 hl, hn])
      clear h1 hn
      by_cases hx : x = 1
      · have hxe : ((x : Int) == 1) = true := by rw [hx]; rfl
        clear hl hx
        go_enter Try.func33, Try.ntmps33
        go_wp2_with (go_at_call 49; refine (blSize_any _ _ _).mono ?_; rintro e wSame ⟨rfl, rfl⟩; rw [HZ.out])
        go_ret2
        exact ⟨fin_ib' (by rw [HV.out]) HZ.out.symm, gg⟩
      · have hy : y = 1 := by rcases hl with h | h; exact absurd h hx; exact h
        have hx0 : ((x : Int) == 1) = false := by rw [beq_eq_false_iff_ne]; omega
        have hye : ((y : Int) == 1) = true := by rw [hy]; rfl
        clear hl hx hy
        go_enter Try.func33, Try.ntmps33
        go_wp2_with (go_at_call 49; refine (blSize_any _ _ _).mono ?_; rintro e wSame ⟨rfl, rfl⟩; rw [HZ.out])
        go_ret2
        exact ⟨fin_ib' (by rw [HV.out]) HZ.out.symm, gg⟩
    · have HV := hidI (show cbV x y = (facN n / 2 : Nat) from by rw [cbV_fac h1 hl, hn])
      have hx0 : ((x : Int) == 1) = false := by rw [beq_eq_false_iff_ne]; omega
      have hy0 : ((y : Int) == 1) = false := by rw [beq_eq_false_iff_ne]; omega
      have hxa : 1 < x := by omega
      have hya : 1 < y := by omega
      clear h1 hn hl
      go_enter Try.func33, Try.ntmps33
      go_wp2_with (go_at_call 49; refine (blSize_any _ _ _).mono ?_; rintro e wSame ⟨rfl, rfl⟩; rw [HZ.out])
      go_loop [6, 7] (fun b i => ∃ k : Nat, 1 ≤ k ∧ k ≤ n ∧ i = .int .i64 ((k : Int) + 1) ∧ b = .int .i64 (facN k : Nat)) (fun _ i => n + 1 - (intOf i).toNat)
      case atStart => exact ⟨1, Nat.le_refl _, hn1, rfl, rfl⟩
      case round =>
        obtain ⟨k, hk1, hk, rfl, rfl⟩ := hrel
        have hf := facN_le k (by omega)
        by_cases hlt : k < n
        · have hf1 := facN_le (k + 1) (by omega)
          have e2 : ((facN k : Nat) : Int) * ((k : Int) + 1) = (facN (k + 1) : Nat) := by rw [facN, Int.natCast_mul]; rfl
          generalize hF1 : facN (k + 1) = F1 at *
          generalize facN k = F0 at *
          go_wp2
          go_round
          case rel => exact ⟨k + 1, by omega, by omega, by go_num, by rw [hF1]⟩
          case measure => simp [intOf]; omega
        · obtain rfl : k = n := by omega
          have e3 : Int.tdiv ((facN k : Nat) : Int) 2 = ((facN k / 2 : Nat) : Int) := rfl
          have hf2 := Nat.div_le_self (facN k) 2
          generalize facN k / 2 = F2 at *
          go_wp2
          go_ret2
          exact ⟨fin_ib' (by rw [HV.out]) HZ.out.symm, gg⟩
  · have HZ := hidI (show bSz x y = false from by simpa using h1)
    have HV := hidI (cbV_bad HZ.out)
    clear h1
    go_enter Try.func33, Try.ntmps33
    go_wp2_with (go_at_call 49; refine (blSize_any _ _ _).mono ?_; rintro e wSame ⟨rfl, rfl⟩; rw [HZ.out])
    go_ret2
    exact ⟨fin_ib' HV.out.symm HZ.out.symm, gg⟩
set_option maxHeartbeats 1000000 in
theorem lawCountBoards (x y : Int) (w : World) : Calls Try.prog 10 #[.int .i64 x, .int .i64 y] w (Ret (.bool true) w) := by
  have gg := Gr.refl w
  obtain ⟨ok, hok⟩ : ∃ ok, ok = bSz x y := ⟨_, rfl⟩
  obtain ⟨val, hval⟩ : ∃ val, val = cbV x y := ⟨_, rfl⟩
  have HOK := hidI hok
  have HVAL := hidI hval
  clear hok hval
  go_enter Try.func10, Try.ntmps10
  go_wp2_with (first | (go_at_call 33; refine (sCountBoards x y _).mono ?_; rintro e w1 ⟨rfl, g1⟩; rw [← HOK.out, ← HVAL.out]; have z1 := g1.size; have gg := gg.trans g1) | (go_at_call 34; refine (iCountBoards x y _).mono ?_; rintro e w2 ⟨rfl, g2⟩; rw [← HOK.out, ← HVAL.out]; have z2 := g2.size; have gg := gg.trans g2))
  go_ret
  exact ⟨rfl, gg⟩
end Go.Proofs.Ytgibpcmjfnmkdaa
