/-
  What the program's smallest functions on trays return: sizes, counts of cells, rows, balls, places.
-/
import Derived.Test.YtedgocedomlhfaaGrid
import Derived.Test.YtedgocedomlhfaaShelf
namespace Go.Proofs.Ytedgocedomlhfaa
open Go.RowKit
def isSz (x y : Int) : Bool := decide (1 ≤ x) && decide (x ≤ 7) && decide (1 ≤ y) && decide (y ≤ 7) && decide (x * y ≤ 36)
theorem isSz_iff {x y : Int} : isSz x y = true ↔ (1 ≤ x ∧ x ≤ 7 ∧ 1 ≤ y ∧ y ≤ 7 ∧ x * y ≤ 36) := by
  unfold isSz; simp [and_assoc]
theorem mul_small {x y : Int} (h1 : 1 ≤ x) (h2 : x ≤ 7) (h3 : 1 ≤ y) (h4 : y ≤ 7) : 1 ≤ x * y ∧ x * y ≤ 49 := by
  have a : x = 1 ∨ x = 2 ∨ x = 3 ∨ x = 4 ∨ x = 5 ∨ x = 6 ∨ x = 7 := by omega
  rcases a with rfl | rfl | rfl | rfl | rfl | rfl | rfl <;> omega
set_option maxHeartbeats 400000 in
theorem isSize_any (x y : Int) (w : World) : Calls Try.prog 9 #[.int .i64 x, .int .i64 y] w fun e w' => e = .returned (.bool (isSz x y)) ∧ w = w' := by
  by_cases h : 1 ≤ x ∧ x ≤ 7 ∧ 1 ≤ y ∧ y ≤ 7
  · obtain ⟨h1, h2, h3, h4⟩ := h
    have hm := mul_small h1 h2 h3 h4
    have HW : Hid (wrap64 (x * y) = x * y) := IntWalk.wrap64_in _ ⟨by omega, by omega⟩
    have HV := hidI (show isSz x y = decide (x * y ≤ 36) from by unfold isSz; simp [h1, h2, h3, h4])
    clear hm
    go_enter Try.func9, Try.ntmps9
    go_wp2
    go_ret
    exact ⟨by rw [HV.out]; simp [HW.out], rfl⟩
  · have HV : Hid (isSz x y = false) := by
      refine Bool.eq_false_iff.2 fun e => h ?_
      have := isSz_iff.1 e
      exact ⟨this.1, this.2.1, this.2.2.1, this.2.2.2.1⟩
    have hcases : x < 1 ∨ (1 ≤ x ∧ 7 < x) ∨ (1 ≤ x ∧ x ≤ 7 ∧ y < 1) ∨ (1 ≤ x ∧ x ≤ 7 ∧ 1 ≤ y ∧ 7 < y) := by omega
    clear h
    rcases hcases with h1 | ⟨h1, h2⟩ | ⟨h1, h2, h3⟩ | ⟨h1, h2, h3, h4⟩
    all_goals
      go_enter Try.func9, Try.ntmps9
      go_wp2
      go_ret
      exact ⟨ret_bool (by rw [HV.out] <;> (first | rfl | (simp; done) | (simp; omega))), rfl⟩
set_option maxHeartbeats 400000 in
theorem countAll_any (W H : Nat) (c : List UInt8) (w : World) (hW : W ≤ 7) (hH : H ≤ 7) : Calls Try.prog 10 #[.agg (gv W H c)] w (Ret (.int .i64 (nn W H)) w) := by
  have HW : Hid (wrap64 ((W : Int) * (H : Int)) = (nn W H : Nat)) := nn_wrap W H (by have := nn_le hW hH; omega)
  have gg := Gr.refl w
  go_enter Try.func10, Try.ntmps10
  go_wp2_with (refine r_box 33 _ (gv W H c) rfl rfl ?_; intro w1 B1 N1; have g1 := N1.gr; have b1 : Blk w1 B1 (gv W H c) 33 := N1.blk; have l1 := N1.lo; have t1 := N1.hi; have z1 := g1.size; have gg := gg.trans g1; clear N1; obtain ⟨b1_0, b1_1, b1_2⟩ := gcells b1)
  go_ret
  exact ⟨by simp [HW.out], gg⟩
theorem Try.gix (B k : Nat) (hk : k < 36) (w : World) : (Instr.indexAt 31 (.pointer (some ⟨B, 2, none⟩)) (.int .i64 k)).run Try.prog w = .ok (.pointer (some ⟨B, 2 + k, none⟩)) w := by
  rw [run_indexAt_array w 31 ⟨B, 2, none⟩ .i64 k (by rw [Try.alen, Try.aelem]; exact Try.underlying31), if_pos (by rw [Try.alen]; omega), Try.aelem]
  have hs : (sizeOf 5).run Try.prog w = .ok 1 w := by kernel_rfl
  simp [hs, Result.andThen, Addr.add]
theorem Try.gslice (B f W t : Nat) (hft : f + W = t) (ht : t ≤ 36) (hW : 1 ≤ W) (w : World) :
    (Instr.sliceAt 31 (.pointer (some ⟨B, 2, none⟩)) (some (.int .i64 f)) (some (.int .i64 t)) (some (.int .i64 t))).run Try.prog w = .ok (.slice (some ⟨B, 2 + f, none⟩) W W) w := by
  rw [run_sliceAt_array_lhm w 31 ⟨B, 2, none⟩ (by rw [Try.alen, Try.aelem]; exact Try.underlying31) .i64 .i64 .i64 f t t (by omega) (by omega) (by omega) (by rw [Try.alen]; omega), Try.aelem]
  have hs : (sizeOf 5).run Try.prog w = .ok 1 w := by kernel_rfl
  simp [hs, Result.andThen, slicedAt, Addr.add]
  subst hft
  rw [if_neg (by omega)]
  by_cases h : f = 0
  · subst h; simp
  · simp [h]
set_option maxHeartbeats 400000 in
set_option maxRecDepth 100000 in
/-- The row y of a grid in block B. -/
theorem rowOf_any (B W H y : Nat) (c : List UInt8) (w : World) (hb : Blk w B (gv W H c) 33) (hW1 : 1 ≤ W) (hW : W ≤ 7) (hy : y < H) (h36 : nn W H ≤ 36) (hH : H ≤ 7) :
    Calls Try.prog 12 #[.pointer (some ⟨B, 0, none⟩), .int .i64 y] w fun e w' => e = .returned (.slice (some ⟨B, 2 + nn W y, none⟩) W W) ∧ ∃ n, w' = w.drewN n := by
  have hle : nn W y + W ≤ nn W H := by
    unfold nn
    have : W * y + W = W * (y + 1) := by rw [Nat.mul_succ]
    rw [this]; exact Nat.mul_le_mul_left _ hy
  obtain ⟨f, hf⟩ : ∃ f, f = nn W y := ⟨_, rfl⟩
  obtain ⟨t, ht⟩ : ∃ t, t = f + W := ⟨_, rfl⟩
  rw [← hf] at hle
  have e1 : (y : Int) * (W : Int) = f := by rw [hf, nn_int, Int.mul_comm]
  have e2 : ((y : Int) + 1) * (W : Int) = t := by rw [ht, Int.add_mul, e1]; omega
  have ht36 : t ≤ 36 := by omega
  have hf36 : f ≤ 36 := by omega
  have hsl := Try.gslice B f W t ht.symm ht36 hW1
  obtain ⟨c0, -, -⟩ := gcells hb
  have HB := hidI hb
  clear hb
  have HF := hidI hf
  have HT := hidI ht
  rw [← HF.out]
  clear hf ht
  go_enter Try.func12, Try.ntmps12
  go_wp2
  go_quiet (fail)
  go_wp2
  go_ret
  exact ⟨rfl, nq, rfl⟩
/-- How many of the first k cells hold b. -/
def cnt (c : List UInt8) (b : UInt8) : Nat → Nat
  | 0 => 0
  | k + 1 => cnt c b k + if at0 c k = b then 1 else 0
theorem cnt_le (c : List UInt8) (b : UInt8) (k : Nat) : cnt c b k ≤ k := by
  induction k with
  | zero => exact Nat.le_refl _
  | succ k ih => unfold cnt; split <;> omega
def inB (x : Int) (n : Nat) : Bool := decide (0 ≤ x) && decide (x < n)
theorem inB_true {x : Int} {n : Nat} : inB x n = true ↔ 0 ≤ x ∧ x < n := by unfold inB; simp
theorem inB_false {x : Int} {n : Nat} : inB x n = false ↔ x < 0 ∨ (n : Int) ≤ x := by
  rw [← Bool.not_eq_true, inB_true]; omega
def ballB (b : UInt8) : Bool := b != 35 && b != 46
end Go.Proofs.Ytedgocedomlhfaa
