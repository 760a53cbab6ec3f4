/-
  What the program's smallest functions on trays return: sizes, counts of cells, rows, balls, places.
-/
import Derived.Test.YthjkeohnjggmiaaDoorGrid
import Derived.Test.YthjkeohnjggmiaaDoorShelf
namespace Go.Proofs.YthjkeohnjggmiaaDoor
open Go.RowKit
def isSz (x y : Int) : Bool := decide (1 ≤ x) && decide (x ≤ 7) && decide (1 ≤ y) && decide (y ≤ 7) && decide (x * y ≤ 36)
theorem isSz_iff {x y : Int} : isSz x y = true ↔ (1 ≤ x ∧ x ≤ 7 ∧ 1 ≤ y ∧ y ≤ 7 ∧ x * y ≤ 36) := by
  unfold isSz; simp [and_assoc]
theorem mul_small {x y : Int} (h1 : 1 ≤ x) (h2 : x ≤ 7) (h3 : 1 ≤ y) (h4 : y ≤ 7) : 1 ≤ x * y ∧ x * y ≤ 49 := by
  have a : x = 1 ∨ x = 2 ∨ x = 3 ∨ x = 4 ∨ x = 5 ∨ x = 6 ∨ x = 7 := by omega
  rcases a with rfl | rfl | rfl | rfl | rfl | rfl | rfl <;> omega
set_option maxHeartbeats 400000 in
theorem isSize_any (x y : Int) (w : World) : Calls Tryd.prog 80 #[.int .i64 x, .int .i64 y] w fun e w' => e = .returned (.bool (isSz x y)) ∧ w = w' := by
  by_cases h : 1 ≤ x ∧ x ≤ 7 ∧ 1 ≤ y ∧ y ≤ 7
  · obtain ⟨h1, h2, h3, h4⟩ := h
    have hm := mul_small h1 h2 h3 h4
    have HW : Hid (wrap64 (x * y) = x * y) := IntWalk.wrap64_in _ ⟨by omega, by omega⟩
    have HV := hidI (show isSz x y = decide (x * y ≤ 36) from by unfold isSz; simp [h1, h2, h3, h4])
    clear hm
    go_enter Tryd.func80, Tryd.ntmps80
    go_wp2
    go_ret
    exact ⟨by rw [HV.out]; simp [HW.out], rfl⟩
  · have HV : Hid (isSz x y = false) := by
      refine Bool.eq_false_iff.2 fun e => h ?_
      have := isSz_iff.1 e
      exact ⟨this.1, this.2.1, this.2.2.1, this.2.2.2.1⟩
    have hcases : x < 1 ∨ (1 ≤ x ∧ 7 < x) ∨ (1 ≤ x ∧ x ≤ 7 ∧ y < 1) ∨ (1 ≤ x ∧ x ≤ 7 ∧ 1 ≤ y ∧ 7 < y) := by omega
    clear h
    rcases hcases with h1 | ⟨h1, h2⟩ | ⟨h1, h2, h3⟩ | ⟨h1, h2, h3, h4⟩
    all_goals
      go_enter Tryd.func80, Tryd.ntmps80
      go_wp2
      go_ret
      exact ⟨ret_bool (by rw [HV.out] <;> (first | rfl | (simp; done) | (simp; omega))), rfl⟩
set_option maxHeartbeats 400000 in
theorem countAll_any (W H : Nat) (c : List UInt8) (w : World) (hW : W ≤ 7) (hH : H ≤ 7) : Calls Tryd.prog 53 #[.agg (gv W H c)] w (Ret (.int .i64 (nn W H)) w) := by
  have HW : Hid (wrap64 ((W : Int) * (H : Int)) = (nn W H : Nat)) := nn_wrap W H (by have := nn_le hW hH; omega)
  have gg := Gr.refl w
  go_enter Tryd.func53, Tryd.ntmps53
  go_wp2_with (refine r_box 46 _ (gv W H c) rfl rfl ?_; intro w1 B1 N1; have g1 := N1.gr; have b1 : Blk w1 B1 (gv W H c) 46 := N1.blk; have l1 := N1.lo; have t1 := N1.hi; have z1 := g1.size; have gg := gg.trans g1; clear N1; obtain ⟨b1_0, b1_1, b1_2⟩ := gcells b1)
  go_ret
  exact ⟨by simp [HW.out], gg⟩
def ballB (b : UInt8) : Bool := b != 35 && b != 46
set_option maxHeartbeats 400000 in
theorem isBall_any (b : UInt8) (w : World) : Calls Tryd.prog 130 #[.int .u8 b.toNat] w fun e w' => e = .returned (.bool (ballB b)) ∧ w = w' := by
  by_cases h1 : b = 35
  · subst h1
    go_enter Tryd.func130, Tryd.ntmps130
    go_wp2
    go_ret
    exact ⟨rfl, rfl⟩
  · have e1 : b.toNat ≠ 35 := fun e => h1 (UInt8.toNat_inj.1 e)
    by_cases h2 : b = 46
    · subst h2
      go_enter Tryd.func130, Tryd.ntmps130
      go_wp2
      go_ret
      exact ⟨rfl, rfl⟩
    · have e2 : b.toNat ≠ 46 := fun e => h2 (UInt8.toNat_inj.1 e)
      have HV := hidI (show ballB b = true from by unfold ballB; simp [h1, h2])
      have n1 : ¬ (b.toNat : Int) = 35 := by omega
      have n2 : ¬ (b.toNat : Int) = 46 := by omega
      go_enter Tryd.func130, Tryd.ntmps130
      go_wp2
      go_ret
      exact ⟨ret_bool (by rw [HV.out] <;> (first | rfl | (simp; done) | (simp; omega))), rfl⟩
def inB (x : Int) (n : Nat) : Bool := decide (0 ≤ x) && decide (x < n)
theorem inB_true {x : Int} {n : Nat} : inB x n = true ↔ 0 ≤ x ∧ x < n := by unfold inB; simp
theorem inB_false {x : Int} {n : Nat} : inB x n = false ↔ x < 0 ∨ (n : Int) ≤ x := by
  rw [← Bool.not_eq_true, inB_true]; omega
set_option maxHeartbeats 1000000 in
theorem hasPlace_any (W H : Nat) (c : List UInt8) (x y : Int) (w : World) : Calls Tryd.prog 169 #[.agg (gv W H c), .int .i64 x, .int .i64 y] w (Ret (.bool (inB x W && inB y H)) w) := by
  have gg := Gr.refl w
  have hcases : x < 0 ∨ (0 ≤ x ∧ (W : Int) ≤ x) ∨ (0 ≤ x ∧ x < W ∧ y < 0) ∨ (0 ≤ x ∧ x < W ∧ 0 ≤ y ∧ (H : Int) ≤ y) ∨ (0 ≤ x ∧ x < W ∧ 0 ≤ y ∧ y < H) := by omega
  rcases hcases with h1 | ⟨h1, h2⟩ | ⟨h1, h2, h3⟩ | ⟨h1, h2, h3, h4⟩ | ⟨h1, h2, h3, h4⟩
  · have HV := hidI (show (inB x W && inB y H) = false from by rw [inB_false.2 (.inl h1)]; rfl)
    go_enter Tryd.func169, Tryd.ntmps169
    go_wp2_with (refine r_box 46 _ (gv W H c) rfl rfl ?_; intro w1 B1 N1; have g1 := N1.gr; have b1 : Blk w1 B1 (gv W H c) 46 := N1.blk; have l1 := N1.lo; have t1 := N1.hi; have z1 := g1.size; have gg := gg.trans g1; clear N1; obtain ⟨b1_0, b1_1, b1_2⟩ := gcells b1)
    go_ret
    exact ⟨ret_bool (by rw [HV.out] <;> (first | rfl | (simp; done) | (simp; omega))), gg⟩
  · have HV := hidI (show (inB x W && inB y H) = false from by rw [inB_false.2 (.inr h2)]; rfl)
    go_enter Tryd.func169, Tryd.ntmps169
    go_wp2_with (refine r_box 46 _ (gv W H c) rfl rfl ?_; intro w1 B1 N1; have g1 := N1.gr; have b1 : Blk w1 B1 (gv W H c) 46 := N1.blk; have l1 := N1.lo; have t1 := N1.hi; have z1 := g1.size; have gg := gg.trans g1; clear N1; obtain ⟨b1_0, b1_1, b1_2⟩ := gcells b1)
    go_ret
    exact ⟨ret_bool (by rw [HV.out] <;> (first | rfl | (simp; done) | (simp; omega))), gg⟩
  · have HV := hidI (show (inB x W && inB y H) = false from by rw [inB_false.2 (.inl h3), Bool.and_false])
    go_enter Tryd.func169, Tryd.ntmps169
    go_wp2_with (refine r_box 46 _ (gv W H c) rfl rfl ?_; intro w1 B1 N1; have g1 := N1.gr; have b1 : Blk w1 B1 (gv W H c) 46 := N1.blk; have l1 := N1.lo; have t1 := N1.hi; have z1 := g1.size; have gg := gg.trans g1; clear N1; obtain ⟨b1_0, b1_1, b1_2⟩ := gcells b1)
    go_ret
    exact ⟨ret_bool (by rw [HV.out] <;> (first | rfl | (simp; done) | (simp; omega))), gg⟩
  · have HV := hidI (show (inB x W && inB y H) = false from by rw [inB_false.2 (.inr h4), Bool.and_false])
    go_enter Tryd.func169, Tryd.ntmps169
    go_wp2_with (refine r_box 46 _ (gv W H c) rfl rfl ?_; intro w1 B1 N1; have g1 := N1.gr; have b1 : Blk w1 B1 (gv W H c) 46 := N1.blk; have l1 := N1.lo; have t1 := N1.hi; have z1 := g1.size; have gg := gg.trans g1; clear N1; obtain ⟨b1_0, b1_1, b1_2⟩ := gcells b1)
    go_ret
    exact ⟨ret_bool (by rw [HV.out] <;> (first | rfl | (simp; done) | (simp; omega))), gg⟩
  · have HV := hidI (show (inB x W && inB y H) = true from by rw [inB_true.2 ⟨h1, h2⟩, inB_true.2 ⟨h3, h4⟩]; rfl)
    go_enter Tryd.func169, Tryd.ntmps169
    go_wp2_with (refine r_box 46 _ (gv W H c) rfl rfl ?_; intro w1 B1 N1; have g1 := N1.gr; have b1 : Blk w1 B1 (gv W H c) 46 := N1.blk; have l1 := N1.lo; have t1 := N1.hi; have z1 := g1.size; have gg := gg.trans g1; clear N1; obtain ⟨b1_0, b1_1, b1_2⟩ := gcells b1)
    go_ret
    exact ⟨ret_bool (by rw [HV.out] <;> (first | rfl | (simp; done) | (simp; omega))), gg⟩
set_option maxHeartbeats 1000000 in
theorem hasNumber_any (W H : Nat) (c : List UInt8) (x : Int) (w : World) (hW : W ≤ 7) (hH : H ≤ 7) : Calls Tryd.prog 66 #[.agg (gv W H c), .int .i64 x] w (Ret (.bool (inB x (nn W H))) w) := by
  have gg := Gr.refl w
  have hcases : x < 0 ∨ (0 ≤ x ∧ ((nn W H : Nat) : Int) ≤ x) ∨ (0 ≤ x ∧ x < (nn W H : Nat)) := by omega
  rcases hcases with h1 | ⟨h1, h2⟩ | ⟨h1, h2⟩
  · have HV := hidI (inB_false.2 (.inl h1) : inB x (nn W H) = false)
    go_enter Tryd.func66, Tryd.ntmps66
    go_wp2_with (refine r_box 46 _ (gv W H c) rfl rfl ?_; intro w1 B1 N1; have g1 := N1.gr; have b1 : Blk w1 B1 (gv W H c) 46 := N1.blk; have l1 := N1.lo; have t1 := N1.hi; have z1 := g1.size; have gg := gg.trans g1; clear N1; obtain ⟨b1_0, b1_1, b1_2⟩ := gcells b1)
    go_ret
    exact ⟨ret_bool (by rw [HV.out] <;> (first | rfl | (simp; done) | (simp; omega))), gg⟩
  · have HV := hidI (inB_false.2 (.inr h2) : inB x (nn W H) = false)
    go_enter Tryd.func66, Tryd.ntmps66
    go_wp2_with (first | (refine r_box 46 _ (gv W H c) rfl rfl ?_; intro w1 B1 N1; have g1 := N1.gr; have b1 : Blk w1 B1 (gv W H c) 46 := N1.blk; have l1 := N1.lo; have t1 := N1.hi; have z1 := g1.size; have gg := gg.trans g1; clear N1; obtain ⟨b1_0, b1_1, b1_2⟩ := gcells b1) | (refine r_load_row 46 _ _ rfl _ _ _ b1 Tryd.underlying46 rfl (Tryd.ginfo' _ _ _) rfl ?_) | (go_at_call 53; refine (countAll_any W H c _ hW hH).mono ?_; rintro e w2 ⟨rfl, g2⟩; have z2 := g2.size; have b1 := g2.blk b1; have gg := gg.trans g2))
    go_ret
    exact ⟨ret_bool (by rw [HV.out] <;> (first | rfl | (simp; done) | (simp; omega))), gg⟩
  · have HV := hidI (inB_true.2 ⟨h1, h2⟩ : inB x (nn W H) = true)
    go_enter Tryd.func66, Tryd.ntmps66
    go_wp2_with (first | (refine r_box 46 _ (gv W H c) rfl rfl ?_; intro w1 B1 N1; have g1 := N1.gr; have b1 : Blk w1 B1 (gv W H c) 46 := N1.blk; have l1 := N1.lo; have t1 := N1.hi; have z1 := g1.size; have gg := gg.trans g1; clear N1; obtain ⟨b1_0, b1_1, b1_2⟩ := gcells b1) | (refine r_load_row 46 _ _ rfl _ _ _ b1 Tryd.underlying46 rfl (Tryd.ginfo' _ _ _) rfl ?_) | (go_at_call 53; refine (countAll_any W H c _ hW hH).mono ?_; rintro e w2 ⟨rfl, g2⟩; have z2 := g2.size; have b1 := g2.blk b1; have gg := gg.trans g2))
    go_ret
    exact ⟨ret_bool (by rw [HV.out] <;> (first | rfl | (simp; done) | (simp; omega))), gg⟩
theorem Tryd.gix (B k : Nat) (hk : k < 36) (w : World) : (Instr.indexAt 44 (.pointer (some ⟨B, 2, none⟩)) (.int .i64 k)).run Tryd.prog w = .ok (.pointer (some ⟨B, 2 + k, none⟩)) w := by
  rw [run_indexAt_array w 44 ⟨B, 2, none⟩ .i64 k (by rw [Tryd.alen, Tryd.aelem]; exact Tryd.underlying44), if_pos (by rw [Tryd.alen]; omega), Tryd.aelem]
  have hs : (sizeOf 5).run Tryd.prog w = .ok 1 w := by kernel_rfl
  simp [hs, Result.andThen, Addr.add]
theorem Tryd.gslice (B f W t : Nat) (hft : f + W = t) (ht : t ≤ 36) (hW : 1 ≤ W) (w : World) :
    (Instr.sliceAt 44 (.pointer (some ⟨B, 2, none⟩)) (some (.int .i64 f)) (some (.int .i64 t)) (some (.int .i64 t))).run Tryd.prog w = .ok (.slice (some ⟨B, 2 + f, none⟩) W W) w := by
  rw [run_sliceAt_array_lhm w 44 ⟨B, 2, none⟩ (by rw [Tryd.alen, Tryd.aelem]; exact Tryd.underlying44) .i64 .i64 .i64 f t t (by omega) (by omega) (by omega) (by rw [Tryd.alen]; omega), Tryd.aelem]
  have hs : (sizeOf 5).run Tryd.prog w = .ok 1 w := by kernel_rfl
  simp [hs, Result.andThen, slicedAt, Addr.add]
  subst hft
  rw [if_neg (by omega)]
  by_cases h : f = 0
  · subst h; simp
  · simp [h]
set_option maxHeartbeats 400000 in
set_option maxRecDepth 100000 in
/-- The row y of a grid in block B. -/
theorem rowOf_any (B W H y : Nat) (c : List UInt8) (w : World) (hb : Blk w B (gv W H c) 46) (hW1 : 1 ≤ W) (hW : W ≤ 7) (hy : y < H) (h36 : nn W H ≤ 36) (hH : H ≤ 7) :
    Calls Tryd.prog 54 #[.pointer (some ⟨B, 0, none⟩), .int .i64 y] w fun e w' => e = .returned (.slice (some ⟨B, 2 + nn W y, none⟩) W W) ∧ ∃ n, w' = w.drewN n := by
  have hle : nn W y + W ≤ nn W H := by
    unfold nn
    have : W * y + W = W * (y + 1) := by rw [Nat.mul_succ]
    rw [this]; exact Nat.mul_le_mul_left _ hy
  obtain ⟨f, hf⟩ : ∃ f, f = nn W y := ⟨_, rfl⟩
  obtain ⟨t, ht⟩ : ∃ t, t = f + W := ⟨_, rfl⟩
  rw [← hf] at hle
  have e1 : (y : Int) * (W : Int) = f := by rw [hf, nn_int, Int.mul_comm]
  have e2 : ((y : Int) + 1) * (W : Int) = t := by rw [ht, Int.add_mul, e1]; omega
  have ht36 : t ≤ 36 := by omega
  have hf36 : f ≤ 36 := by omega
  have hsl := Tryd.gslice B f W t ht.symm ht36 hW1
  obtain ⟨c0, -, -⟩ := gcells hb
  have HB := hidI hb
  clear hb
  have HF := hidI hf
  have HT := hidI ht
  rw [← HF.out]
  clear hf ht
  go_enter Tryd.func54, Tryd.ntmps54
  go_wp2
  go_quiet (fail)
  go_wp2
  go_ret
  exact ⟨rfl, nq, rfl⟩
/-- How many of the first k cells hold b. -/
def cnt (c : List UInt8) (b : UInt8) : Nat → Nat
  | 0 => 0
  | k + 1 => cnt c b k + if at0 c k = b then 1 else 0
theorem cnt_le (c : List UInt8) (b : UInt8) (k : Nat) : cnt c b k ≤ k := by
  induction k with
  | zero => exact Nat.le_refl _
  | succ k ih => unfold cnt; split <;> omega
set_option maxHeartbeats 1000000 in
theorem countByte_any (W H : Nat) (c : List UInt8) (b : UInt8) (w : World) (hW : W ≤ 7) (hH : H ≤ 7) (h36 : nn W H ≤ 36) :
    Calls Tryd.prog 52 #[.agg (gv W H c), .int .u8 b.toNat] w (Ret (.int .i64 (cnt c b (nn W H))) w) := by
  have gg := Gr.refl w
  go_enter Tryd.func52, Tryd.ntmps52
  go_wp2_with (first | (refine r_box 46 _ (gv W H c) rfl rfl ?_; intro w1 B1 N1; have g1 := N1.gr; have b1 : Blk w1 B1 (gv W H c) 46 := N1.blk; have l1 := N1.lo; have t1 := N1.hi; have z1 := g1.size; have gg := gg.trans g1; clear N1; obtain ⟨b1_0, b1_1, b1_2⟩ := gcells b1) | (refine r_load_row 46 _ _ rfl _ _ _ b1 Tryd.underlying46 rfl (Tryd.ginfo' _ _ _) rfl ?_) | (go_at_call 53; refine (countAll_any W H c _ hW hH).mono ?_; rintro e w2 ⟨rfl, g2⟩; have z2 := g2.size; have b1 := g2.blk b1; obtain ⟨b1_0, b1_1, b1_2⟩ := gcells b1; have gg := gg.trans g2))
  go_loop [5, 9] (fun n i => ∃ k : Nat, k ≤ nn W H ∧ i = .int .i64 k ∧ n = .int .i64 (cnt c b k)) (fun _ i => nn W H - (intOf i).toNat)
  case atStart => exact ⟨0, Nat.zero_le _, rfl, rfl⟩
  case round =>
    obtain ⟨k, hk, rfl, rfl⟩ := hrel
    have hle := cnt_le c b k
    by_cases hlt : k < nn W H
    · have hix := Tryd.gix B1 k (by omega)
      have hc := b1_2 k (by omega)
      by_cases hb : at0 c k = b
      · have e1 := hidI (show cnt c b (k + 1) = cnt c b k + 1 from by rw [cnt, if_pos hb])
        have ht : (((at0 c k).toNat : Int) == (b.toNat : Int)) = true := by rw [hb]; simp
        have hk36 : k < 36 := by omega
        clear hb
        go_wp2
        go_round
        case rel => exact ⟨k + 1, by omega, by go_num, by rw [e1.out]; go_num⟩
        case measure => simp [intOf]; omega
      · have e1 := hidI (show cnt c b (k + 1) = cnt c b k from by rw [cnt, if_neg hb]; rfl)
        have ht : (((at0 c k).toNat : Int) == (b.toNat : Int)) = false := by
          rw [beq_eq_false_iff_ne]
          intro e
          exact hb (UInt8.toNat_inj.1 (by omega))
        have hk36 : k < 36 := by omega
        clear hb
        go_wp2
        go_round
        case rel => exact ⟨k + 1, by omega, by go_num, by rw [e1.out]⟩
        case measure => simp [intOf]; omega
    · obtain rfl : k = nn W H := by omega
      go_wp2
      go_ret
      exact ⟨rfl, gg⟩
end Go.Proofs.YthjkeohnjggmiaaDoor
