/-
  What the program's smallest functions on trays return: sizes, counts of cells, rows, balls, places.
  What the program's reader of trays returns: a grid exactly for the texts that are trays.
  What the program's reader of trays returns: a grid exactly for the texts that are trays.
  What the program's reader of trays returns: a grid exactly for the texts that are trays.
-/
import Derived.Test.YtpdmfbhjneodeaaGreatDoorBTxt
import Derived.Test.YtpdmfbhjneodeaaGreatDoorShelf
import Derived.Lib.SplitLaws
namespace Go.Proofs.YtpdmfbhjneodeaaGreatDoor
open Go.RowKit
def isSz (x y : Int) : Bool := decide (1 ≤ x) && decide (x ≤ 7) && decide (1 ≤ y) && decide (y ≤ 7) && decide (x * y ≤ 36)
theorem isSz_iff {x y : Int} : isSz x y = true ↔ (1 ≤ x ∧ x ≤ 7 ∧ 1 ≤ y ∧ y ≤ 7 ∧ x * y ≤ 36) := by
  unfold isSz; simp [and_assoc]
theorem mul_small {x y : Int} (h1 : 1 ≤ x) (h2 : x ≤ 7) (h3 : 1 ≤ y) (h4 : y ≤ 7) : 1 ≤ x * y ∧ x * y ≤ 49 := by
  have a : x = 1 ∨ x = 2 ∨ x = 3 ∨ x = 4 ∨ x = 5 ∨ x = 6 ∨ x = 7 := by omega
  rcases a with rfl | rfl | rfl | rfl | rfl | rfl | rfl <;> omega
set_option maxHeartbeats 400000 in
theorem isSize_any (x y : Int) (w : World) : Calls Tryz.prog 27 #[.int .i64 x, .int .i64 y] w fun e w' => e = .returned (.bool (isSz x y)) ∧ w = w' := by
  by_cases h : 1 ≤ x ∧ x ≤ 7 ∧ 1 ≤ y ∧ y ≤ 7
  · obtain ⟨h1, h2, h3, h4⟩ := h
    have hm := mul_small h1 h2 h3 h4
    have HW : Hid (wrap64 (x * y) = x * y) := IntWalk.wrap64_in _ ⟨by omega, by omega⟩
    have HV := hidI (show isSz x y = decide (x * y ≤ 36) from by unfold isSz; simp [h1, h2, h3, h4])
    clear hm
    go_enter Tryz.func27, Tryz.ntmps27
    go_wp2
    go_ret
    exact ⟨by rw [HV.out]; simp [HW.out], rfl⟩
  · have HV : Hid (isSz x y = false) := by
      refine Bool.eq_false_iff.2 fun e => h ?_
      have := isSz_iff.1 e
      exact ⟨this.1, this.2.1, this.2.2.1, this.2.2.2.1⟩
    have hcases : x < 1 ∨ (1 ≤ x ∧ 7 < x) ∨ (1 ≤ x ∧ x ≤ 7 ∧ y < 1) ∨ (1 ≤ x ∧ x ≤ 7 ∧ 1 ≤ y ∧ 7 < y) := by omega
    clear h
    rcases hcases with h1 | ⟨h1, h2⟩ | ⟨h1, h2, h3⟩ | ⟨h1, h2, h3, h4⟩
    all_goals
      go_enter Tryz.func27, Tryz.ntmps27
      go_wp2
      go_ret
      exact ⟨ret_bool (by rw [HV.out] <;> (first | rfl | (simp; done) | (simp; omega))), rfl⟩
set_option maxHeartbeats 400000 in
theorem countAll_any (W H : Nat) (c : List UInt8) (w : World) (hW : W ≤ 7) (hH : H ≤ 7) : Calls Tryz.prog 38 #[.agg (gv W H c)] w (Ret (.int .i64 (nn W H)) w) := by
  have HW : Hid (wrap64 ((W : Int) * (H : Int)) = (nn W H : Nat)) := nn_wrap W H (by have := nn_le hW hH; omega)
  have gg := Gr.refl w
  go_enter Tryz.func38, Tryz.ntmps38
  go_wp2_with (refine r_box 43 _ (gv W H c) rfl rfl ?_; intro w1 B1 N1; have g1 := N1.gr; have b1 : Blk w1 B1 (gv W H c) 43 := N1.blk; have l1 := N1.lo; have t1 := N1.hi; have z1 := g1.size; have gg := gg.trans g1; clear N1; obtain ⟨b1_0, b1_1, b1_2⟩ := gcells b1)
  go_ret
  exact ⟨by simp [HW.out], gg⟩
def ballB (b : UInt8) : Bool := b != 35 && b != 46
set_option maxHeartbeats 400000 in
theorem isBall_any (b : UInt8) (w : World) : Calls Tryz.prog 69 #[.int .u8 b.toNat] w fun e w' => e = .returned (.bool (ballB b)) ∧ w = w' := by
  by_cases h1 : b = 35
  · subst h1
    go_enter Tryz.func69, Tryz.ntmps69
    go_wp2
    go_ret
    exact ⟨rfl, rfl⟩
  · have e1 : b.toNat ≠ 35 := fun e => h1 (UInt8.toNat_inj.1 e)
    by_cases h2 : b = 46
    · subst h2
      go_enter Tryz.func69, Tryz.ntmps69
      go_wp2
      go_ret
      exact ⟨rfl, rfl⟩
    · have e2 : b.toNat ≠ 46 := fun e => h2 (UInt8.toNat_inj.1 e)
      have HV := hidI (show ballB b = true from by unfold ballB; simp [h1, h2])
      have n1 : ¬ (b.toNat : Int) = 35 := by omega
      have n2 : ¬ (b.toNat : Int) = 46 := by omega
      go_enter Tryz.func69, Tryz.ntmps69
      go_wp2
      go_ret
      exact ⟨ret_bool (by rw [HV.out] <;> (first | rfl | (simp; done) | (simp; omega))), rfl⟩
def inB (x : Int) (n : Nat) : Bool := decide (0 ≤ x) && decide (x < n)
theorem inB_true {x : Int} {n : Nat} : inB x n = true ↔ 0 ≤ x ∧ x < n := by unfold inB; simp
theorem inB_false {x : Int} {n : Nat} : inB x n = false ↔ x < 0 ∨ (n : Int) ≤ x := by
  rw [← Bool.not_eq_true, inB_true]; omega
set_option maxHeartbeats 1000000 in
theorem hasPlace_any (W H : Nat) (c : List UInt8) (x y : Int) (w : World) : Calls Tryz.prog 108 #[.agg (gv W H c), .int .i64 x, .int .i64 y] w (Ret (.bool (inB x W && inB y H)) w) := by
  have gg := Gr.refl w
  have hcases : x < 0 ∨ (0 ≤ x ∧ (W : Int) ≤ x) ∨ (0 ≤ x ∧ x < W ∧ y < 0) ∨ (0 ≤ x ∧ x < W ∧ 0 ≤ y ∧ (H : Int) ≤ y) ∨ (0 ≤ x ∧ x < W ∧ 0 ≤ y ∧ y < H) := by omega
  rcases hcases with h1 | ⟨h1, h2⟩ | ⟨h1, h2, h3⟩ | ⟨h1, h2, h3, h4⟩ | ⟨h1, h2, h3, h4⟩
  · have HV := hidI (show (inB x W && inB y H) = false from by rw [inB_false.2 (.inl h1)]; rfl)
    go_enter Tryz.func108, Tryz.ntmps108
    go_wp2_with (refine r_box 43 _ (gv W H c) rfl rfl ?_; intro w1 B1 N1; have g1 := N1.gr; have b1 : Blk w1 B1 (gv W H c) 43 := N1.blk; have l1 := N1.lo; have t1 := N1.hi; have z1 := g1.size; have gg := gg.trans g1; clear N1; obtain ⟨b1_0, b1_1, b1_2⟩ := gcells b1)
    go_ret
    exact ⟨ret_bool (by rw [HV.out] <;> (first | rfl | (simp; done) | (simp; omega))), gg⟩
  · have HV := hidI (show (inB x W && inB y H) = false from by rw [inB_false.2 (.inr h2)]; rfl)
    go_enter Tryz.func108, Tryz.ntmps108
    go_wp2_with (refine r_box 43 _ (gv W H c) rfl rfl ?_; intro w1 B1 N1; have g1 := N1.gr; have b1 : Blk w1 B1 (gv W H c) 43 := N1.blk; have l1 := N1.lo; have t1 := N1.hi; have z1 := g1.size; have gg := gg.trans g1; clear N1; obtain ⟨b1_0, b1_1, b1_2⟩ := gcells b1)
    go_ret
    exact ⟨ret_bool (by rw [HV.out] <;> (first | rfl | (simp; done) | (simp; omega))), gg⟩
  · have HV := hidI (show (inB x W && inB y H) = false from by rw [inB_false.2 (.inl h3), Bool.and_false])
    go_enter Tryz.func108, Tryz.ntmps108
    go_wp2_with (refine r_box 43 _ (gv W H c) rfl rfl ?_; intro w1 B1 N1; have g1 := N1.gr; have b1 : Blk w1 B1 (gv W H c) 43 := N1.blk; have l1 := N1.lo; have t1 := N1.hi; have z1 := g1.size; have gg := gg.trans g1; clear N1; obtain ⟨b1_0, b1_1, b1_2⟩ := gcells b1)
    go_ret
    exact ⟨ret_bool (by rw [HV.out] <;> (first | rfl | (simp; done) | (simp; omega))), gg⟩
  · have HV := hidI (show (inB x W && inB y H) = false from by rw [inB_false.2 (.inr h4), Bool.and_false])
    go_enter Tryz.func108, Tryz.ntmps108
    go_wp2_with (refine r_box 43 _ (gv W H c) rfl rfl ?_; intro w1 B1 N1; have g1 := N1.gr; have b1 : Blk w1 B1 (gv W H c) 43 := N1.blk; have l1 := N1.lo; have t1 := N1.hi; have z1 := g1.size; have gg := gg.trans g1; clear N1; obtain ⟨b1_0, b1_1, b1_2⟩ := gcells b1)
    go_ret
    exact ⟨ret_bool (by rw [HV.out] <;> (first | rfl | (simp; done) | (simp; omega))), gg⟩
  · have HV := hidI (show (inB x W && inB y H) = true from by rw [inB_true.2 ⟨h1, h2⟩, inB_true.2 ⟨h3, h4⟩]; rfl)
    go_enter Tryz.func108, Tryz.ntmps108
    go_wp2_with (refine r_box 43 _ (gv W H c) rfl rfl ?_; intro w1 B1 N1; have g1 := N1.gr; have b1 : Blk w1 B1 (gv W H c) 43 := N1.blk; have l1 := N1.lo; have t1 := N1.hi; have z1 := g1.size; have gg := gg.trans g1; clear N1; obtain ⟨b1_0, b1_1, b1_2⟩ := gcells b1)
    go_ret
    exact ⟨ret_bool (by rw [HV.out] <;> (first | rfl | (simp; done) | (simp; omega))), gg⟩
theorem Tryz.gix (B k : Nat) (hk : k < 36) (w : World) : (Instr.indexAt 41 (.pointer (some ⟨B, 2, none⟩)) (.int .i64 k)).run Tryz.prog w = .ok (.pointer (some ⟨B, 2 + k, none⟩)) w := by
  rw [run_indexAt_array w 41 ⟨B, 2, none⟩ .i64 k (by rw [Tryz.alen, Tryz.aelem]; exact Tryz.underlying41), if_pos (by rw [Tryz.alen]; omega), Tryz.aelem]
  have hs : (sizeOf 5).run Tryz.prog w = .ok 1 w := by kernel_rfl
  simp [hs, Result.andThen, Addr.add]
theorem Tryz.gslice (B f W t : Nat) (hft : f + W = t) (ht : t ≤ 36) (hW : 1 ≤ W) (w : World) :
    (Instr.sliceAt 41 (.pointer (some ⟨B, 2, none⟩)) (some (.int .i64 f)) (some (.int .i64 t)) (some (.int .i64 t))).run Tryz.prog w = .ok (.slice (some ⟨B, 2 + f, none⟩) W W) w := by
  rw [run_sliceAt_array_lhm w 41 ⟨B, 2, none⟩ (by rw [Tryz.alen, Tryz.aelem]; exact Tryz.underlying41) .i64 .i64 .i64 f t t (by omega) (by omega) (by omega) (by rw [Tryz.alen]; omega), Tryz.aelem]
  have hs : (sizeOf 5).run Tryz.prog w = .ok 1 w := by kernel_rfl
  simp [hs, Result.andThen, slicedAt, Addr.add]
  subst hft
  rw [if_neg (by omega)]
  by_cases h : f = 0
  · subst h; simp
  · simp [h]
set_option maxHeartbeats 400000 in
set_option maxRecDepth 100000 in
/-- The row y of a grid in block B. -/
theorem rowOf_any (B W H y : Nat) (c : List UInt8) (w : World) (hb : Blk w B (gv W H c) 43) (hW1 : 1 ≤ W) (hW : W ≤ 7) (hy : y < H) (h36 : nn W H ≤ 36) (hH : H ≤ 7) :
    Calls Tryz.prog 28 #[.pointer (some ⟨B, 0, none⟩), .int .i64 y] w fun e w' => e = .returned (.slice (some ⟨B, 2 + nn W y, none⟩) W W) ∧ ∃ n, w' = w.drewN n := by
  have hle : nn W y + W ≤ nn W H := by
    unfold nn
    have : W * y + W = W * (y + 1) := by rw [Nat.mul_succ]
    rw [this]; exact Nat.mul_le_mul_left _ hy
  obtain ⟨f, hf⟩ : ∃ f, f = nn W y := ⟨_, rfl⟩
  obtain ⟨t, ht⟩ : ∃ t, t = f + W := ⟨_, rfl⟩
  rw [← hf] at hle
  have e1 : (y : Int) * (W : Int) = f := by rw [hf, nn_int, Int.mul_comm]
  have e2 : ((y : Int) + 1) * (W : Int) = t := by rw [ht, Int.add_mul, e1]; omega
  have ht36 : t ≤ 36 := by omega
  have hf36 : f ≤ 36 := by omega
  have hsl := Tryz.gslice B f W t ht.symm ht36 hW1
  obtain ⟨c0, -, -⟩ := gcells hb
  have HB := hidI hb
  clear hb
  have HF := hidI hf
  have HT := hidI ht
  rw [← HF.out]
  clear hf ht
  go_enter Tryz.func28, Tryz.ntmps28
  go_wp2
  go_quiet (fail)
  go_wp2
  go_ret
  exact ⟨rfl, nq, rfl⟩
/-- How many of the first k cells hold b. -/
def cnt (c : List UInt8) (b : UInt8) : Nat → Nat
  | 0 => 0
  | k + 1 => cnt c b k + if at0 c k = b then 1 else 0
theorem cnt_le (c : List UInt8) (b : UInt8) (k : Nat) : cnt c b k ≤ k := by
  induction k with
  | zero => exact Nat.le_refl _
  | succ k ih => unfold cnt; split <;> omega
set_option maxHeartbeats 1000000 in
theorem countByte_any (W H : Nat) (c : List UInt8) (b : UInt8) (w : World) (hW : W ≤ 7) (hH : H ≤ 7) (h36 : nn W H ≤ 36) :
    Calls Tryz.prog 40 #[.agg (gv W H c), .int .u8 b.toNat] w (Ret (.int .i64 (cnt c b (nn W H))) w) := by
  have gg := Gr.refl w
  go_enter Tryz.func40, Tryz.ntmps40
  go_wp2_with (first | (refine r_box 43 _ (gv W H c) rfl rfl ?_; intro w1 B1 N1; have g1 := N1.gr; have b1 : Blk w1 B1 (gv W H c) 43 := N1.blk; have l1 := N1.lo; have t1 := N1.hi; have z1 := g1.size; have gg := gg.trans g1; clear N1; obtain ⟨b1_0, b1_1, b1_2⟩ := gcells b1) | (refine r_load_row 43 _ _ rfl _ _ _ b1 Tryz.underlying43 rfl (Tryz.ginfo' _ _ _) rfl ?_) | (go_at_call 38; refine (countAll_any W H c _ hW hH).mono ?_; rintro e w2 ⟨rfl, g2⟩; have z2 := g2.size; have b1 := g2.blk b1; obtain ⟨b1_0, b1_1, b1_2⟩ := gcells b1; have gg := gg.trans g2))
  go_loop [5, 9] (fun n i => ∃ k : Nat, k ≤ nn W H ∧ i = .int .i64 k ∧ n = .int .i64 (cnt c b k)) (fun _ i => nn W H - (intOf i).toNat)
  case atStart => exact ⟨0, Nat.zero_le _, rfl, rfl⟩
  case round =>
    obtain ⟨k, hk, rfl, rfl⟩ := hrel
    have hle := cnt_le c b k
    by_cases hlt : k < nn W H
    · have hix := Tryz.gix B1 k (by omega)
      have hc := b1_2 k (by omega)
      by_cases hb : at0 c k = b
      · have e1 := hidI (show cnt c b (k + 1) = cnt c b k + 1 from by rw [cnt, if_pos hb])
        have ht : (((at0 c k).toNat : Int) == (b.toNat : Int)) = true := by rw [hb]; simp
        have hk36 : k < 36 := by omega
        clear hb
        go_wp2
        go_round
        case rel => exact ⟨k + 1, by omega, by go_num, by rw [e1.out]; go_num⟩
        case measure => simp [intOf]; omega
      · have e1 := hidI (show cnt c b (k + 1) = cnt c b k from by rw [cnt, if_neg hb]; rfl)
        have ht : (((at0 c k).toNat : Int) == (b.toNat : Int)) = false := by
          rw [beq_eq_false_iff_ne]
          intro e
          exact hb (UInt8.toNat_inj.1 (by omega))
        have hk36 : k < 36 := by omega
        clear hb
        go_wp2
        go_round
        case rel => exact ⟨k + 1, by omega, by go_num, by rw [e1.out]⟩
        case measure => simp [intOf]; omega
    · obtain rfl : k = nn W H := by omega
      go_wp2
      go_ret
      exact ⟨rfl, gg⟩
end Go.Proofs.YtpdmfbhjneodeaaGreatDoor
namespace Go.Proofs.YtpdmfbhjneodeaaGreatDoor
open Go.RowKit
def cellText : ByteArray := ⟨#[35, 46, 111, 97, 98, 99, 100, 101, 102]⟩
theorem index_cell (b : UInt8) : (Lib.indexByte [35, 46, 111, 97, 98, 99, 100, 101, 102] b < 0) ↔ isCellB b = false := by
  have h : ∀ n : Fin 256, (Lib.indexByte [35, 46, 111, 97, 98, 99, 100, 101, 102] (UInt8.ofNat n.val) < 0) ↔ isCellB (UInt8.ofNat n.val) = false := of_decide_eq_true (by kernel_rfl)
  have := h ⟨b.toNat, b.toNat_lt⟩
  simpa using this
def nameB (j : Nat) : UInt8 := UInt8.ofNat (97 + j)
theorem once_iff (c : List UInt8) : onceB c = true ↔ ∀ j, j < 6 → c.count (nameB j) ≤ 1 := by
  have e : onceB c = (List.range 6).all fun j => decide (c.count (nameB j) ≤ 1) := rfl
  rw [e]
  simp only [List.all_eq_true, List.mem_range, decide_eq_true_eq]
theorem cnt_count (c : List UInt8) (b : UInt8) (k : Nat) (h : k ≤ c.length) : cnt c b k = (c.take k).count b := by
  induction k with
  | zero => rfl
  | succ k ih =>
    rw [cnt, ih (by omega), List.take_add_one, List.count_append]
    have : c[k]? = some (at0 c k) := by
      unfold at0
      rw [List.getElem?_eq_getElem (by omega)]
      simp [List.getD, List.getElem?_eq_getElem (show k < c.length by omega)]
    rw [this]
    simp only [Option.toList, List.count_cons, List.count_nil, beq_iff_eq, Nat.zero_add]
theorem cnt_all (c : List UInt8) (b : UInt8) : cnt c b c.length = c.count b := by
  rw [cnt_count c b _ (Nat.le_refl _), List.take_length]
theorem all_at0 (c : List UInt8) (p : UInt8 → Bool) : c.all p = true ↔ ∀ j, j < c.length → p (at0 c j) = true := by
  rw [List.all_eq_true]
  constructor
  · intro h j hj
    refine h _ ?_
    unfold at0
    simp [List.getD, List.getElem?_eq_getElem hj]
  · intro h b hb
    obtain ⟨j, hj, rfl⟩ := List.getElem_of_mem hb
    have := h j hj
    unfold at0 at this
    simpa [List.getD, List.getElem?_eq_getElem hj] using this
def nameCells : Array Value := #[.int .u8 97, .int .u8 98, .int .u8 99, .int .u8 100, .int .u8 101, .int .u8 102]
theorem nameCells_get (j : Nat) (h : j < 6) : nameCells[j]? = some (.int .u8 (nameB j).toNat) := by
  have : j = 0 ∨ j = 1 ∨ j = 2 ∨ j = 3 ∨ j = 4 ∨ j = 5 := by omega
  rcases this with rfl | rfl | rfl | rfl | rfl | rfl <;> rfl
def goodC (c : List UInt8) : Bool := c.all isCellB && onceB c
set_option maxHeartbeats 2000000 in
set_option maxRecDepth 100000 in
theorem hasCells_any (W H : Nat) (c : List UInt8) (w : World) (hW : W ≤ 7) (hH : H ≤ 7) (h36 : nn W H ≤ 36) (hlen : c.length = nn W H) :
    Calls Tryz.prog 29 #[.agg (gv W H c)] w (Ret (.bool (goodC c)) w) := by
  have HL := hidI hlen
  clear hlen
  have gg := Gr.refl w
  go_enter Tryz.func29, Tryz.ntmps29
  go_wp2_with (first | (refine r_box 43 _ (gv W H c) rfl rfl ?_; intro w1 B1 N1; have g1 := N1.gr; have b1 : Blk w1 B1 (gv W H c) 43 := N1.blk; have l1 := N1.lo; have t1 := N1.hi; have z1 := g1.size; have gg := gg.trans g1; clear N1; obtain ⟨b1_0, b1_1, b1_2⟩ := gcells b1) | (refine r_load_row 43 _ _ rfl _ _ _ b1 Tryz.underlying43 rfl (Tryz.ginfo' _ _ _) rfl ?_) | (go_at_call 38; refine (countAll_any W H c _ hW hH).mono ?_; rintro e w2 ⟨rfl, g2⟩; have z2 := g2.size; have b1 := g2.blk b1; obtain ⟨b1_0, b1_1, b1_2⟩ := gcells b1; have gg := gg.trans g2))
  go_loop [3, 8] (fun _ i => ∃ k : Nat, k ≤ nn W H ∧ i = .int .i64 k ∧ Hid (∀ j, j < k → isCellB (at0 c j) = true)) (fun _ i => nn W H - (intOf i).toNat)
  case atStart => exact ⟨0, Nat.zero_le _, rfl, fun j hj => by omega⟩
  case round =>
    obtain ⟨k, hk, rfl, HA⟩ := hrel
    by_cases hlt : k < nn W H
    · have hix := Tryz.gix B1 k (by omega)
      have hc := b1_2 k (by omega)
      have hk36 : k < 36 := by omega
      by_cases hb : isCellB (at0 c k) = true
      · have hneg : ¬ (Lib.indexByte [35, 46, 111, 97, 98, 99, 100, 101, 102] (at0 c k) < 0) := by rw [index_cell, hb]; simp
        have HB := hidI hb
        clear hb
        go_wp2_with (go_at_call 39; refine (Tryz.strings_IndexByte _ _ _).mono ?_; rintro e wSame ⟨rfl, rfl⟩)
        go_round
        case rel => exact ⟨k + 1, by omega, by go_num, fun j hj => if h : j < k then HA.out j h else by rw [show j = k by omega]; exact HB.out⟩
        case measure => simp [intOf]; omega
      · have hb' : isCellB (at0 c k) = false := by simpa using hb
        have hneg : Lib.indexByte [35, 46, 111, 97, 98, 99, 100, 101, 102] (at0 c k) < 0 := (index_cell _).2 hb'
        have HV := hidI (show goodC c = false from by
          unfold goodC
          rw [show c.all isCellB = false from by
            rw [← Bool.not_eq_true, all_at0]
            intro h
            rw [h k (by have := HL.out; omega)] at hb'
            cases hb']
          rfl)
        clear hb hb'
        go_wp2_with (go_at_call 39; refine (Tryz.strings_IndexByte _ _ _).mono ?_; rintro e wSame ⟨rfl, rfl⟩)
        go_ret
        exact ⟨ret_bool (by rw [HV.out] <;> (first | rfl | (simp; done) | (simp; omega))), gg⟩
    · obtain rfl : k = nn W H := by omega
      have HALL := hidI (show c.all isCellB = true from by rw [all_at0]; intro j hj; exact HA.out j (by have := HL.out; omega))
      clear hlt
      have kc := fun (w : World) (C : Array Value) (n c : Nat) => Lib.run_convert_bytes_const (P := Tryz.prog) w 29 5 C n c Tryz.underlying29 Tryz.underlying5
      go_wp2
      go_loopw [5, 21] (fun _ i wr => ∃ k : Nat, k ≤ 6 ∧ i = .int .i64 k ∧ Own wr w2.heap.size (.cells nameCells 5 (6, 7)) ∧ Blk wr B1 (gv W H c) 43 ∧ Gr w wr ∧ Hid (∀ j, j < k → c.count (nameB j) ≤ 1)) (fun _ i _ => 6 - (intOf i).toNat)
      case atStart => exact ⟨0, by omega, rfl, Own.new w2 _, heap_alloc_keep b1, gg.alloc _, fun j hj => by omega⟩
      case round =>
        obtain ⟨k, hk, rfl, bn, b1, gg, HN⟩ := hrel
        by_cases hlt : k < 6
        · have hc : wr.cell? ⟨w2.heap.size, k, none⟩ = some (.int .u8 (nameB k).toNat) := (bn.cell k).trans (nameCells_get k hlt)
          have hcl := cnt_all c (nameB k)
          rw [HL.out] at hcl
          by_cases hgt : c.count (nameB k) ≤ 1
          · have hle : cnt c (nameB k) (nn W H) ≤ 1 := by omega
            have HC := hidI hgt
            clear hcl hgt
            go_wp2_with (first | (refine r_load_row 43 _ _ rfl _ _ _ b1 Tryz.underlying43 rfl (Tryz.ginfo' _ _ _) rfl ?_) | (go_at_call 40; refine (countByte_any W H c _ _ hW hH h36).mono ?_; rintro e w5 ⟨rfl, g5⟩; have z5 := g5.size; have b1 := g5.blk b1; have gg := gg.trans g5))
            go_roundw
            case rel => exact ⟨k + 1, by omega, by go_num, g5.own bn, b1, gg, fun j hj => if h : j < k then HN.out j h else by rw [show j = k by omega]; exact HC.out⟩
            case measure => simp [intOf]; omega
          · have hle : 1 < cnt c (nameB k) (nn W H) := by omega
            have HV := hidI (show goodC c = false from by
              unfold goodC
              rw [show onceB c = false from by
                rw [← Bool.not_eq_true, once_iff]
                intro h
                exact hgt (h k hlt), Bool.and_false])
            clear hcl hgt
            go_wp2_with (first | (refine r_load_row 43 _ _ rfl _ _ _ b1 Tryz.underlying43 rfl (Tryz.ginfo' _ _ _) rfl ?_) | (go_at_call 40; refine (countByte_any W H c _ _ hW hH h36).mono ?_; rintro e w5 ⟨rfl, g5⟩; have z5 := g5.size; have b1 := g5.blk b1; have gg := gg.trans g5))
            go_ret
            exact ⟨ret_bool (by rw [HV.out] <;> (first | rfl | (simp; done) | (simp; omega))), gg⟩
        · obtain rfl : k = 6 := by omega
          have HV := hidI (show goodC c = true from by
            unfold goodC
            rw [HALL.out, (once_iff c).2 HN.out]
            rfl)
          go_wp2
          go_ret
          exact ⟨ret_bool (by rw [HV.out] <;> (first | rfl | (simp; done) | (simp; omega))), gg⟩
end Go.Proofs.YtpdmfbhjneodeaaGreatDoor
namespace Go.Proofs.YtpdmfbhjneodeaaGreatDoor
open Go.RowKit
theorem splitK_ne (b : UInt8) (hb : b ≠ 47) (l : List UInt8) (k : Nat) : Lib.splitK [47] 0 k (b :: l) = (b :: (Lib.splitK [47] 0 k l).headD []) :: (Lib.splitK [47] 0 k l).tail := by
  cases k with
  | zero => rfl
  | succ k =>
    have e : Lib.index (b :: l) [47] = if Lib.index l [47] == -1 then -1 else Lib.index l [47] + 1 := by
      rw [Lib.index_one, Lib.index_one]
      rw [Lib.indexByte, if_neg (by simpa using hb)]
    have hge : -1 ≤ Lib.index l [47] := by rw [Lib.index_one]; exact Lib.indexByte_ge _ _
    unfold Lib.splitK
    rw [e]
    by_cases h : Lib.index l [47] = -1
    · simp [h]
    · have h1 : ¬ (Lib.index l [47] == -1) = true := by simpa using h
      rw [if_neg h1, if_neg h1]
      have h2 : ¬ (Lib.index l [47] + 1 == -1) = true := by simp; omega
      rw [if_neg h2]
      obtain ⟨i, hi⟩ : ∃ i : Nat, Lib.index l [47] = i := ⟨(Lib.index l [47]).toNat, by omega⟩
      rw [hi]
      have e3 : ((i : Int) + 1).toNat = i + 1 := by omega
      rw [e3]
      simp
theorem splitK_pieces (l : List UInt8) : Lib.splitK [47] 0 (Lib.count l [47]) l = pieces l := by
  induction l with
  | nil => rfl
  | cons b l ih =>
    by_cases hb : b = 47
    · subst hb
      rw [Lib.count_cons_eq, Nat.add_comm, pieces, if_pos rfl]
      have e : Lib.index (47 :: l) [47] = 0 := by rw [Lib.index_one, Lib.indexByte, if_pos (by rfl)]
      unfold Lib.splitK
      rw [e, if_neg (by decide)]
      rw [show (47 :: l).drop ((0 : Int).toNat + [(47 : UInt8)].length) = l from rfl, ih]
      rfl
    · rw [Lib.count_cons_ne b 47 l hb, splitK_ne b hb, ih, pieces, if_neg hb]
theorem pieces_count (s : ByteArray) : (pieces s.data.toList).length = Lib.countB s ⟨#[47]⟩ + 1 := by
  show _ = Lib.count s.data.toList [47] + 1
  rw [Lib.count_one]
  induction s.data.toList with
  | nil => rfl
  | cons b l ih =>
    have hp := pieces_ne l
    rw [pieces, List.count_cons]
    split
    · rename_i hb; simp [hb, ih]
    · rename_i hb
      rw [if_neg (by simpa using hb)]
      cases h : pieces l with
      | nil => exact absurd h hp
      | cons p q => rw [h] at ih; simpa using ih
/-- It returns the rows of a text, in new memory. -/
def RetRows (l : List UInt8) (w : World) (e : Ending) (w' : World) : Prop :=
  ∃ (rows : List ByteArray) (B : Nat), rows.map (·.data.toList) = pieces l ∧ e = .returned (.slice (some ⟨B, 0, none⟩) rows.length rows.length) ∧
    Own w' B (.cells (rows.map Value.string).toArray 9 (0, 0)) ∧ w.heap.size ≤ B ∧ Gr w w'
/-- The variable of the library that the search reads holds some number. -/
def ML (w : World) : Prop := ∃ m : Int, w.cell? ⟨0, 0, none⟩ = some (.int .i64 m)
theorem Gr.ml {w w' : World} (h : Gr w w') (hm : ML w) : ML w' := by obtain ⟨m, hm⟩ := hm; exact ⟨m, h.cell hm⟩
theorem split_any (s : ByteArray) (w : World) (hs : s.size ≤ 1048576) (hm : ML w) : Calls Tryz.prog 26 #[.string s, .string ⟨#[47]⟩] w (RetRows s.data.toList w) := by
  obtain ⟨m, hm⟩ := hm
  refine (Tryz.strings_Split s ⟨#[47]⟩ m w (by omega) hm (by decide)).mono ?_
  rintro e w' ⟨rfl, rfl⟩
  have h := Lib.splitB_data ⟨#[47]⟩ 0 (Lib.countB s ⟨#[47]⟩) s
  have h2 : (Lib.splitB ⟨#[47]⟩ 0 (Lib.countB s ⟨#[47]⟩) s).map (·.data.toList) = pieces s.data.toList := h.trans (splitK_pieces _)
  have h3 : (Lib.splitB ⟨#[47]⟩ 0 (Lib.countB s ⟨#[47]⟩) s).length = Lib.countB s ⟨#[47]⟩ + 1 := by
    have hl := congrArg List.length h2
    rw [List.length_map] at hl
    rw [hl]
    exact pieces_count _
  refine ⟨_, w.heap.size, h2, ?_, Own.new w _, Nat.le_refl _, (Gr.refl w).alloc _⟩
  rw [h3]
end Go.Proofs.YtpdmfbhjneodeaaGreatDoor
namespace Go.Proofs.YtpdmfbhjneodeaaGreatDoor
open Go.RowKit
def rdG (l : List UInt8) : Grid := (parse l).getD ⟨0, 0, []⟩
def rdOk (l : List UInt8) : Bool := (parse l).isSome
theorem rd_none {l : List UInt8} (h : ∀ w, ¬ OkR (pieces l) w) : rdG l = ⟨0, 0, []⟩ ∧ rdOk l = false := by
  unfold rdG rdOk; rw [parse_none h]; exact ⟨rfl, rfl⟩
theorem rd_of {l : List UInt8} {w : Nat} (h : OkR (pieces l) w) : rdG l = ⟨w, (pieces l).length, (pieces l).flatten⟩ ∧ rdOk l = true := by
  unfold rdG rdOk; rw [parse_of h]; exact ⟨rfl, rfl⟩
def rowAt (rows : List ByteArray) (k : Nat) : ByteArray := rows.getD k ⟨#[]⟩
theorem rowAt_map (rows : List ByteArray) (k : Nat) (h : k < rows.length) : (rows.map (·.data.toList))[k]? = some (rowAt rows k).data.toList := by
  unfold rowAt; simp [List.getD, h]
theorem rowAt_cell {w : World} {B : Nat} {rows : List ByteArray} {T : TypeId} {fr : Nat × Nat} (h : Own w B (.cells (rows.map Value.string).toArray T fr)) (k : Nat) (hk : k < rows.length) :
    w.cell? ⟨B, k, none⟩ = some (.string (rowAt rows k)) := by
  rw [h.cell k]; unfold rowAt; simp [List.getD, hk]
theorem size_eq (s : ByteArray) : s.data.toList.length = s.size := Array.length_toList
theorem fin2 {A C : Array Value} {x y : Bool} (h1 : A = C) (h2 : x = y) : Ending.returned (.tuple #[.agg A, .bool x]) = .returned (.tuple #[.agg C, .bool y]) := by rw [h1, h2]
theorem take_flat {p : List (List UInt8)} {w : Nat} (k : Nat) (hk : k ≤ p.length) (h : ∀ (j : Nat) r, j < k → p[j]? = some r → r.length = w) : ((p.take k).flatten).length = nn w k := by
  have h2 : ∀ r ∈ p.take k, r.length = w := by
    intro r hr
    obtain ⟨j, hj, rfl⟩ := List.getElem_of_mem hr
    rw [List.length_take] at hj
    refine h j _ (by omega) ?_
    rw [List.getElem_take, List.getElem?_eq_getElem]
  rw [flatten_len h2, List.length_take, Nat.min_eq_left hk]
  rfl
theorem take_flat_succ {p : List (List UInt8)} {k : Nat} {r : List UInt8} (h : p[k]? = some r) : (p.take (k + 1)).flatten = (p.take k).flatten ++ r := by
  rw [List.take_add_one, h]; simp
theorem okR_mk {p : List (List UInt8)} {w : Nat} (h1 : 1 ≤ w) (h7 : w ≤ 7) (p1 : 1 ≤ p.length) (p7 : p.length ≤ 7) (h36 : nn w p.length ≤ 36) (hr : ∀ (j : Nat) r, j < p.length → p[j]? = some r → r.length = w) (hg : goodC p.flatten = true) : OkR p w := by
  unfold goodC at hg
  rw [Bool.and_eq_true] at hg
  refine ⟨h1, h7, p1, p7, h36, ?_, fun b hb => (List.all_eq_true.1 hg.1) b hb, hg.2⟩
  intro r hr'
  obtain ⟨j, hj, rfl⟩ := List.getElem_of_mem hr'
  exact hr j _ hj (List.getElem?_eq_getElem hj)
theorem okR_good {p : List (List UInt8)} {w : Nat} (h : OkR p w) : goodC p.flatten = true := by
  unfold goodC
  rw [Bool.and_eq_true]
  exact ⟨List.all_eq_true.2 h.cells, h.once⟩
theorem Tryz.u8size : (Tryz.prog.info? 5).map (·.size) = some 1 := by kernel_rfl
set_option maxHeartbeats 4000000 in
set_option maxRecDepth 100000 in
theorem readTray_any (s : ByteArray) (w : World) (hm : ML w) (hs : s.size ≤ 1048576) :
    Calls Tryz.prog 17 #[.string s] w (Ret (.tuple #[.agg (gvG (rdG s.data.toList)), .bool (rdOk s.data.toList)]) w) := by
  have gg := Gr.refl w
  by_cases h42 : 42 < s.size
  · have HV := hidI (rd_none (l := s.data.toList) (fun W h => by
      have := parse_len (parse_of h)
      rw [size_eq] at this
      omega))
    go_enter Tryz.func17, Tryz.ntmps17
    go_wp2_with (first | (refine r_alloc 43 _ Tryz.gzero rfl ?_; intro w1 B1 N1; have g1 := N1.gr; have b1 : Blk w1 B1 (gv 0 0 []) 43 := N1.blk; have l1 := N1.lo; have t1 := N1.hi; have z1 := g1.size; have gg := gg.trans g1; clear N1; obtain ⟨b1_0, b1_1, b1_2⟩ := gcells b1) | (refine r_build 43 [] [] _ (Tryz.gbuild0 _) rfl rfl ?_) | (refine r_store_row 43 43 _ _ _ rfl (gv _ _ _) _ rfl b1 (Tryz.gsize' _ _ _) (by simp only [gv_size]) (gv_one _ _ _) rfl ?_; intro w2 u2 b1'; have z2 := u2.size; have gg := u2.gr gg (by omega); clear b1; have b1 := b1'; clear b1'; obtain ⟨b1_0, b1_1, b1_2⟩ := gcells b1))
    refine bodyPost_ret (results_row_bool rfl _ _ _ _ _ _ rfl b1 Tryz.underlying43 rfl (Tryz.ginfo' _ _ _)) rfl ⟨?_, gg⟩
    exact fin2 (by rw [HV.out.1]; rfl) (by rw [HV.out.2])
  · go_enter Tryz.func17, Tryz.ntmps17
    go_wp2_with (refine r_alloc 43 _ Tryz.gzero rfl ?_; intro w1 B1 N1; have g1 := N1.gr; have b1 : Blk w1 B1 (gv 0 0 []) 43 := N1.blk; have l1 := N1.lo; have t1 := N1.hi; have z1 := g1.size; have gg := gg.trans g1; clear N1; obtain ⟨b1_0, b1_1, b1_2⟩ := gcells b1)
    refine (split_any s _ (by omega) (gg.ml hm)).mono ?_
    rintro e w2 ⟨rows, B2, hrows, rfl, ho, hB2, g2⟩
    have b1 := g2.blk b1
    have z2 := g2.size
    have gg := gg.trans g2
    have hlen : rows.length = (pieces s.data.toList).length := by rw [← hrows, List.length_map]
    have hpos := pieces_length_pos s.data.toList
    rw [← hlen] at hpos
    have hc0 := rowAt_cell ho 0 (by omega)
    obtain ⟨n, hn⟩ : ∃ n, rows.length = n := ⟨_, rfl⟩
    obtain ⟨r0, hr0⟩ : ∃ r0, rowAt rows 0 = r0 := ⟨_, rfl⟩
    rw [hr0] at hc0
    rw [hn] at hpos ⊢
    have HR0 := hidI hr0
    have HN := hidI hn
    have HROWS := hidI hrows
    have HO := hidI ho
    have HLEN := hidI hlen
    have HW0 := hidI (show ((pieces s.data.toList).headD []).length = r0.size from by
      have h1 := rowAt_map rows 0 (by omega)
      rw [hrows, hr0] at h1
      rw [← size_eq r0]
      cases hp : pieces s.data.toList with
      | nil => rw [hp] at h1; cases h1
      | cons a b => rw [hp] at h1; simp at h1; simp [h1])
    clear hr0 hn hrows ho hlen
    by_cases hsz : isSz r0.size n = true
    · obtain ⟨hw1, hw7, hn1, hn7, h36⟩ := isSz_iff.1 hsz
      have h36' : nn r0.size n ≤ 36 := by have := nn_int r0.size n; omega
      have hw7' : r0.size ≤ 7 := by omega
      have hw1' : 1 ≤ r0.size := by omega
      have hn7' : n ≤ 7 := by omega
      have HSZ := hidI hsz
      clear hsz h36 hw1 hw7 hn1 hn7
      have HROW := hidI (show ∀ k, k < n → (pieces s.data.toList)[k]? = some (rowAt rows k).data.toList from by
        intro k hk
        rw [← HROWS.out]
        exact rowAt_map rows k (by rw [HN.out]; exact hk))
      go_wp2_with (first | (refine r_alloc 43 _ Tryz.gzero rfl ?_; intro w3 B3 N3; have g3 := N3.gr; have b3 : Blk w3 B3 (gv 0 0 []) 43 := N3.blk; have l3 := N3.lo; have t3 := N3.hi; have z3 := g3.size; have b1 := g3.blk b1; have gg := gg.trans g3; clear N3; obtain ⟨b3_0, b3_1, b3_2⟩ := gcells b3) | (refine r_build 43 [(0, .tmp 17), (1, .tmp 19)] [(0, .int .i64 (r0.size)), (1, .int .i64 (n))] _ (Tryz.gbuild _ _ _) rfl rfl ?_) | (refine r_store_row 43 43 _ _ _ rfl (gv _ _ _) _ rfl b3 (Tryz.gsize' _ _ _) (by simp only [gv_size]) (gv_one _ _ _) rfl ?_; intro w4 u4 b3'; have z4 := u4.size; have gg := u4.gr gg (by omega); have b1 := u4.blk b1 (by omega); clear b3; have b3 := b3'; clear b3'; obtain ⟨b3_0, b3_1, b3_2⟩ := gcells b3) | (go_at_call 27; refine (isSize_any _ _ _).mono ?_; rintro e wSame ⟨rfl, rfl⟩; rw [HSZ.out]))
      have ho3 := u4.keep (g3.own HO.out) (by have := Gr.lt (g3.own HO.out); have := Gr.lt HO.out; omega)
      go_loopw [6, 7, 30] (fun _ _ i wr => ∃ k : Nat, k ≤ n ∧ i = .int .i64 k ∧ Own wr B2 (.cells (rows.map Value.string).toArray 9 (0, 0)) ∧ Blk wr B1 (gv 0 0 []) 43 ∧
          Blk wr B3 (gv r0.size n ((pieces s.data.toList).take k).flatten) 43 ∧ Gr w wr ∧ Hid (∀ j, j < k → (rowAt rows j).size = r0.size)) (fun _ _ i _ => n - (intOf i).toNat)
      case atStart => exact ⟨0, Nat.zero_le _, rfl, ho3, b1, b3, gg, fun j hj => by omega⟩
      case round =>
        obtain ⟨k, hk, rfl, ho, b1, b3, gg, HA⟩ := hrel
        have hB13 : B1 < B3 := by omega
        have hlo3 : w.heap.size ≤ B3 := by omega
        have hcl := take_flat (p := pieces s.data.toList) (w := r0.size) k (by rw [← HLEN.out, HN.out]; exact hk) (fun j r hj hr => by
          rw [HROW.out j (by omega)] at hr
          cases hr
          rw [size_eq]
          exact HA.out j hj)
        have HCL := hidI hcl
        clear hcl
        by_cases hlt : k < n
        · have hc := rowAt_cell ho k (by rw [HN.out]; exact hlt)
          have hrow := HROW.out k hlt
          obtain ⟨r, hr⟩ : ∃ r, rowAt rows k = r := ⟨_, rfl⟩
          rw [hr] at hc hrow
          have HR := hidI hr
          have HRW := hidI hrow
          clear hr hrow
          have HO3 := hidI ho
          clear ho
          obtain ⟨b3_0, b3_1, b3_2⟩ := gcells b3
          clear b3_2
          by_cases hrs : r.size = r0.size
          · have hle : nn r0.size k + r0.size ≤ nn r0.size n := by
              unfold nn
              have : r0.size * k + r0.size = r0.size * (k + 1) := by rw [Nat.mul_succ]
              rw [this]; exact Nat.mul_le_mul_left _ hlt
            have HCOPY := hidI (gv_copy r0.size n _ r.data.toList _ HCL.out (by rw [size_eq]; omega))
            have HRS := hidI hrs
            have hne : ((r.size : Int) != (r0.size : Int)) = false := by rw [hrs]; simp
            clear hrs
            go_wp2_with (first
              | (go_at_call 28; refine (rowOf_any B3 r0.size n k _ _ b3 hw1' hw7' hlt h36' hn7').mono ?_; rintro e w6 ⟨rfl, m, rfl⟩)
              | (refine r_copy_string _ _ 29 9 5 43 Tryz.underlying29 Tryz.u8size B3 (2 + nn r0.size k) r0.size r0.size _ r rfl rfl (((Gr.refl wr).drewN m).blk b3) (by rw [HRS.out]; omega) (by rw [gv_size, HRS.out]; omega) rfl ?_; intro w7 u7 b7))
            rw [← size_eq r, HCOPY.out, ← take_flat_succ HRW.out] at b7
            go_roundw
            case rel =>
              have g7 := ((Gr.refl wr).drewN m)
              have hB2 := Gr.lt HO.out
              exact ⟨k + 1, by omega, by go_num, u7.keep (g7.own HO3.out) (by omega), u7.blk (g7.blk b1) (by omega), b7, u7.gr (gg.drewN m) hlo3, fun j hj => if h : j < k then HA.out j h else by rw [show j = k by omega, HR.out]; exact HRS.out⟩
            case measure => simp [intOf]; omega
          · have hne : ((r.size : Int) != (r0.size : Int)) = true := by rw [bne_iff_ne]; omega
            have HV := hidI (rd_none (l := s.data.toList) (fun W h => by
              have e1 := (okRows_of h).2
              rw [HW0.out] at e1
              have e2 := h.rows r.data.toList (List.mem_of_getElem? HRW.out)
              rw [size_eq] at e2
              omega))
            clear hrs
            go_wp2_with (first | (refine r_build 43 [] [] _ (Tryz.gbuild0 _) rfl rfl ?_) | (refine r_store_row 43 43 _ _ _ rfl (gv _ _ _) _ rfl b1 (Tryz.gsize' _ _ _) (by simp only [gv_size]) (gv_one _ _ _) rfl ?_; intro w8 u8 b1'; have z8 := u8.size; have gg := u8.gr gg (by omega); have b3 := u8.blk b3 (by omega); clear b1; have b1 := b1'; clear b1'; obtain ⟨b1_0, b1_1, b1_2⟩ := gcells b1))
            refine bodyPost_ret (results_row_bool rfl _ _ _ _ _ _ rfl b1 Tryz.underlying43 rfl (Tryz.ginfo' _ _ _)) rfl ⟨?_, gg⟩
            exact fin2 (by rw [HV.out.1]; rfl) (by rw [HV.out.2])
        · obtain rfl : k = n := by omega
          have hall : ((pieces s.data.toList).take k) = pieces s.data.toList := List.take_of_length_le (by have := HLEN.out; rw [HN.out] at this; omega)
          rw [hall] at b3 HCL
          have HC := hidI HCL.out
          have hlen : (pieces s.data.toList).length = k := by rw [← HLEN.out, HN.out]
          have HRD := hidI (show goodC (pieces s.data.toList).flatten = true → rdG s.data.toList = ⟨r0.size, k, (pieces s.data.toList).flatten⟩ ∧ rdOk s.data.toList = true from fun hg => by
            have := rd_of (okR_mk hw1' hw7' (by omega) (by omega) (by rw [hlen]; exact h36') (fun j r hj hr => by
              rw [HROW.out j (by omega)] at hr
              cases hr
              rw [size_eq]
              exact HA.out j (by omega)) hg)
            rw [hlen] at this
            exact this)
          have HRN := hidI (show goodC (pieces s.data.toList).flatten = false → rdG s.data.toList = ⟨0, 0, []⟩ ∧ rdOk s.data.toList = false from fun hg => rd_none (fun W h => by
            rw [okR_good h] at hg; cases hg))
          clear hall hlen hlt
          by_cases hg : goodC (pieces s.data.toList).flatten = true
          · have HV := hidI (HRD.out hg)
            have HG := hidI hg
            clear hg
            go_wp2_with (first | (refine r_load_row 43 _ _ rfl _ _ _ b3 Tryz.underlying43 rfl (Tryz.ginfo' _ _ _) rfl ?_) | (go_at_call 29; refine (hasCells_any r0.size k _ _ hw7' hn7' h36' HC.out).mono ?_; rintro e w6 ⟨rfl, g6⟩; rw [HG.out]; have b1 := g6.blk b1; have b3 := g6.blk b3; have z6 := g6.size; have gg := gg.trans g6) | (refine r_store_row 43 43 _ _ _ rfl (gv _ _ _) _ rfl b1 (Tryz.gsize' _ _ _) (by simp only [gv_size]) (gv_one _ _ _) rfl ?_; intro w8 u8 b1'; have z8 := u8.size; have gg := u8.gr gg (by omega); have b3 := u8.blk b3 (by omega); clear b1; have b1 := b1'; clear b1'; obtain ⟨b1_0, b1_1, b1_2⟩ := gcells b1))
            refine bodyPost_ret (results_row_bool rfl _ _ _ _ _ _ rfl b1 Tryz.underlying43 rfl (Tryz.ginfo' _ _ _)) rfl ⟨?_, gg⟩
            exact fin2 (by rw [HV.out.1]; rfl) (by rw [HV.out.2])
          · have hg' : goodC (pieces s.data.toList).flatten = false := by simpa using hg
            have HV := hidI (HRN.out hg')
            have HG := hidI hg'
            clear hg hg'
            go_wp2_with (first | (refine r_load_row 43 _ _ rfl _ _ _ b3 Tryz.underlying43 rfl (Tryz.ginfo' _ _ _) rfl ?_) | (go_at_call 29; refine (hasCells_any r0.size k _ _ hw7' hn7' h36' HC.out).mono ?_; rintro e w6 ⟨rfl, g6⟩; rw [HG.out]; have b1 := g6.blk b1; have b3 := g6.blk b3; have z6 := g6.size; have gg := gg.trans g6) | (refine r_build 43 [] [] _ (Tryz.gbuild0 _) rfl rfl ?_) | (refine r_store_row 43 43 _ _ _ rfl (gv _ _ _) _ rfl b1 (Tryz.gsize' _ _ _) (by simp only [gv_size]) (gv_one _ _ _) rfl ?_; intro w8 u8 b1'; have z8 := u8.size; have gg := u8.gr gg (by omega); have b3 := u8.blk b3 (by omega); clear b1; have b1 := b1'; clear b1'; obtain ⟨b1_0, b1_1, b1_2⟩ := gcells b1))
            refine bodyPost_ret (results_row_bool rfl _ _ _ _ _ _ rfl b1 Tryz.underlying43 rfl (Tryz.ginfo' _ _ _)) rfl ⟨?_, gg⟩
            exact fin2 (by rw [HV.out.1]; rfl) (by rw [HV.out.2])
    · have hsz' : isSz r0.size n = false := by simpa using hsz
      have HV := hidI (rd_none (l := s.data.toList) (fun W h => by
        refine hsz (isSz_iff.2 ?_)
        have e1 := (okRows_of h).2
        rw [HW0.out] at e1
        have e2 := HLEN.out
        rw [HN.out] at e2
        have := h.w1; have := h.w7; have := h.h1; have := h.h7; have := h.c36
        rw [← e2] at *
        rw [← e1] at *
        have e3 : ((r0.size * n : Nat) : Int) = (r0.size : Int) * n := by simp
        omega))
      have HSZ := hidI hsz'
      clear hsz hsz'
      go_wp2_with (first | (refine r_alloc 43 _ Tryz.gzero rfl ?_; intro w3 B3 N3; have g3 := N3.gr; have b3 : Blk w3 B3 (gv 0 0 []) 43 := N3.blk; have l3 := N3.lo; have t3 := N3.hi; have z3 := g3.size; have b1 := g3.blk b1; have gg := gg.trans g3; clear N3; obtain ⟨b3_0, b3_1, b3_2⟩ := gcells b3) | (refine r_build 43 [] [] _ (Tryz.gbuild0 _) rfl rfl ?_) | (refine r_build 43 [(0, .tmp 17), (1, .tmp 19)] [(0, .int .i64 (r0.size)), (1, .int .i64 (n))] _ (Tryz.gbuild _ _ _) rfl rfl ?_) | (refine r_store_row 43 43 _ _ _ rfl (gv _ _ _) _ rfl b3 (Tryz.gsize' _ _ _) (by simp only [gv_size]) (gv_one _ _ _) rfl ?_; intro w4 u4 b3'; have z4 := u4.size; have gg := u4.gr gg (by omega); have b1 := u4.blk b1 (by omega); clear b3; have b3 := b3'; clear b3'; obtain ⟨b3_0, b3_1, b3_2⟩ := gcells b3) | (go_at_call 27; refine (isSize_any _ _ _).mono ?_; rintro e wSame ⟨rfl, rfl⟩; rw [HSZ.out]) | (refine r_store_row 43 43 _ _ _ rfl (gv _ _ _) _ rfl b1 (Tryz.gsize' _ _ _) (by simp only [gv_size]) (gv_one _ _ _) rfl ?_; intro w5 u5 b1'; have z5 := u5.size; have gg := u5.gr gg (by omega); clear b1; have b1 := b1'; clear b1'; obtain ⟨b1_0, b1_1, b1_2⟩ := gcells b1))
      refine bodyPost_ret (results_row_bool rfl _ _ _ _ _ _ rfl b1 Tryz.underlying43 rfl (Tryz.ginfo' _ _ _)) rfl ⟨?_, gg⟩
      exact fin2 (by rw [HV.out.1]; rfl) (by rw [HV.out.2])
end Go.Proofs.YtpdmfbhjneodeaaGreatDoor
