/-
  The solved board: in the program and in the model; the law.
-/
import Derived.Test.YtgibpcmjfnmkdaaBoardC
namespace Go.Proofs.Ytgibpcmjfnmkdaa
open Go.RowKit
/-- 1, 2, .., k. -/
def stL (k : Nat) : List Int := genI k fun i => (i : Int) + 1
theorem stL_length (k : Nat) : (stL k).length = k := genI_length _ _
theorem stL_succ (k : Nat) : stL k ++ [(k : Int) + 1] = stL (k + 1) := by
  unfold stL genI
  rw [List.range_succ, List.map_append]
  rfl
theorem solL_st {n : Nat} (h : 1 ≤ n) : stL (n - 1) ++ [0] = solL n := by
  apply int_ext (by rw [List.length_append, stL_length, solL_length]; simp; omega)
  intro i hi
  rw [List.length_append, stL_length] at hi
  simp at hi
  rw [solL_at n i (by omega)]
  unfold gi
  rw [List.getD, List.getElem?_append]
  rw [stL_length]
  by_cases e : i < n - 1
  · rw [if_pos e, if_neg (by omega)]
    unfold stL genI
    simp [e]
  · rw [if_neg e, if_pos (by omega)]
    rw [show i - (n - 1) = 0 by omega]
    rfl
def sbW (x y : Int) : Int := if bSz x y = true then x else 0
def sbL (x y : Int) : List Int := if bSz x y = true then solL (nn x.toNat y.toNat) else []
theorem sb_bad {x y : Int} (h : bSz x y = false) : sbW x y = 0 ∧ sbL x y = [] := by unfold sbW sbL; rw [h]; exact ⟨rfl, rfl⟩
theorem sb_good {x y : Nat} (h : bSz x y = true) : sbW x y = x ∧ sbL x y = solL (nn x y) := by unfold sbW sbL; rw [h]; exact ⟨rfl, rfl⟩
theorem sbL_le (x y : Int) : (sbL x y).length ≤ 9 := by
  by_cases h : bSz x y = true
  · obtain ⟨a, b, rfl, rfl, h1, h2, h3, h4⟩ := bSz_nat h
    rw [(sb_good h).2, solL_length]
    exact Nat.mul_le_mul h2 h4
  · rw [(sb_bad (by simpa using h)).2]; exact Nat.zero_le _
theorem fin_vb2 {a b : Int} {v : Value} {x y : Bool} (h1 : a = b) (h2 : x = y) : Ending.returned (.tuple #[.agg (bv a v), .bool x]) = .returned (.tuple #[.agg (bv b v), .bool y]) := by rw [h1, h2]
theorem own_apartB {w1 w2 : World} {b1 b2 : Nat} {e1 e2 : TypeId} {s1 s2 : Nat} {v1 v2 : Value} {n1 n2 : Nat} {x1 x2 : List Value} (h1 : w1.ownsRow b1 e1 s1 v1 n1 x1) (h2 : w2.ownsRow b2 e2 s2 v2 n2 x2) (hb : w1.heap.size ≤ b2) : v1.ownBlock = none ∨ v1.ownBlock ≠ v2.ownBlock := by
  cases h : v1.ownBlock with
  | none => exact .inl rfl
  | some k =>
    refine .inr fun e => ?_
    have a := (h1.lt k h).2
    have b := (h2.lt k e.symm).1
    omega
set_option maxHeartbeats 1000000 in
set_option maxRecDepth 100000 in
theorem solvedLayout_any (x y : Nat) (w : World) (hx1 : 1 ≤ x) (hx3 : x ≤ 3) (hy1 : 1 ≤ y) (hy3 : y ≤ 3) : Calls Try.prog 53 #[.int .i64 x, .int .i64 y] w (Ret (.agg (lv x y (solL (nn x y)))) w) := by
  have gg := Gr.refl w
  obtain ⟨n, hn⟩ : ∃ n, n = nn x y := ⟨_, rfl⟩
  have h9 : n ≤ 9 := by rw [hn]; exact Nat.mul_le_mul hx3 hy3
  have hn1 : 1 ≤ n := by rw [hn]; exact Nat.mul_pos hx1 hy1
  have e1 : (x : Int) * (y : Int) = (n : Int) := by rw [hn, nn_int]
  rw [← hn]
  have HE0 := hidI (lv_ext (W := x) (H := y) (c := []) (d := genI n fun i => if i < 0 then (i : Int) + 1 else 0) fun i _ => by
    by_cases h : i < n
    · rw [genI_at _ _ _ h, if_neg (Nat.not_lt_zero _)]; rfl
    · unfold gi genI; simp [List.getD, h])
  have HEN := hidI (show (genI n fun i => if i < n - 1 then (i : Int) + 1 else 0) = solL n from by
    apply int_ext (by rw [genI_length, solL_length])
    intro i hi
    rw [genI_length] at hi
    rw [genI_at _ _ _ hi, solL_at n i hi]
    by_cases h : i < n - 1
    · rw [if_pos h, if_neg (by omega)]
    · rw [if_neg h, if_pos (by omega)])
  clear hn
  go_enter Try.func53, Try.ntmps53
  go_wp2_with (first | (refine r_build 52 [(0, .tmp 7), (1, .tmp 8)] [(0, .int .i64 (x)), (1, .int .i64 (y))] _ (Try.lbuild _ _ _) rfl rfl ?_) | (refine r_alloc (dst := some 4) 52 _ Try.lzero rfl ?_; intro w1 B1 N1; have g1 := N1.gr; have b1 : Blk w1 B1 (lv 0 0 []) 52 := N1.blk; have l1 := N1.lo; have t1 := N1.hi; have z1 := g1.size; have gg := gg.trans g1; clear N1; obtain ⟨b1_0, b1_1, b1_2⟩ := lcells b1) | (refine r_alloc (dst := some 5) 52 _ Try.lzero rfl ?_; intro w2 B2 N2; have g2 := N2.gr; have b2 : Blk w2 B2 (lv 0 0 []) 52 := N2.blk; have l2 := N2.lo; have t2 := N2.hi; have z2 := g2.size; have b1 := g2.blk b1; obtain ⟨b1_0, b1_1, b1_2⟩ := lcells b1; have gg := gg.trans g2; clear N2; obtain ⟨b2_0, b2_1, b2_2⟩ := lcells b2) | (refine r_store_row 52 52 _ _ _ rfl (lv (x) (y) ([])) _ rfl b2 (Try.lsize' _ _ _) (by simp only [lv_size]) (lv_one _ _ _) rfl ?_; intro w3 u3 b2'; have z3 := u3.size; have gg := u3.gr gg (by omega); have b1 := u3.blk b1 (by omega); obtain ⟨b1_0, b1_1, b1_2⟩ := lcells b1; clear b2; have b2 := b2'; clear b2'; obtain ⟨b2_0, b2_1, b2_2⟩ := lcells b2))
  rw [HE0.out] at b2
  go_loopw [6, 14] (fun _ i wr => ∃ k : Nat, k ≤ n - 1 ∧ i = .int .i64 k ∧ Blk wr B1 (lv 0 0 []) 52 ∧ Blk wr B2 (lv x y (genI n fun i => if i < k then (i : Int) + 1 else 0)) 52 ∧ Gr w wr) (fun _ i _ => n - (intOf i).toNat)
  case atStart => exact ⟨0, Nat.zero_le _, rfl, b1, b2, gg⟩
  case round =>
    obtain ⟨k, hk, rfl, b1, b2, gg⟩ := hrel
    have hB12 : B1 < B2 := by omega
    have lo1 : w.heap.size ≤ B1 := by omega
    clear b1_0 b1_1 b1_2 b2_0 b2_1 b2_2
    by_cases hlt : k < n - 1
    · have hix := Try.lix B2 k (by omega)
      have HS := hidI (show (lv (x : Int) (y : Int) (genI n fun i => if i < k then (i : Int) + 1 else 0)).setIfInBounds (2 + k) (.int .i64 ((k : Int) + 1)) = lv x y (genI n fun i => if i < k + 1 then (i : Int) + 1 else 0) from by
        rw [lv_set _ _ _ _ _ (by omega) (by rw [genI_length]; omega), genI_set _ _ _ _ (by omega)]
        congr 1
        apply genI_congr
        intro i hi
        by_cases e : i = k
        · subst e; rw [if_pos rfl, if_pos (by omega)]
        · rw [if_neg e]
          by_cases h : i < k
          · rw [if_pos h, if_pos (by omega)]
          · rw [if_neg h, if_neg (by omega)])
      go_wp2_with (refine r_store_cell 3 52 _ _ B2 (2 + k) rfl (.int .i64 ((k : Int) + 1)) rfl _ b2 (by rw [lv_size]; omega) Try.sizeOf3 rfl rfl ?_; intro w5 u5 b2'; rw [(HS).out] at b2'; have z5 := u5.size; have gg := u5.gr gg (by omega); have b1 := u5.blk b1 (by omega); clear b2; have b2 := b2'; clear b2'; obtain ⟨b2_0, b2_1, b2_2⟩ := lcells b2)
      go_roundw
      case rel => exact ⟨k + 1, by omega, by go_num, b1, b2, gg⟩
      case measure => simp [intOf]; omega
    · obtain rfl : k = n - 1 := by omega
      rw [HEN.out] at b2
      clear hlt
      go_wp2_with (first | (refine r_load_row 52 _ _ rfl _ _ _ b2 Try.underlying52 rfl (Try.linfo' _ _ _) rfl ?_) | (refine r_store_row 52 52 _ _ _ rfl (lv (x) (y) (solL n)) _ rfl b1 (Try.lsize' _ _ _) (by simp only [lv_size]) (lv_one _ _ _) rfl ?_; intro w6 u6 b1'; have z6 := u6.size; have gg := u6.gr gg (by omega); clear b1; have b1 := b1'; clear b1'; obtain ⟨b1_0, b1_1, b1_2⟩ := lcells b1))
      refine bodyPost_ret (results_row rfl _ _ _ _ _ _ rfl b1 Try.underlying52 rfl (Try.linfo' _ _ _)) rfl ?_
      exact ⟨rfl, gg⟩
set_option maxHeartbeats 1000000 in
set_option maxRecDepth 100000 in
theorem iSolvedBoard (x y : Int) (w : World) : Calls Try.prog 20 #[.int .i64 x, .int .i64 y] w (RetBb 3 (sbW x y) (sbL x y) (bSz x y) w) := by
  have gg := Gr.refl w
  by_cases h1 : bSz x y = true
  · have HZ := hidI h1
    obtain ⟨x, y, rfl, rfl, hx1, hx3, hy1, hy3⟩ := bSz_nat h1
    have HV := hidI (sb_good h1)
    have h9 : nn x y ≤ 9 := Nat.mul_le_mul hx3 hy3
    clear h1
    go_enter Try.func20, Try.ntmps20
    go_wp2_with (first | (refine r_alloc 27 _ Try.ibzero rfl ?_; intro w1 B1 N1; have g1 := N1.gr; have b1 : Blk w1 B1 (bv 0 (.slice none 0 0)) 27 := N1.blk; have l1 := N1.lo; have t1 := N1.hi; have z1 := g1.size; have gg := gg.trans g1; clear N1; obtain ⟨b1_0, b1_1⟩ := bcells b1) | (go_at_call 51; refine (bSize_any _ _ _).mono ?_; rintro e wSame ⟨rfl, rfl⟩; rw [HZ.out]) | (go_at_call 53; refine (solvedLayout_any x y _ hx1 hx3 hy1 hy3).mono ?_; rintro e w2 ⟨rfl, g2⟩; have z2 := g2.size; have b1 := g2.blk b1; have gg := gg.trans g2))
    refine (boardOf_any x y (solL (nn x y)) _ (solL_length _) h9).mono ?_
    rintro e w3 ⟨g3, v3, rfl, own3⟩
    have b1 := g3.blk b1
    have z3 := g3.size
    have gg := gg.trans g3
    have hone := own_one own3
    have hne := own_ne own3 b1 (by decide)
    go_wp2_with (refine r_store_row 27 27 _ _ _ rfl (bv (x) (v3)) _ rfl b1 Try.ibsize rfl (bv_one (hone)) rfl ?_; intro w4 u4 b1'; have z4 := u4.size; have gg := u4.gr gg (by omega); clear b1; have b1 := b1'; clear b1'; obtain ⟨b1_0, b1_1⟩ := bcells b1)
    refine bodyPost_ret (results_row_bool rfl _ _ _ _ _ _ rfl b1 Try.underlying27 rfl Try.ibinfo) rfl ?_
    refine ⟨gg, v3, fin_vb2 HV.out.1.symm HZ.out.symm, ?_⟩
    rw [HV.out.2]
    exact own_up (u4.row own3 hne) (by omega)
  · have HZ := hidI (show bSz x y = false from by simpa using h1)
    have HV := hidI (sb_bad HZ.out)
    clear h1
    go_enter Try.func20, Try.ntmps20
    go_wp2_with (first | (refine r_alloc 27 _ Try.ibzero rfl ?_; intro w1 B1 N1; have g1 := N1.gr; have b1 : Blk w1 B1 (bv 0 (.slice none 0 0)) 27 := N1.blk; have l1 := N1.lo; have t1 := N1.hi; have z1 := g1.size; have gg := gg.trans g1; clear N1; obtain ⟨b1_0, b1_1⟩ := bcells b1) | (go_at_call 51; refine (bSize_any _ _ _).mono ?_; rintro e wSame ⟨rfl, rfl⟩; rw [HZ.out]) | (refine r_build 27 [] [] _ (Try.ibbuild0 _) rfl rfl ?_) | (refine r_store_row 27 27 _ _ _ rfl (bv (0) (.slice none 0 0)) _ rfl b1 Try.ibsize rfl (bv_one (rfl)) rfl ?_; intro w2 u2 b1'; have z2 := u2.size; have gg := u2.gr gg (by omega); clear b1; have b1 := b1'; clear b1'; obtain ⟨b1_0, b1_1⟩ := bcells b1))
    refine bodyPost_ret (results_row_bool rfl _ _ _ _ _ _ rfl b1 Try.underlying27 rfl Try.ibinfo) rfl ?_
    refine ⟨gg, _, fin_vb2 HV.out.1.symm HZ.out.symm, ?_⟩
    rw [HV.out.2]
    exact World.ownsRow_nil _ _ _ _
theorem Try.bsiB (u : Int) (w : World) : (Instr.buildSlice 22 1 #[(0, .int .i64 u)]).run Try.prog w = .ok (.slice (some ⟨w.heap.size, 0, none⟩) 1 1) (w.alloc (.cells #[.int .i64 u] 3)) := by kernel_rfl
theorem Try.bb1 (x : Int) (w : World) : (Instr.build 27 #[(0, .int .i64 x)]).run Try.prog w = .ok (.agg (bv x (.slice none 0 0))) w := by kernel_rfl
set_option maxHeartbeats 1000000 in
set_option maxRecDepth 100000 in
theorem blSolved_any (x y : Nat) (w : World) (hx1 : 1 ≤ x) (hx3 : x ≤ 3) (hy1 : 1 ≤ y) (hy3 : y ≤ 3) : Calls Try.prog 50 #[.int .i64 x, .int .i64 y] w (RetB 3 x (solL (nn x y)) w) := by
  have gg := Gr.refl w
  obtain ⟨n, hn⟩ : ∃ n, n = nn x y := ⟨_, rfl⟩
  have h9 : n ≤ 9 := by rw [hn]; exact Nat.mul_le_mul hx3 hy3
  have hn1 : 1 ≤ n := by rw [hn]; exact Nat.mul_pos hx1 hy1
  have e1 : (x : Int) * (y : Int) = (n : Int) := by rw [hn, nn_int]
  rw [← hn]
  clear hn
  go_enter Try.func50, Try.ntmps50
  go_wp2_with (first | (refine r_alloc (dst := some 4) 27 _ Try.ibzero rfl ?_; intro w1 B1 N1; have g1 := N1.gr; have b1 : Blk w1 B1 (bv 0 (.slice none 0 0)) 27 := N1.blk; have l1 := N1.lo; have t1 := N1.hi; have z1 := g1.size; have gg := gg.trans g1; clear N1; obtain ⟨b1_0, b1_1⟩ := bcells b1) | (refine r_alloc (dst := some 5) 27 _ Try.ibzero rfl ?_; intro w2 B2 N2; have g2 := N2.gr; have b2 : Blk w2 B2 (bv 0 (.slice none 0 0)) 27 := N2.blk; have l2 := N2.lo; have t2 := N2.hi; have z2 := g2.size; have b1 := g2.blk b1; have gg := gg.trans g2; clear N2; obtain ⟨b2_0, b2_1⟩ := bcells b2) | (refine r_build 27 [(0, .tmp 7)] [(0, .int .i64 x)] _ (Try.bb1 _ _) rfl rfl ?_) | (refine r_store_row 27 27 _ _ _ rfl (bv (x) (.slice none 0 0)) _ rfl b2 Try.ibsize rfl (bv_one (rfl)) rfl ?_; intro w3 u3 b2'; have z3 := u3.size; have gg := u3.gr gg (by omega); have b1 := u3.blk b1 (by omega); clear b2; have b2 := b2'; clear b2'; obtain ⟨b2_0, b2_1⟩ := bcells b2))
  have own0 : w3.ownsRow w.heap.size 3 1 (.slice none 0 0) (1 - 1) (intsV (stL (1 - 1))) := World.ownsRow_nil _ _ _ _
  go_loopw [6] (fun i wr => ∃ (k : Nat) (sl : Value), 1 ≤ k ∧ k ≤ n ∧ i = .int .i64 k ∧ Blk wr B1 (bv 0 (.slice none 0 0)) 27 ∧ Blk wr B2 (bv x sl) 27 ∧ wr.ownsRow w.heap.size 3 1 sl (k - 1) (intsV (stL (k - 1))) ∧ Gr w wr) (fun i _ => n + 1 - (intOf i).toNat)
  case atStart => exact ⟨1, _, Nat.le_refl _, hn1, rfl, b1, b2, own0, gg⟩
  case round =>
    obtain ⟨k, sl, hk1, hk, rfl, b1, b2, own, gg⟩ := hrel
    have hB12 : B1 < B2 := by omega
    have lo1 : w.heap.size ≤ B1 := by omega
    obtain ⟨j, rfl⟩ : ∃ j, k = j + 1 := ⟨k - 1, by omega⟩
    rw [Nat.add_sub_cancel] at own
    clear b1_0 b1_1 b2_0 b2_1
    obtain ⟨b2_0, b2_1⟩ := bcells b2
    by_cases hlt : j + 1 < n
    · have HS := hidI (stL_succ j)
      go_wp2_with
        (first | (refine r_slice1 22 3 (.tmp 18) (.int .i64 ((j : Int) + 1)) rfl (Try.bsiB _ _) rfl ?_; intro w5 B5 N5; have g5 := N5.gr; have own5 := g5.row own; have b1 := g5.blk b1; have b2 := g5.blk b2; have gg5 := gg.trans g5; have z5 := g5.size) | (refine r_append (.tmp 17) (.tmp 19) 22 3 _ 1 8 w.heap.size Try.intsI sl j (intsV (stL j)) rfl own5 ⟨B5, 0, none⟩ 1 1 [.int .i64 ((j : Int) + 1)] rfl rfl N5.cell1 (intsV_one [(j : Int) + 1]) (by omega) (by decide) (by have := gg5.size; omega) rfl ?_; intro v6 w6 own6 g6; have b1 := g6.blk b1 (own_ne own5 b1 (by decide)); have b2 := g6.blk b2 (own_ne own5 b2 (by decide)); have gg := g6.gr gg5 (own_gr own5 (Nat.le_refl _)); have hone6 := own_one own6; have hne6 := own_ne own6 b2 (by decide); have z6 := g6.size) | ((refine r_store_cell 22 27 _ _ B2 1 rfl (v6) rfl _ b2 (by show 1 < 2; decide) Try.sizeOf22 (hone6) rfl ?_; intro w7 u7 b2'; have z7 := u7.size; have gg := u7.gr gg (by omega); have b1 := u7.blk b1 (by omega); clear b2; have b2 : Blk w7 B2 (bv (x) (v6)) 27 := b2'; clear b2'; obtain ⟨b2_0, b2_1⟩ := bcells b2); have own := u7.row own6 hne6))
      have own8 : w7.ownsRow w.heap.size 3 1 v6 (j + 1) (intsV (stL (j + 1))) := by
        rw [← HS.out, ← intsV_append]
        exact own
      go_roundw
      case rel => exact ⟨j + 1 + 1, v6, by omega, by omega, by go_num, b1, b2, own8, gg⟩
      case measure => simp [intOf]; omega
    · obtain rfl : n = j + 1 := by omega
      have HS := hidI (solL_st hn1)
      go_wp2_with (first | (refine r_load_row 27 _ _ rfl _ _ _ b2 Try.underlying27 rfl Try.ibinfo rfl ?_) | (have hne1 := own_ne own b1 (by decide); (refine r_store_row 27 27 _ _ _ rfl (bv (x) (v6)) _ rfl b1 Try.ibsize rfl (bv_one (hone6)) rfl ?_; intro w8 u8 b1'; have z8 := u8.size; have gg := u8.gr gg (by omega); clear b1; have b1 := b1'; clear b1'; obtain ⟨b1_0, b1_1⟩ := bcells b1); have own := u8.row own hne1) |
        (first | (refine r_slice1 22 3 (.const (.int .i64 0)) (.int .i64 (0)) rfl (Try.bsiB _ _) rfl ?_; intro w5 B5 N5; have g5 := N5.gr; have own5 := g5.row own; have b1 := g5.blk b1; have b2 := g5.blk b2; have gg5 := gg.trans g5; have z5 := g5.size) | (refine r_append (.tmp 23) (.tmp 24) 22 3 _ 1 8 w.heap.size Try.intsI sl j (intsV (stL j)) rfl own5 ⟨B5, 0, none⟩ 1 1 [.int .i64 (0)] rfl rfl N5.cell1 (intsV_one [0]) (by omega) (by decide) (by have := gg5.size; omega) rfl ?_; intro v6 w6 own6 g6; have b1 := g6.blk b1 (own_ne own5 b1 (by decide)); have b2 := g6.blk b2 (own_ne own5 b2 (by decide)); have gg := g6.gr gg5 (own_gr own5 (Nat.le_refl _)); have hone6 := own_one own6; have hne6 := own_ne own6 b2 (by decide); have z6 := g6.size) | ((refine r_store_cell 22 27 _ _ B2 1 rfl (v6) rfl _ b2 (by show 1 < 2; decide) Try.sizeOf22 (hone6) rfl ?_; intro w7 u7 b2'; have z7 := u7.size; have gg := u7.gr gg (by omega); have b1 := u7.blk b1 (by omega); clear b2; have b2 : Blk w7 B2 (bv (x) (v6)) 27 := b2'; clear b2'; obtain ⟨b2_0, b2_1⟩ := bcells b2); have own := u7.row own6 hne6))
        )
      refine bodyPost_ret (results_row rfl _ _ _ _ _ _ rfl b1 Try.underlying27 rfl Try.ibinfo) rfl ?_
      refine ⟨gg, v6, rfl, ?_⟩
      rw [← HS.out, List.length_append, ← intsV_append]
      have e : (stL (j + 1 - 1)).length = j := by rw [stL_length]; omega
      rw [e]
      exact own
set_option maxHeartbeats 1000000 in
set_option maxRecDepth 100000 in
theorem sSolvedBoard (x y : Int) (w : World) : Calls Try.prog 19 #[.int .i64 x, .int .i64 y] w (RetBb 3 (sbW x y) (sbL x y) (bSz x y) w) := by
  have gg := Gr.refl w
  by_cases h1 : bSz x y = true
  · have HZ := hidI h1
    obtain ⟨x, y, rfl, rfl, hx1, hx3, hy1, hy3⟩ := bSz_nat h1
    have HV := hidI (sb_good h1)
    clear h1
    go_enter Try.func19, Try.ntmps19
    go_wp2_with (first | (refine r_alloc 27 _ Try.ibzero rfl ?_; intro w1 B1 N1; have g1 := N1.gr; have b1 : Blk w1 B1 (bv 0 (.slice none 0 0)) 27 := N1.blk; have l1 := N1.lo; have t1 := N1.hi; have z1 := g1.size; have gg := gg.trans g1; clear N1; obtain ⟨b1_0, b1_1⟩ := bcells b1) | (go_at_call 49; refine (blSize_any _ _ _).mono ?_; rintro e wSame ⟨rfl, rfl⟩; rw [HZ.out]))
    refine (blSolved_any x y _ hx1 hx3 hy1 hy3).mono ?_
    rintro e w3 ⟨g3, v3, rfl, own3⟩
    have b1 := g3.blk b1
    have z3 := g3.size
    have gg := gg.trans g3
    have hone := own_one own3
    have hne := own_ne own3 b1 (by decide)
    go_wp2_with (refine r_store_row 27 27 _ _ _ rfl (bv (x) (v3)) _ rfl b1 Try.ibsize rfl (bv_one (hone)) rfl ?_; intro w4 u4 b1'; have z4 := u4.size; have gg := u4.gr gg (by omega); clear b1; have b1 := b1'; clear b1'; obtain ⟨b1_0, b1_1⟩ := bcells b1)
    refine bodyPost_ret (results_row_bool rfl _ _ _ _ _ _ rfl b1 Try.underlying27 rfl Try.ibinfo) rfl ?_
    refine ⟨gg, v3, fin_vb2 HV.out.1.symm HZ.out.symm, ?_⟩
    rw [HV.out.2]
    exact own_up (u4.row own3 hne) (by omega)
  · have HZ := hidI (show bSz x y = false from by simpa using h1)
    have HV := hidI (sb_bad HZ.out)
    clear h1
    go_enter Try.func19, Try.ntmps19
    go_wp2_with (first | (refine r_alloc 27 _ Try.ibzero rfl ?_; intro w1 B1 N1; have g1 := N1.gr; have b1 : Blk w1 B1 (bv 0 (.slice none 0 0)) 27 := N1.blk; have l1 := N1.lo; have t1 := N1.hi; have z1 := g1.size; have gg := gg.trans g1; clear N1; obtain ⟨b1_0, b1_1⟩ := bcells b1) | (go_at_call 49; refine (blSize_any _ _ _).mono ?_; rintro e wSame ⟨rfl, rfl⟩; rw [HZ.out]) | (refine r_build 27 [] [] _ (Try.ibbuild0 _) rfl rfl ?_) | (refine r_store_row 27 27 _ _ _ rfl (bv (0) (.slice none 0 0)) _ rfl b1 Try.ibsize rfl (bv_one (rfl)) rfl ?_; intro w2 u2 b1'; have z2 := u2.size; have gg := u2.gr gg (by omega); clear b1; have b1 := b1'; clear b1'; obtain ⟨b1_0, b1_1⟩ := bcells b1))
    refine bodyPost_ret (results_row_bool rfl _ _ _ _ _ _ rfl b1 Try.underlying27 rfl Try.ibinfo) rfl ?_
    refine ⟨gg, _, fin_vb2 HV.out.1.symm HZ.out.symm, ?_⟩
    rw [HV.out.2]
    exact World.ownsRow_nil _ _ _ _
set_option maxHeartbeats 4000000 in
set_option maxRecDepth 100000 in
theorem lawSolvedBoard (x y : Int) (w : World) : Calls Try.prog 4 #[.int .i64 x, .int .i64 y] w (Ret (.bool true) w) := by
  have gg := Gr.refl w
  have hle := sbL_le x y
  obtain ⟨ok, hok⟩ : ∃ ok, ok = bSz x y := ⟨_, rfl⟩
  obtain ⟨L, hL⟩ : ∃ L, L = sbL x y := ⟨_, rfl⟩
  obtain ⟨z, hz⟩ : ∃ z, z = sbW x y := ⟨_, rfl⟩
  have HOK := hidI hok
  have HL := hidI hL
  have HZ := hidI hz
  rw [← hL] at hle
  have hl : L.length ≤ 1048576 := by omega
  clear hok hL hz
  go_enter Try.func4, Try.ntmps4
  go_wp2_with fail
  refine (sSolvedBoard x y _).mono ?_
  rintro e w1 ⟨g1, v1, rfl, own1⟩
  rw [← HOK.out, ← HZ.out]
  rw [← HL.out] at own1
  have gg := gg.trans g1
  have z1 := g1.size
  have hone1 := own_one own1
  go_wp2_with (first | ((refine r_alloc 27 _ Try.ibzero rfl ?_; intro w2 B2 N2; have g2 := N2.gr; have b2 : Blk w2 B2 (bv 0 (.slice none 0 0)) 27 := N2.blk; have l2 := N2.lo; have t2 := N2.hi; have z2 := g2.size; have gg := gg.trans g2; clear N2; obtain ⟨b2_0, b2_1⟩ := bcells b2); have own1 := g2.row own1) | (have hne := own_ne own1 b2 (by decide); (refine r_store_row 27 27 _ _ _ rfl (bv (z) (v1)) _ rfl b2 Try.ibsize rfl (bv_one (hone1)) rfl ?_; intro w3 u3 b2'; have z3 := u3.size; have gg := u3.gr gg (by omega); clear b2; have b2 := b2'; clear b2'; obtain ⟨b2_0, b2_1⟩ := bcells b2); have own1 := u3.row own1 hne))
  refine (iSolvedBoard x y _).mono ?_
  rintro e w4 ⟨g4, v4, rfl, own4⟩
  rw [← HOK.out, ← HZ.out]
  rw [← HL.out] at own4
  have HAP := hidI (own_apartB own1 own4 (Nat.le_refl _))
  have own1 := g4.row own1
  have b2 := g4.blk b2
  have gg := gg.trans g4
  have z4 := g4.size
  have hone4 := own_one own4
  go_wp2_with (first | ((refine r_alloc 27 _ Try.ibzero rfl ?_; intro w5 B5 N5; have g5 := N5.gr; have b5 : Blk w5 B5 (bv 0 (.slice none 0 0)) 27 := N5.blk; have l5 := N5.lo; have t5 := N5.hi; have z5 := g5.size; have b2 := g5.blk b2; have gg := gg.trans g5; clear N5; obtain ⟨b5_0, b5_1⟩ := bcells b5); have own1 := g5.row own1; have own4 := g5.row own4) | (have hne := own_ne own1 b5 (by decide); have hne4 := own_ne own4 b5 (by decide); (refine r_store_row 27 27 _ _ _ rfl (bv (z) (v4)) _ rfl b5 Try.ibsize rfl (bv_one (hone4)) rfl ?_; intro w6 u6 b5'; have z6 := u6.size; have gg := u6.gr gg (by omega); have b2 := u6.blk b2 (by omega); clear b5; have b5 := b5'; clear b5'; obtain ⟨b5_0, b5_1⟩ := bcells b5); have own1 := u6.row own1 hne; have own4 := u6.row own4 hne4) | (refine r_load_row 27 _ _ rfl _ _ _ b5 Try.underlying27 rfl Try.ibinfo rfl ?_) | (refine r_load_row 27 _ _ rfl _ _ _ b2 Try.underlying27 rfl Try.ibinfo rfl ?_))
  refine (eqBoard_same z L v4 v1 _ _ _ own4 own1 hl).mono ?_
  rintro e w7 ⟨rfl, g7⟩
  have own1 := g7.row own1
  have own4 := g7.row own4
  have b2 := g7.blk b2
  have b5 := g7.blk b5
  have gg := gg.trans g7
  have z7 := g7.size
  have hne2 := own_ne own4 b2 (by decide)
  have hne5 := own_ne own4 b5 (by decide)
  go_wp2_with (refine r_load_row 27 _ _ rfl _ _ _ b5 Try.underlying27 rfl Try.ibinfo rfl ?_)
  refine (markBoard_any z L v4 1 _ _ own4 hl (by decide)).mono ?_
  rintro e w8 ⟨rfl, own4', g8⟩
  have own1 := g8.row own1 HAP.out
  have b2 := g8.blk b2 hne2
  have b5 := g8.blk b5 hne5
  have gg := g8.gr gg (own_gr own4 (by omega))
  have z8 := g8.size
  obtain ⟨n, hn⟩ : ∃ n : Nat, n = 1 + L.length := ⟨_, rfl⟩
  rw [← hn]
  have HN := hidI hn
  have hn2 : n ≤ 10 := by omega
  clear hn own4
  have own4 := own4'
  clear own4'
  go_wp2_with (refine r_load_row 27 _ _ rfl _ _ _ b5 Try.underlying27 rfl Try.ibinfo rfl ?_)
  refine (heldBoard_any z v4 L.length 1 _ _ own4 hl (by decide)).mono ?_
  rintro e w9 ⟨rfl, g9⟩
  rw [← HN.out]
  have own1 := g9.row own1
  have own4 := g9.row own4
  have b2 := g9.blk b2
  have b5 := g9.blk b5
  have gg := gg.trans g9
  have z9 := g9.size
  go_wp2_with fail
  refine (iSolvedBoard x y _).mono ?_
  rintro e wa ⟨ga, va, rfl, owna⟩
  rw [← HOK.out, ← HZ.out]
  rw [← HL.out] at owna
  have own1 := ga.row own1
  have own4 := ga.row own4
  have b2 := ga.blk b2
  have b5 := ga.blk b5
  have gg := gg.trans ga
  have za := ga.size
  have honea := own_one owna
  go_wp2_with (first | ((refine r_alloc 27 _ Try.ibzero rfl ?_; intro w11 B11 N11; have g11 := N11.gr; have b11 : Blk w11 B11 (bv 0 (.slice none 0 0)) 27 := N11.blk; have l11 := N11.lo; have t11 := N11.hi; have z11 := g11.size; have b2 := g11.blk b2; have b5 := g11.blk b5; have gg := gg.trans g11; clear N11; obtain ⟨b11_0, b11_1⟩ := bcells b11); have own1 := g11.row own1; have own4 := g11.row own4; have owna := g11.row owna) | (have hne := own_ne own1 b11 (by decide); have hne4 := own_ne own4 b11 (by decide); have hnea := own_ne owna b11 (by decide); (refine r_store_row 27 27 _ _ _ rfl (bv (z) (va)) _ rfl b11 Try.ibsize rfl (bv_one (honea)) rfl ?_; intro w12 u12 b11'; have z12 := u12.size; have gg := u12.gr gg (by omega); have b2 := u12.blk b2 (by omega); have b5 := u12.blk b5 (by omega); clear b11; have b11 := b11'; clear b11'; obtain ⟨b11_0, b11_1⟩ := bcells b11); have own1 := u12.row own1 hne; have own4 := u12.row own4 hne4; have owna := u12.row owna hnea) | (refine r_load_row 27 _ _ rfl _ _ _ b11 Try.underlying27 rfl Try.ibinfo rfl ?_) | (refine r_load_row 27 _ _ rfl _ _ _ b2 Try.underlying27 rfl Try.ibinfo rfl ?_))
  refine (eqBoard_same z L va v1 _ _ _ owna own1 hl).mono ?_
  rintro e wb ⟨rfl, gb⟩
  have own4 := gb.row own4
  have b5 := gb.blk b5
  have gg := gg.trans gb
  go_wp2_with (refine r_load_row 27 _ _ rfl _ _ _ b5 Try.underlying27 rfl Try.ibinfo rfl ?_)
  refine (heldBoard_any z v4 L.length 1 _ _ own4 hl (by decide)).mono ?_
  rintro e wc ⟨rfl, gc⟩
  rw [← HN.out]
  have gg := gg.trans gc
  go_wp2
  go_ret
  exact ⟨rfl, gg⟩
end Go.Proofs.Ytgibpcmjfnmkdaa
