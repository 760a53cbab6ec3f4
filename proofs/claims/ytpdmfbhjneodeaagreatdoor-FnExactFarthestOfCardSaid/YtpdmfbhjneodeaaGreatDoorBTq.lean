/-
  What the model's functions on tilts return: the next cell, and the stretches in their order.
  What the model's stretches are: each cell of an end with what comes behind it, laid in the order of their least numbers.
  What the model's functions return that tilt a tray: once, in the directions of a word, and how far its balls move.
-/
import Derived.Test.YtpdmfbhjneodeaaGreatDoorBLa
import Derived.Test.YtpdmfbhjneodeaaGreatDoorBTm
namespace Go.Proofs.YtpdmfbhjneodeaaGreatDoor
open Go.RowKit
def aI : Option Nat → Int
  | none => -1
  | some j => j
theorem l1Least_any (a b : Int) (w : World) : Calls Tryz.prog 58 #[.int .i64 a, .int .i64 b] w fun e w' => e = .returned (.int .i64 (min a b)) ∧ w = w' := by
  by_cases h : a < b
  · have HV := hidI (show min a b = a from by omega)
    go_enter Tryz.func58, Tryz.ntmps58
    go_wp2
    go_ret
    exact ⟨congrArg (fun x => Ending.returned (.int .i64 x)) HV.out.symm, rfl⟩
  · have HV := hidI (show min a b = b from by omega)
    have h' : b ≤ a := by omega
    clear h
    go_enter Tryz.func58, Tryz.ntmps58
    go_wp2
    go_ret
    exact ⟨congrArg (fun x => Ending.returned (.int .i64 x)) HV.out.symm, rfl⟩
set_option maxHeartbeats 1000000 in
set_option maxRecDepth 100000 in
theorem tiFirst_any (base : Nat) (s : List Nat) (sv : Value) (w : World) (own : w.ownsRow base 3 1 sv s.length (intsV (zz s))) (h0 : 0 < s.length) (hl : s.length ≤ 1048576) :
    Calls Tryz.prog 36 #[sv] w (Ret (.int .i64 (minL s : Nat)) w) := by
  have gg := Gr.refl w
  obtain ⟨g, cap, rfl, -, -⟩ := own_shape own h0
  have c0 := own_int own 0 h0 (zz_length s).symm
  rw [zz_get h0] at c0
  obtain ⟨x, hx⟩ : ∃ x, x = s.getD 0 0 := ⟨_, rfl⟩
  rw [← hx] at c0
  have HX := hidI hx
  have OWN := hidI own
  clear hx own
  go_enter Tryz.func36, Tryz.ntmps36
  go_wp2
  go_loopw [3, 11] (fun m i wr => ∃ k : Nat, k ≤ s.length ∧ i = .int .i64 k ∧ m = .int .i64 (((s.take k).foldl min x : Nat) : Int) ∧ Gr w wr) (fun _ i _ => s.length - (intOf i).toNat)
  case atStart => exact ⟨0, Nat.zero_le _, rfl, rfl, gg⟩
  case round =>
    obtain ⟨k, hk, rfl, rfl, gg⟩ := hrel
    by_cases hlt : k < s.length
    · have hc := own_int (gg.row OWN.out) k hlt (zz_length s).symm
      rw [zz_get hlt] at hc
      have HS := hidI (show (s.take (k + 1)).foldl min x = min ((s.take k).foldl min x) (s.getD k 0) from by
        rw [List.take_add_one, List.foldl_append, List.getElem?_eq_getElem hlt, List.getD_eq_getElem?_getD, List.getElem?_eq_getElem hlt]; rfl)
      generalize s.getD k 0 = y at *
      generalize (s.take k).foldl min x = m at *
      go_wp2_with (go_at_call 58; refine (l1Least_any _ _ _).mono ?_; rintro e wSame ⟨rfl, rfl⟩)
      go_roundw
      case rel => exact ⟨k + 1, by omega, by go_num, by (rw [HS.out]; congr 1; omega), gg⟩
      case measure => simp [intOf]; omega
    · obtain rfl : k = s.length := by omega
      have HV := hidI (show (s.take s.length).foldl min x = minL s from by
        rw [List.take_length, HX.out]
        cases s with
        | nil => simp at h0
        | cons a l => show l.foldl min (min a a) = _; rw [Nat.min_self]; rfl)
      rw [HV.out]
      clear hlt
      go_wp2
      go_ret
      exact ⟨rfl, gg⟩
set_option maxHeartbeats 4000000 in
set_option maxRecDepth 100000 in
theorem tiAhead_any (W H base d i : Nat) (c : List UInt8) (G cap : Nat) (w : World) (hd : d < 4) (hi : i < nn W H) (hW : W ≤ 7) (hH : H ≤ 7) (h36 : c.length ≤ 36) (hn : c.length = nn W H) (hown : w.ownsRow base 5 1 (.slice (some ⟨G, 0, none⟩) c.length cap) c.length (cellsV c)) :
    Calls Tryz.prog 35 #[.agg (tg W H (.slice (some ⟨G, 0, none⟩) c.length cap)), .int .i64 i, .int .i64 d] w (Ret (.int .i64 (aI (nx W H c d i))) w) := by
  have gg := Gr.refl w
  have hi36 : i < 36 := by omega
  have hW1 : 0 < W := by
    rcases Nat.eq_zero_or_pos W with h | h
    · rw [h] at hi; unfold nn at hi; omega
    · exact h
  obtain ⟨x0, hx0⟩ : ∃ x, x = i % W := ⟨_, rfl⟩
  obtain ⟨y0, hy0⟩ : ∃ y, y = i / W := ⟨_, rfl⟩
  have HX := hidI hx0
  have HY := hidI hy0
  have HN := hidI hn
  have bx : x0 ≤ 36 := by rw [hx0]; have := Nat.mod_le i W; omega
  have bY : y0 ≤ 36 := by rw [hy0]; have := Nat.div_le_self i W; omega
  have hop : opn W H c (sx d x0) (sy d y0) = nx W H c d i := by rw [hx0, hy0]; rfl
  clear hx0 hy0 hn
  have hdc : d = 0 ∨ d = 1 ∨ d = 2 ∨ d = 3 := by omega
  rcases hdc with rfl | rfl | rfl | rfl
  · skip
    have HOP := hidI hop
    clear hop
    go_enter Tryz.func35, Tryz.ntmps35
    go_wp2_with (refine r_box 31 _ (tg (W) (H) (.slice (some ⟨G, 0, none⟩) c.length cap)) rfl rfl ?_; intro w1 B1 N1; have g1 := N1.gr; have b1 : Blk w1 B1 (tg (W) (H) (.slice (some ⟨G, 0, none⟩) c.length cap)) 31 := N1.blk; have l1 := N1.lo; have t1 := N1.hi; have z1 := g1.size; have gg := gg.trans g1; clear N1; obtain ⟨b1_0, b1_1, b1_2⟩ := tcells b1)
    refine q_whole (by kernel_rfl) (by kernel_rfl) ?_
    refine q_move _ (.int .i64 i) rfl rfl ?_; simp only [Act.put, List.setIfInBounds_toArray, List.set_cons_succ, List.set_cons_zero]
    refine q_take (.pointer (some ⟨B1, 0, none⟩)) rfl (fun w' hw' => e_val _ _ (Tryz.tf0 B1 _)) ?_; simp only [Act.put, List.setIfInBounds_toArray, List.set_cons_succ, List.set_cons_zero]
    refine q_take (.int .i64 W) rfl (fun w' hw' => e_load 3 (.tmp 10) ⟨B1, 0, none⟩ _ rfl (Tryz.isAgg3 _) (hw'.cell b1_0)) ?_; simp only [Act.put, List.setIfInBounds_toArray, List.set_cons_succ, List.set_cons_zero]
    refine q_rem _ _ _ _ (i) (W) rfl rfl (hW1) rfl ?_; simp only [Act.put, List.setIfInBounds_toArray, List.set_cons_succ, List.set_cons_zero]
    refine q_move _ (.int .i64 i) rfl rfl ?_; simp only [Act.put, List.setIfInBounds_toArray, List.set_cons_succ, List.set_cons_zero]
    refine q_take (.pointer (some ⟨B1, 0, none⟩)) rfl (fun w' hw' => e_val _ _ (Tryz.tf0 B1 _)) ?_; simp only [Act.put, List.setIfInBounds_toArray, List.set_cons_succ, List.set_cons_zero]
    refine q_take (.int .i64 W) rfl (fun w' hw' => e_load 3 (.tmp 14) ⟨B1, 0, none⟩ _ rfl (Tryz.isAgg3 _) (hw'.cell b1_0)) ?_; simp only [Act.put, List.setIfInBounds_toArray, List.set_cons_succ, List.set_cons_zero]
    refine q_quo _ _ _ _ (i) (W) rfl rfl (hW1) (by omega) rfl ?_; simp only [Act.put, List.setIfInBounds_toArray, List.set_cons_succ, List.set_cons_zero]
    rw [← HX.out, ← HY.out]
    refine q_assign _ (.int .i64 x0) rfl rfl ?_; simp only [Act.put, List.setIfInBounds_toArray, List.set_cons_succ, List.set_cons_zero]
    refine q_assign _ (.int .i64 y0) rfl rfl ?_; simp only [Act.put, List.setIfInBounds_toArray, List.set_cons_succ, List.set_cons_zero]
    refine wpQuiet_nil ?_; intro w2 g2; have z2 := g2.size; have b1 := g2.blk b1; obtain ⟨b1_0, b1_1, b1_2⟩ := tcells b1; have gg := gg.trans g2
    go_wp2_with (refine r_load_row 31 _ _ rfl _ _ _ b1 Tryz.underlying31 rfl Tryz.tinfo rfl ?_)
    obtain ⟨X, hX⟩ : ∃ X : Int, X = (x0 : Int) := ⟨_, rfl⟩
    obtain ⟨Y, hY⟩ : ∃ Y : Int, Y = (y0 : Int) - 1 := ⟨_, rfl⟩
    rw [← hX, ← hY]
    have hO : opn W H c X Y = nx W H c 0 i := by
      have e1 : sx 0 (x0 : Int) = X := by rw [hX]; simp [sx]
      have e2 : sy 0 (y0 : Int) = Y := by rw [hY]; simp [sy]
      rw [← e1, ← e2]; exact HOP.out
    have HO := hidI hO
    have hown := g2.row (g1.row hown)
    clear hX hY hO HOP HX HY bx bY
    by_cases hb : (inB X W && inB Y H) = true
    · have HB := hidI hb
      rw [Bool.and_eq_true, inB_true, inB_true] at hb
      obtain ⟨⟨p0, p1⟩, q0, q1⟩ := hb
      obtain ⟨x, rfl⟩ : ∃ n : Nat, X = n := ⟨X.toNat, by omega⟩
      obtain ⟨y, rfl⟩ : ∃ n : Nat, Y = n := ⟨Y.toNat, by omega⟩
      have hxw : x < W := by omega
      have hyh : y < H := by omega
      have hle := nn_row (W := W) hyh
      obtain ⟨f, hf⟩ : ∃ f, f = nn W y := ⟨_, rfl⟩
      rw [← hf] at hle
      have e1 : (y : Int) * (W : Int) = f := by rw [hf, nn_int, Int.mul_comm]
      have hfx : f + x < c.length := by rw [HN.out]; omega
      have hix : ∀ w, (Instr.indexAt 29 (.slice (some ⟨G, 0, none⟩) c.length cap) (.int .i64 ((f : Int) + (x : Int)))).run Tryz.prog w = .ok (.pointer (some ⟨G, f + x, none⟩)) w := fun w => by
        have h := Tryz.six0 G c.length cap (f + x) hfx w
        rw [Int.natCast_add] at h
        exact h
      have hop : opn W H c x y = if at0 c (f + x) = 35 then none else some (f + x) := by
        unfold opn; rw [HB.out, hf]; rfl
      rw [HO.out] at hop
      clear p0 p1 q0 q1 HO
      refine (tyCell_any W H _ x y _ hW hH).mono ?_
      rintro e w4 ⟨rfl, g4⟩
      rw [HB.out]
      have hcl := own_cell (g4.row hown) (f + x) hfx rfl
      have b1 := g4.blk b1
      obtain ⟨b1_0, b1_1, b1_2⟩ := tcells b1
      have gg := gg.trans g4
      by_cases hc : at0 c (f + x) = 35
      · rw [if_pos hc] at hop
        have ht : (((at0 c (f + x)).toNat : Int) == 35) = true := by rw [hc]; rfl
        have HP := hidI hop
        clear hf hop hc
        go_wp2
        go_ret
        exact ⟨congrArg (fun x => Ending.returned (.int .i64 x)) (by rw [HP.out]; rfl), gg⟩
      · rw [if_neg hc] at hop
        have ht : (((at0 c (f + x)).toNat : Int) == 35) = false := by
          rw [beq_eq_false_iff_ne]; intro e; exact hc (UInt8.toNat_inj.1 (by simp; omega))
        have HP := hidI hop
        clear hf hop hc
        go_wp2
        go_ret
        exact ⟨congrArg (fun x => Ending.returned (.int .i64 x)) (by rw [HP.out]; rfl), gg⟩
    · have HB := hidI (show (inB X W && inB Y H) = false from by simpa using hb)
      have HP := hidI (show nx W H c 0 i = none from by rw [← HO.out]; unfold opn; rw [HB.out]; rfl)
      clear hb
      refine (tyCell_any W H _ X Y _ hW hH).mono ?_
      rintro e w4 ⟨rfl, g4⟩
      rw [HB.out]
      have gg := gg.trans g4
      go_wp2
      go_ret
      exact ⟨congrArg (fun x => Ending.returned (.int .i64 x)) (by rw [HP.out]; rfl), gg⟩
  · skip
    have HOP := hidI hop
    clear hop
    go_enter Tryz.func35, Tryz.ntmps35
    go_wp2_with (refine r_box 31 _ (tg (W) (H) (.slice (some ⟨G, 0, none⟩) c.length cap)) rfl rfl ?_; intro w1 B1 N1; have g1 := N1.gr; have b1 : Blk w1 B1 (tg (W) (H) (.slice (some ⟨G, 0, none⟩) c.length cap)) 31 := N1.blk; have l1 := N1.lo; have t1 := N1.hi; have z1 := g1.size; have gg := gg.trans g1; clear N1; obtain ⟨b1_0, b1_1, b1_2⟩ := tcells b1)
    refine q_whole (by kernel_rfl) (by kernel_rfl) ?_
    refine q_move _ (.int .i64 i) rfl rfl ?_; simp only [Act.put, List.setIfInBounds_toArray, List.set_cons_succ, List.set_cons_zero]
    refine q_take (.pointer (some ⟨B1, 0, none⟩)) rfl (fun w' hw' => e_val _ _ (Tryz.tf0 B1 _)) ?_; simp only [Act.put, List.setIfInBounds_toArray, List.set_cons_succ, List.set_cons_zero]
    refine q_take (.int .i64 W) rfl (fun w' hw' => e_load 3 (.tmp 10) ⟨B1, 0, none⟩ _ rfl (Tryz.isAgg3 _) (hw'.cell b1_0)) ?_; simp only [Act.put, List.setIfInBounds_toArray, List.set_cons_succ, List.set_cons_zero]
    refine q_rem _ _ _ _ (i) (W) rfl rfl (hW1) rfl ?_; simp only [Act.put, List.setIfInBounds_toArray, List.set_cons_succ, List.set_cons_zero]
    refine q_move _ (.int .i64 i) rfl rfl ?_; simp only [Act.put, List.setIfInBounds_toArray, List.set_cons_succ, List.set_cons_zero]
    refine q_take (.pointer (some ⟨B1, 0, none⟩)) rfl (fun w' hw' => e_val _ _ (Tryz.tf0 B1 _)) ?_; simp only [Act.put, List.setIfInBounds_toArray, List.set_cons_succ, List.set_cons_zero]
    refine q_take (.int .i64 W) rfl (fun w' hw' => e_load 3 (.tmp 14) ⟨B1, 0, none⟩ _ rfl (Tryz.isAgg3 _) (hw'.cell b1_0)) ?_; simp only [Act.put, List.setIfInBounds_toArray, List.set_cons_succ, List.set_cons_zero]
    refine q_quo _ _ _ _ (i) (W) rfl rfl (hW1) (by omega) rfl ?_; simp only [Act.put, List.setIfInBounds_toArray, List.set_cons_succ, List.set_cons_zero]
    rw [← HX.out, ← HY.out]
    refine q_assign _ (.int .i64 x0) rfl rfl ?_; simp only [Act.put, List.setIfInBounds_toArray, List.set_cons_succ, List.set_cons_zero]
    refine q_assign _ (.int .i64 y0) rfl rfl ?_; simp only [Act.put, List.setIfInBounds_toArray, List.set_cons_succ, List.set_cons_zero]
    refine wpQuiet_nil ?_; intro w2 g2; have z2 := g2.size; have b1 := g2.blk b1; obtain ⟨b1_0, b1_1, b1_2⟩ := tcells b1; have gg := gg.trans g2
    go_wp2_with (refine r_load_row 31 _ _ rfl _ _ _ b1 Tryz.underlying31 rfl Tryz.tinfo rfl ?_)
    obtain ⟨X, hX⟩ : ∃ X : Int, X = (x0 : Int) + 1 := ⟨_, rfl⟩
    obtain ⟨Y, hY⟩ : ∃ Y : Int, Y = (y0 : Int) := ⟨_, rfl⟩
    rw [← hX, ← hY]
    have hO : opn W H c X Y = nx W H c 1 i := by
      have e1 : sx 1 (x0 : Int) = X := by rw [hX]; simp [sx]
      have e2 : sy 1 (y0 : Int) = Y := by rw [hY]; simp [sy]
      rw [← e1, ← e2]; exact HOP.out
    have HO := hidI hO
    have hown := g2.row (g1.row hown)
    clear hX hY hO HOP HX HY bx bY
    by_cases hb : (inB X W && inB Y H) = true
    · have HB := hidI hb
      rw [Bool.and_eq_true, inB_true, inB_true] at hb
      obtain ⟨⟨p0, p1⟩, q0, q1⟩ := hb
      obtain ⟨x, rfl⟩ : ∃ n : Nat, X = n := ⟨X.toNat, by omega⟩
      obtain ⟨y, rfl⟩ : ∃ n : Nat, Y = n := ⟨Y.toNat, by omega⟩
      have hxw : x < W := by omega
      have hyh : y < H := by omega
      have hle := nn_row (W := W) hyh
      obtain ⟨f, hf⟩ : ∃ f, f = nn W y := ⟨_, rfl⟩
      rw [← hf] at hle
      have e1 : (y : Int) * (W : Int) = f := by rw [hf, nn_int, Int.mul_comm]
      have hfx : f + x < c.length := by rw [HN.out]; omega
      have hix : ∀ w, (Instr.indexAt 29 (.slice (some ⟨G, 0, none⟩) c.length cap) (.int .i64 ((f : Int) + (x : Int)))).run Tryz.prog w = .ok (.pointer (some ⟨G, f + x, none⟩)) w := fun w => by
        have h := Tryz.six0 G c.length cap (f + x) hfx w
        rw [Int.natCast_add] at h
        exact h
      have hop : opn W H c x y = if at0 c (f + x) = 35 then none else some (f + x) := by
        unfold opn; rw [HB.out, hf]; rfl
      rw [HO.out] at hop
      clear p0 p1 q0 q1 HO
      refine (tyCell_any W H _ x y _ hW hH).mono ?_
      rintro e w4 ⟨rfl, g4⟩
      rw [HB.out]
      have hcl := own_cell (g4.row hown) (f + x) hfx rfl
      have b1 := g4.blk b1
      obtain ⟨b1_0, b1_1, b1_2⟩ := tcells b1
      have gg := gg.trans g4
      by_cases hc : at0 c (f + x) = 35
      · rw [if_pos hc] at hop
        have ht : (((at0 c (f + x)).toNat : Int) == 35) = true := by rw [hc]; rfl
        have HP := hidI hop
        clear hf hop hc
        go_wp2
        go_ret
        exact ⟨congrArg (fun x => Ending.returned (.int .i64 x)) (by rw [HP.out]; rfl), gg⟩
      · rw [if_neg hc] at hop
        have ht : (((at0 c (f + x)).toNat : Int) == 35) = false := by
          rw [beq_eq_false_iff_ne]; intro e; exact hc (UInt8.toNat_inj.1 (by simp; omega))
        have HP := hidI hop
        clear hf hop hc
        go_wp2
        go_ret
        exact ⟨congrArg (fun x => Ending.returned (.int .i64 x)) (by rw [HP.out]; rfl), gg⟩
    · have HB := hidI (show (inB X W && inB Y H) = false from by simpa using hb)
      have HP := hidI (show nx W H c 1 i = none from by rw [← HO.out]; unfold opn; rw [HB.out]; rfl)
      clear hb
      refine (tyCell_any W H _ X Y _ hW hH).mono ?_
      rintro e w4 ⟨rfl, g4⟩
      rw [HB.out]
      have gg := gg.trans g4
      go_wp2
      go_ret
      exact ⟨congrArg (fun x => Ending.returned (.int .i64 x)) (by rw [HP.out]; rfl), gg⟩
  · skip
    have HOP := hidI hop
    clear hop
    go_enter Tryz.func35, Tryz.ntmps35
    go_wp2_with (refine r_box 31 _ (tg (W) (H) (.slice (some ⟨G, 0, none⟩) c.length cap)) rfl rfl ?_; intro w1 B1 N1; have g1 := N1.gr; have b1 : Blk w1 B1 (tg (W) (H) (.slice (some ⟨G, 0, none⟩) c.length cap)) 31 := N1.blk; have l1 := N1.lo; have t1 := N1.hi; have z1 := g1.size; have gg := gg.trans g1; clear N1; obtain ⟨b1_0, b1_1, b1_2⟩ := tcells b1)
    refine q_whole (by kernel_rfl) (by kernel_rfl) ?_
    refine q_move _ (.int .i64 i) rfl rfl ?_; simp only [Act.put, List.setIfInBounds_toArray, List.set_cons_succ, List.set_cons_zero]
    refine q_take (.pointer (some ⟨B1, 0, none⟩)) rfl (fun w' hw' => e_val _ _ (Tryz.tf0 B1 _)) ?_; simp only [Act.put, List.setIfInBounds_toArray, List.set_cons_succ, List.set_cons_zero]
    refine q_take (.int .i64 W) rfl (fun w' hw' => e_load 3 (.tmp 10) ⟨B1, 0, none⟩ _ rfl (Tryz.isAgg3 _) (hw'.cell b1_0)) ?_; simp only [Act.put, List.setIfInBounds_toArray, List.set_cons_succ, List.set_cons_zero]
    refine q_rem _ _ _ _ (i) (W) rfl rfl (hW1) rfl ?_; simp only [Act.put, List.setIfInBounds_toArray, List.set_cons_succ, List.set_cons_zero]
    refine q_move _ (.int .i64 i) rfl rfl ?_; simp only [Act.put, List.setIfInBounds_toArray, List.set_cons_succ, List.set_cons_zero]
    refine q_take (.pointer (some ⟨B1, 0, none⟩)) rfl (fun w' hw' => e_val _ _ (Tryz.tf0 B1 _)) ?_; simp only [Act.put, List.setIfInBounds_toArray, List.set_cons_succ, List.set_cons_zero]
    refine q_take (.int .i64 W) rfl (fun w' hw' => e_load 3 (.tmp 14) ⟨B1, 0, none⟩ _ rfl (Tryz.isAgg3 _) (hw'.cell b1_0)) ?_; simp only [Act.put, List.setIfInBounds_toArray, List.set_cons_succ, List.set_cons_zero]
    refine q_quo _ _ _ _ (i) (W) rfl rfl (hW1) (by omega) rfl ?_; simp only [Act.put, List.setIfInBounds_toArray, List.set_cons_succ, List.set_cons_zero]
    rw [← HX.out, ← HY.out]
    refine q_assign _ (.int .i64 x0) rfl rfl ?_; simp only [Act.put, List.setIfInBounds_toArray, List.set_cons_succ, List.set_cons_zero]
    refine q_assign _ (.int .i64 y0) rfl rfl ?_; simp only [Act.put, List.setIfInBounds_toArray, List.set_cons_succ, List.set_cons_zero]
    refine wpQuiet_nil ?_; intro w2 g2; have z2 := g2.size; have b1 := g2.blk b1; obtain ⟨b1_0, b1_1, b1_2⟩ := tcells b1; have gg := gg.trans g2
    go_wp2_with (refine r_load_row 31 _ _ rfl _ _ _ b1 Tryz.underlying31 rfl Tryz.tinfo rfl ?_)
    obtain ⟨X, hX⟩ : ∃ X : Int, X = (x0 : Int) := ⟨_, rfl⟩
    obtain ⟨Y, hY⟩ : ∃ Y : Int, Y = (y0 : Int) + 1 := ⟨_, rfl⟩
    rw [← hX, ← hY]
    have hO : opn W H c X Y = nx W H c 2 i := by
      have e1 : sx 2 (x0 : Int) = X := by rw [hX]; simp [sx]
      have e2 : sy 2 (y0 : Int) = Y := by rw [hY]; simp [sy]
      rw [← e1, ← e2]; exact HOP.out
    have HO := hidI hO
    have hown := g2.row (g1.row hown)
    clear hX hY hO HOP HX HY bx bY
    by_cases hb : (inB X W && inB Y H) = true
    · have HB := hidI hb
      rw [Bool.and_eq_true, inB_true, inB_true] at hb
      obtain ⟨⟨p0, p1⟩, q0, q1⟩ := hb
      obtain ⟨x, rfl⟩ : ∃ n : Nat, X = n := ⟨X.toNat, by omega⟩
      obtain ⟨y, rfl⟩ : ∃ n : Nat, Y = n := ⟨Y.toNat, by omega⟩
      have hxw : x < W := by omega
      have hyh : y < H := by omega
      have hle := nn_row (W := W) hyh
      obtain ⟨f, hf⟩ : ∃ f, f = nn W y := ⟨_, rfl⟩
      rw [← hf] at hle
      have e1 : (y : Int) * (W : Int) = f := by rw [hf, nn_int, Int.mul_comm]
      have hfx : f + x < c.length := by rw [HN.out]; omega
      have hix : ∀ w, (Instr.indexAt 29 (.slice (some ⟨G, 0, none⟩) c.length cap) (.int .i64 ((f : Int) + (x : Int)))).run Tryz.prog w = .ok (.pointer (some ⟨G, f + x, none⟩)) w := fun w => by
        have h := Tryz.six0 G c.length cap (f + x) hfx w
        rw [Int.natCast_add] at h
        exact h
      have hop : opn W H c x y = if at0 c (f + x) = 35 then none else some (f + x) := by
        unfold opn; rw [HB.out, hf]; rfl
      rw [HO.out] at hop
      clear p0 p1 q0 q1 HO
      refine (tyCell_any W H _ x y _ hW hH).mono ?_
      rintro e w4 ⟨rfl, g4⟩
      rw [HB.out]
      have hcl := own_cell (g4.row hown) (f + x) hfx rfl
      have b1 := g4.blk b1
      obtain ⟨b1_0, b1_1, b1_2⟩ := tcells b1
      have gg := gg.trans g4
      by_cases hc : at0 c (f + x) = 35
      · rw [if_pos hc] at hop
        have ht : (((at0 c (f + x)).toNat : Int) == 35) = true := by rw [hc]; rfl
        have HP := hidI hop
        clear hf hop hc
        go_wp2
        go_ret
        exact ⟨congrArg (fun x => Ending.returned (.int .i64 x)) (by rw [HP.out]; rfl), gg⟩
      · rw [if_neg hc] at hop
        have ht : (((at0 c (f + x)).toNat : Int) == 35) = false := by
          rw [beq_eq_false_iff_ne]; intro e; exact hc (UInt8.toNat_inj.1 (by simp; omega))
        have HP := hidI hop
        clear hf hop hc
        go_wp2
        go_ret
        exact ⟨congrArg (fun x => Ending.returned (.int .i64 x)) (by rw [HP.out]; rfl), gg⟩
    · have HB := hidI (show (inB X W && inB Y H) = false from by simpa using hb)
      have HP := hidI (show nx W H c 2 i = none from by rw [← HO.out]; unfold opn; rw [HB.out]; rfl)
      clear hb
      refine (tyCell_any W H _ X Y _ hW hH).mono ?_
      rintro e w4 ⟨rfl, g4⟩
      rw [HB.out]
      have gg := gg.trans g4
      go_wp2
      go_ret
      exact ⟨congrArg (fun x => Ending.returned (.int .i64 x)) (by rw [HP.out]; rfl), gg⟩
  · skip
    have HOP := hidI hop
    clear hop
    go_enter Tryz.func35, Tryz.ntmps35
    go_wp2_with (refine r_box 31 _ (tg (W) (H) (.slice (some ⟨G, 0, none⟩) c.length cap)) rfl rfl ?_; intro w1 B1 N1; have g1 := N1.gr; have b1 : Blk w1 B1 (tg (W) (H) (.slice (some ⟨G, 0, none⟩) c.length cap)) 31 := N1.blk; have l1 := N1.lo; have t1 := N1.hi; have z1 := g1.size; have gg := gg.trans g1; clear N1; obtain ⟨b1_0, b1_1, b1_2⟩ := tcells b1)
    refine q_whole (by kernel_rfl) (by kernel_rfl) ?_
    refine q_move _ (.int .i64 i) rfl rfl ?_; simp only [Act.put, List.setIfInBounds_toArray, List.set_cons_succ, List.set_cons_zero]
    refine q_take (.pointer (some ⟨B1, 0, none⟩)) rfl (fun w' hw' => e_val _ _ (Tryz.tf0 B1 _)) ?_; simp only [Act.put, List.setIfInBounds_toArray, List.set_cons_succ, List.set_cons_zero]
    refine q_take (.int .i64 W) rfl (fun w' hw' => e_load 3 (.tmp 10) ⟨B1, 0, none⟩ _ rfl (Tryz.isAgg3 _) (hw'.cell b1_0)) ?_; simp only [Act.put, List.setIfInBounds_toArray, List.set_cons_succ, List.set_cons_zero]
    refine q_rem _ _ _ _ (i) (W) rfl rfl (hW1) rfl ?_; simp only [Act.put, List.setIfInBounds_toArray, List.set_cons_succ, List.set_cons_zero]
    refine q_move _ (.int .i64 i) rfl rfl ?_; simp only [Act.put, List.setIfInBounds_toArray, List.set_cons_succ, List.set_cons_zero]
    refine q_take (.pointer (some ⟨B1, 0, none⟩)) rfl (fun w' hw' => e_val _ _ (Tryz.tf0 B1 _)) ?_; simp only [Act.put, List.setIfInBounds_toArray, List.set_cons_succ, List.set_cons_zero]
    refine q_take (.int .i64 W) rfl (fun w' hw' => e_load 3 (.tmp 14) ⟨B1, 0, none⟩ _ rfl (Tryz.isAgg3 _) (hw'.cell b1_0)) ?_; simp only [Act.put, List.setIfInBounds_toArray, List.set_cons_succ, List.set_cons_zero]
    refine q_quo _ _ _ _ (i) (W) rfl rfl (hW1) (by omega) rfl ?_; simp only [Act.put, List.setIfInBounds_toArray, List.set_cons_succ, List.set_cons_zero]
    rw [← HX.out, ← HY.out]
    refine q_assign _ (.int .i64 x0) rfl rfl ?_; simp only [Act.put, List.setIfInBounds_toArray, List.set_cons_succ, List.set_cons_zero]
    refine q_assign _ (.int .i64 y0) rfl rfl ?_; simp only [Act.put, List.setIfInBounds_toArray, List.set_cons_succ, List.set_cons_zero]
    refine wpQuiet_nil ?_; intro w2 g2; have z2 := g2.size; have b1 := g2.blk b1; obtain ⟨b1_0, b1_1, b1_2⟩ := tcells b1; have gg := gg.trans g2
    go_wp2_with (refine r_load_row 31 _ _ rfl _ _ _ b1 Tryz.underlying31 rfl Tryz.tinfo rfl ?_)
    obtain ⟨X, hX⟩ : ∃ X : Int, X = (x0 : Int) - 1 := ⟨_, rfl⟩
    obtain ⟨Y, hY⟩ : ∃ Y : Int, Y = (y0 : Int) := ⟨_, rfl⟩
    rw [← hX, ← hY]
    have hO : opn W H c X Y = nx W H c 3 i := by
      have e1 : sx 3 (x0 : Int) = X := by rw [hX]; simp [sx]
      have e2 : sy 3 (y0 : Int) = Y := by rw [hY]; simp [sy]
      rw [← e1, ← e2]; exact HOP.out
    have HO := hidI hO
    have hown := g2.row (g1.row hown)
    clear hX hY hO HOP HX HY bx bY
    by_cases hb : (inB X W && inB Y H) = true
    · have HB := hidI hb
      rw [Bool.and_eq_true, inB_true, inB_true] at hb
      obtain ⟨⟨p0, p1⟩, q0, q1⟩ := hb
      obtain ⟨x, rfl⟩ : ∃ n : Nat, X = n := ⟨X.toNat, by omega⟩
      obtain ⟨y, rfl⟩ : ∃ n : Nat, Y = n := ⟨Y.toNat, by omega⟩
      have hxw : x < W := by omega
      have hyh : y < H := by omega
      have hle := nn_row (W := W) hyh
      obtain ⟨f, hf⟩ : ∃ f, f = nn W y := ⟨_, rfl⟩
      rw [← hf] at hle
      have e1 : (y : Int) * (W : Int) = f := by rw [hf, nn_int, Int.mul_comm]
      have hfx : f + x < c.length := by rw [HN.out]; omega
      have hix : ∀ w, (Instr.indexAt 29 (.slice (some ⟨G, 0, none⟩) c.length cap) (.int .i64 ((f : Int) + (x : Int)))).run Tryz.prog w = .ok (.pointer (some ⟨G, f + x, none⟩)) w := fun w => by
        have h := Tryz.six0 G c.length cap (f + x) hfx w
        rw [Int.natCast_add] at h
        exact h
      have hop : opn W H c x y = if at0 c (f + x) = 35 then none else some (f + x) := by
        unfold opn; rw [HB.out, hf]; rfl
      rw [HO.out] at hop
      clear p0 p1 q0 q1 HO
      refine (tyCell_any W H _ x y _ hW hH).mono ?_
      rintro e w4 ⟨rfl, g4⟩
      rw [HB.out]
      have hcl := own_cell (g4.row hown) (f + x) hfx rfl
      have b1 := g4.blk b1
      obtain ⟨b1_0, b1_1, b1_2⟩ := tcells b1
      have gg := gg.trans g4
      by_cases hc : at0 c (f + x) = 35
      · rw [if_pos hc] at hop
        have ht : (((at0 c (f + x)).toNat : Int) == 35) = true := by rw [hc]; rfl
        have HP := hidI hop
        clear hf hop hc
        go_wp2
        go_ret
        exact ⟨congrArg (fun x => Ending.returned (.int .i64 x)) (by rw [HP.out]; rfl), gg⟩
      · rw [if_neg hc] at hop
        have ht : (((at0 c (f + x)).toNat : Int) == 35) = false := by
          rw [beq_eq_false_iff_ne]; intro e; exact hc (UInt8.toNat_inj.1 (by simp; omega))
        have HP := hidI hop
        clear hf hop hc
        go_wp2
        go_ret
        exact ⟨congrArg (fun x => Ending.returned (.int .i64 x)) (by rw [HP.out]; rfl), gg⟩
    · have HB := hidI (show (inB X W && inB Y H) = false from by simpa using hb)
      have HP := hidI (show nx W H c 3 i = none from by rw [← HO.out]; unfold opn; rw [HB.out]; rfl)
      clear hb
      refine (tyCell_any W H _ X Y _ hW hH).mono ?_
      rintro e w4 ⟨rfl, g4⟩
      rw [HB.out]
      have gg := gg.trans g4
      go_wp2
      go_ret
      exact ⟨congrArg (fun x => Ending.returned (.int .i64 x)) (by rw [HP.out]; rfl), gg⟩
end Go.Proofs.YtpdmfbhjneodeaaGreatDoor
namespace Go.Proofs.YtpdmfbhjneodeaaGreatDoor
open Go.RowKit
def CurQ (W H : Nat) (c : List UInt8) (e : Nat) (S T : List Nat) (nv : Value) : Prop :=
  (nv = .int .i64 (-1) ∧ S = T) ∨ ∃ j : Nat, nv = .int .i64 j ∧ S ++ ln W H c e j = T ∧ j < nn W H ∧ at0 c j ≠ 35
theorem curq_of {W H : Nat} {c : List UInt8} {e i : Nat} {S T : List Nat} (hT : S ++ restL W H c e (nx W H c e i) = T) : CurQ W H c e S T (.int .i64 (aI (nx W H c e i))) := by
  cases h : nx W H c e i with
  | none => rw [h] at hT; exact .inl ⟨rfl, by rw [← hT]; exact (List.append_nil S).symm⟩
  | some j =>
    rw [h] at hT
    obtain ⟨-, -, h3, h4⟩ := nx_some h
    exact .inr ⟨j, rfl, hT, h3, h4⟩
theorem ins_at {s : List Nat} : ∀ {O : List (List Nat)} {q : Nat}, q ≤ O.length → (∀ i, i < q → minL (O.getD i []) < minL s) → (q = O.length ∨ ¬ minL (O.getD q []) < minL s) → ins s O = O.take q ++ [s] ++ O.drop q := by
  intro O
  induction O with
  | nil => intro q hq _ _; simp [ins]
  | cons a O ih =>
    intro q hq h1 h2
    cases q with
    | zero =>
      rcases h2 with h2 | h2
      · simp at h2
      · have : ¬ minL a < minL s := by simpa using h2
        simp [ins, this]
    | succ q =>
      have ha : minL a < minL s := by simpa using h1 0 (by omega)
      have := ih (q := q) (by simpa using hq) (fun i hi => by simpa using h1 (i + 1) (by omega)) (by
        rcases h2 with h2 | h2
        · left; simpa using h2
        · right; simpa using h2)
      simp [ins, ha, this]
def insI (q n i : Nat) : Nat := if i < q then i else if i = q then n else i - 1
theorem insert_get {α : Type} {A : List α} {x : α} {q i : Nat} (hq : q ≤ A.length) (hi : i < A.length + 1) : (A.take q ++ [x] ++ A.drop q)[i]? = (A ++ [x])[insI q A.length i]? := by
  unfold insI
  rcases Nat.lt_trichotomy i q with h | h | h
  · rw [if_pos h, List.getElem?_append_left (by simp; omega), List.getElem?_append_left (by simp; omega), List.getElem?_append_left (by omega), List.getElem?_take, if_pos h]
  · subst h
    rw [if_neg (Nat.lt_irrefl _), if_pos rfl, List.getElem?_append_left (by simp; omega), List.getElem?_append_right (by rw [List.length_take]; omega), List.getElem?_append_right (Nat.le_refl _)]
    simp [Nat.min_eq_left hq]
  · rw [if_neg (by omega), if_neg (by omega), List.getElem?_append_right (by simp; omega), List.getElem?_append_left (by omega), List.getElem?_drop]
    congr 1
    simp
    omega
theorem RowsK.insert {T : TypeId} {base k q : Nat} {L : List (List Int)} {l : List Int} {vs : List Value} {v : Value} {w : World} (h : RowsK T base (L ++ [l]) k 0 (vs ++ [v]) w) (hn : vs.length = L.length) (hq : q ≤ L.length) : RowsK T base (L.take q ++ [l] ++ L.drop q) k 0 (vs.take q ++ [v] ++ vs.drop q) w := by
  have hl : (L.take q ++ [l] ++ L.drop q).length = L.length + 1 := by simp; omega
  have hv : (vs.take q ++ [v] ++ vs.drop q).length = L.length + 1 := by simp; omega
  refine ⟨fun i x hx => ?_, fun i i' x y hx hy hne => ?_⟩
  · have hi : i < L.length + 1 := by
      rcases Nat.lt_or_ge i (L.length + 1) with h | h
      · exact h
      · rw [List.getElem?_eq_none (by omega)] at hx; cases hx
    rw [insert_get hq hi] at hx
    obtain ⟨u, hu, ho⟩ := h.at' _ x hx
    refine ⟨u, by rw [insert_get (by omega) (by omega), hn]; exact hu, ?_⟩
    rw [if_neg (Nat.not_lt_zero _)] at ho ⊢
    exact ho
  · have hi : i < L.length + 1 := by
      rcases Nat.lt_or_ge i (L.length + 1) with h | h
      · exact h
      · rw [List.getElem?_eq_none (by omega)] at hx; cases hx
    have hi' : i' < L.length + 1 := by
      rcases Nat.lt_or_ge i' (L.length + 1) with h | h
      · exact h
      · rw [List.getElem?_eq_none (by omega)] at hy; cases hy
    rw [insert_get (by omega) (by omega)] at hx hy
    refine h.ap _ _ x y hx hy fun e => hne ?_
    unfold insI at e
    split at e <;> split at e <;> (first | omega | (split at e <;> first | omega | (split at e <;> omega)))
theorem own_cap {w : World} {base n cap : Nat} {e : TypeId} {size : Nat} {p : Option Addr} {xs : List Value} (h : w.ownsRow base e size (.slice p n cap) n xs) : n ≤ cap := by
  obtain ⟨_, ⟨h', _⟩ | ⟨g', cap', cur, h', hb, hg, hnc, _⟩⟩ := h
  · cases h'; exact Nat.le_refl _
  · cases h'; exact hnc
theorem RowsK.ones {T : TypeId} {base k j : Nat} {L : List (List Int)} {vs : List Value} {w : World} (h : RowsK T base L k j vs w) (hn : vs.length = L.length) : ∀ u ∈ vs, u.oneCell' = true := by
  intro u hu
  obtain ⟨i, hi, rfl⟩ := List.getElem_of_mem hu
  obtain ⟨x, hx, hox⟩ := h.at' i _ (List.getElem?_eq_getElem (show i < L.length by omega))
  rw [List.getElem?_eq_getElem hi] at hx
  cases hx
  exact own_one hox
theorem zzz_ins (O : List (List Nat)) (S : List Nat) (q : Nat) : zzz (O.take q ++ [S] ++ O.drop q) = (zzz O).take q ++ [zz S] ++ (zzz O).drop q := by simp [zzz, List.map_take, List.map_drop]
set_option maxHeartbeats 4000000 in
set_option maxRecDepth 100000 in
theorem tiStretches_any (W H base d : Nat) (c : List UInt8) (G cap : Nat) (w : World) (hd : d < 4) (hW : W ≤ 7) (hH : H ≤ 7) (h36 : c.length ≤ 36) (hlen : c.length = nn W H) (hcells : ∀ i, i < c.length → isCellB (at0 c i) = true) (hown : w.ownsRow base 5 1 (.slice (some ⟨G, 0, none⟩) c.length cap) c.length (cellsV c)) :
    Calls Tryz.prog 24 #[.agg (tg W H (.slice (some ⟨G, 0, none⟩) c.length cap)), .int .i64 d] w (RetSS1 32 3 (zzz (strL W H c d)) w) := by
  have gg := Gr.refl w
  have ho := opd_lt d
  have eo : ((d : Int) + 2) % 4 = ((opd d : Nat) : Int) := by unfold opd; omega
  have hraw := strs_raw (W := W) (H := H) (c := c) (d := d) hd hW hH hlen hcells
  have HRAW := hidI hraw
  have HLEN := hidI hlen
  clear hraw hcells hlen
  go_enter Tryz.func24, Tryz.ntmps24
  go_wp2_with (refine r_box 31 _ (tg (W) (H) (.slice (some ⟨G, 0, none⟩) c.length cap)) rfl rfl ?_; intro w1 B1 N1; have g1 := N1.gr; have b1 : Blk w1 B1 (tg (W) (H) (.slice (some ⟨G, 0, none⟩) c.length cap)) 31 := N1.blk; have l1 := N1.lo; have t1 := N1.hi; have z1 := g1.size; have gg := gg.trans g1; clear N1; obtain ⟨b1_0, b1_1, b1_2⟩ := tcells b1)
  have own0 : w1.ownsRow w.heap.size 32 1 (.slice none 0 0) (srt (strTo W H c d 0)).length [] := World.ownsRow_nil _ _ _ _
  have R0 : RowsK 3 w.heap.size (zzz (srt (strTo W H c d 0))) 1 0 [] w1 := RowsK.nil _ _ _ _ _
  go_loopw [5, 15] (fun ov i wr => ∃ (k : Nat) (vs : List Value), k ≤ c.length ∧ i = .int .i64 k ∧ wr.ownsRow w.heap.size 32 1 ov (srt (strTo W H c d k)).length vs ∧ RowsK 3 w.heap.size (zzz (srt (strTo W H c d k))) 1 0 vs wr ∧ Blk wr B1 (tg W H (.slice (some ⟨G, 0, none⟩) c.length cap)) 31 ∧ Gr w wr) (fun _ i _ => c.length - (intOf i).toNat)
  case atStart => exact ⟨0, [], Nat.zero_le _, rfl, own0, R0, b1, gg⟩
  case round =>
    obtain ⟨k, vs, hk, rfl, own, R, b1, gg⟩ := hrel
    obtain ⟨wo, rfl⟩ : ∃ wo : World, wo = wr := ⟨_, rfl⟩
    obtain ⟨p5, n5, k5, rfl⟩ := own_slice own
    have zo := gg.size
    have hvl : vs.length = (zzz (srt (strTo W H c d k))).length := by have := own.1; rw [zzz_length]; omega
    have HVL := hidI hvl
    have RO := R
    clear hvl
    by_cases hlt : k < c.length
    · have hck := own_cell (gg.row hown) k hlt rfl
      have hkn : k < nn W H := by rw [← HLEN.out]; exact hlt
      by_cases hw : at0 c k = 35
      · have ht : (((at0 c k).toNat : Int) == 35) = true := by rw [hw]; rfl
        have HS := hidI (show strTo W H c d (k + 1) = strTo W H c d k from by rw [strTo, if_neg (by rw [hw]; simp)])
        clear hw
        go_wp2
        go_roundw
        case rel => exact ⟨k + 1, vs, by omega, by go_num, by rw [HS.out]; exact own, by rw [HS.out]; exact R, b1, gg⟩
        case measure => simp [intOf]; omega
      · have ht : (((at0 c k).toNat : Int) == 35) = false := by
          rw [beq_eq_false_iff_ne]; intro e; exact hw (UInt8.toNat_inj.1 (by simp; omega))
        cases hx : nx W H c d k with
        | some j =>
          have HA := hidI (show aI (nx W H c d k) = (j : Int) from by rw [hx]; rfl)
          have HS := hidI (show strTo W H c d (k + 1) = strTo W H c d k from by rw [strTo, if_neg (by rw [hx]; simp)])
          have hj0 : (0 : Int) ≤ (j : Int) := by omega
          have hn0 : ¬ ((j : Int) < 0) := by omega
          clear hx hw
          go_wp2_with (first | (refine r_load_row 31 _ _ rfl _ _ _ b1 Tryz.underlying31 rfl Tryz.tinfo rfl ?_) | (go_at_call 35; refine (tiAhead_any W H base d k c G cap _ hd hkn hW hH h36 HLEN.out (gg.row hown)).mono ?_; rintro e w4 ⟨rfl, g4⟩; rw [HA.out]; have z4 := g4.size; have b1 := g4.blk b1; obtain ⟨b1_0, b1_1, b1_2⟩ := tcells b1; have gg := gg.trans g4))
          go_roundw
          case rel => exact ⟨k + 1, vs, by omega, by go_num, by rw [HS.out]; exact g4.row own, by rw [HS.out]; exact R.gr g4, b1, gg⟩
          case measure => simp [intOf]; omega
        | none =>
          have HA := hidI (show aI (nx W H c d k) = -1 from by rw [hx]; rfl)
          have HS := hidI (show srt (strTo W H c d (k + 1)) = ins (ln W H c (opd d) k) (srt (strTo W H c d k)) from by rw [srtTo_succ, if_pos ⟨hw, hx⟩])
          have hl7 : (ln W H c (opd d) k).length ≤ 7 := by
            have h1 := ln_len (W := W) (H := H) (c := c) ho k
            have h2 := md_le (d := opd d) hW hH hkn
            omega
          have hl1 := ln_pos (W := W) (H := H) (c := c) ho k
          have hsl : (srt (strTo W H c d k)).length ≤ 36 := by
            rw [(srt_perm _).length_eq]
            have := str_len (W := W) (H := H) (c := c) (d := d) k
            omega
          have HOL := hidI (fun s (hs : s ∈ srt (strTo W H c d k)) => (show 0 < s.length ∧ s.length ≤ 7 from by
            obtain ⟨n, hn, h35, hx', rfl⟩ := (mem_str k).1 ((srt_perm _).mem_iff.1 hs)
            refine ⟨ln_pos ho n, ?_⟩
            have h1 := ln_len (W := W) (H := H) (c := c) ho n
            have h2 := md_le (d := opd d) hW hH (show n < nn W H by omega)
            omega))
          have HCUR := hidI (curq_of (S := [k]) (T := ln W H c (opd d) k) (ln_rest ho k).symm)
          clear hx hw
          go_wp2_with (refine r_load_row 31 _ _ rfl _ _ _ b1 Tryz.underlying31 rfl Tryz.tinfo rfl ?_)
          refine (tiAhead_any W H base d k c G cap _ hd hkn hW hH h36 HLEN.out (gg.row hown)).mono ?_
          rintro e w4 ⟨rfl, g4⟩
          rw [HA.out]
          have b1 := g4.blk b1
          have gg := gg.trans g4
          have z4 := g4.size
          go_wp2_with (first | (refine r_load_row 31 _ _ rfl _ _ _ b1 Tryz.underlying31 rfl Tryz.tinfo rfl ?_) | (refine r_slice1 32 3 (.tmp 29) (.int .i64 k) rfl (Tryz.bsi1 _ _) rfl ?_; intro w5 B5 N5; have g5 := N5.gr; have own5 := own1_new N5; have b1 := g5.blk b1; have gg := gg.trans g5; have z5 := g5.size))
          refine (tiAhead_any W H base (opd d) k c G cap _ ho hkn hW hH h36 HLEN.out (gg.row hown)).mono ?_
          rintro e w6 ⟨rfl, g6⟩
          have b1 := g6.blk b1
          have gg := gg.trans g6
          have z6 := g6.size
          have own5 := own_up (g6.row own5) (show wo.heap.size ≤ w4.heap.size by omega)
          have own := g6.row (g5.row (g4.row own))
          have R := R.gr ((g4.trans g5).trans g6)
          obtain ⟨nv, hnv⟩ : ∃ nv, nv = Value.int .i64 (aI (nx W H c (opd d) k)) := ⟨_, rfl⟩
          rw [← hnv]
          have HCUR := hidI (show CurQ W H c (opd d) [k] (ln W H c (opd d) k) nv from by rw [hnv]; exact HCUR.out)
          clear hnv
          go_wp2_with fail
          go_loopw [8, 9] (fun sv nv wr => ∃ S : List Nat, Hid (CurQ W H c (opd d) S (ln W H c (opd d) k) nv) ∧ wr.ownsRow wo.heap.size 3 1 sv S.length (intsV (zz S)) ∧ 0 < S.length ∧ wr.ownsRow w.heap.size 32 1 (.slice p5 n5 k5) (srt (strTo W H c d k)).length vs ∧ RowsK 3 w.heap.size (zzz (srt (strTo W H c d k))) 1 0 vs wr ∧ Blk wr B1 (tg W H (.slice (some ⟨G, 0, none⟩) c.length cap)) 31 ∧ wo.heap.size ≤ wr.heap.size ∧ Gr w wr) (fun sv _ _ => match sv with | .slice _ n _ => 8 - n | _ => 0)
          case atStart => exact ⟨[k], HCUR, own5, by simp, own, R, b1, by omega, gg⟩
          case round =>
            obtain ⟨S, HCUR, own5, hS1, own, R, b1, zs, gg⟩ := hrel
            rcases HCUR.out with ⟨rfl, hST⟩ | ⟨j, rfl, hST, hj, hcj⟩
            · have hS7 : S.length ≤ 7 := by rw [hST]; exact hl7
              have HST := hidI hST
              have HBF := hidI (RO.before HVL.out own5 (Nat.le_refl _))
              obtain ⟨p8, n8, k8, rfl⟩ := own_slice own5
              have hz : wr.ownsRow wo.heap.size 3 1 (.slice p8 n8 k8) (zz S).length (intsV (zz S)) := by rw [zz_length]; exact own5
              obtain ⟨O, hO⟩ : ∃ O, O = srt (strTo W H c d k) := ⟨_, rfl⟩
              rw [← hO] at own R HVL HS HOL hsl
              obtain rfl : n5 = O.length := own_len own
              obtain ⟨wx, rfl⟩ : ∃ wx : World, wx = wr := ⟨_, rfl⟩
              have OWN5 := hidI own5
              clear hST hO own5
              go_wp2
              go_loopw [10] (fun kv wr => ∃ q : Nat, q ≤ O.length ∧ kv = .int .i64 q ∧ Hid (∀ i, i < q → minL (O.getD i []) < minL S) ∧ Gr wx wr) (fun kv _ => O.length - (intOf kv).toNat)
              case atStart => exact ⟨0, Nat.zero_le _, rfl, fun i hi => by omega, Gr.refl _⟩
              case round =>
                obtain ⟨q, hqle, rfl, HQ1, gxa⟩ := hrel
                by_cases hq : q < O.length
                · obtain ⟨t, ht'⟩ : ∃ t, O[q]? = some t := ⟨O[q], List.getElem?_eq_getElem hq⟩
                  obtain ⟨x, hx, ox⟩ := (R.gr gxa).get ht'
                  obtain ⟨g1', c1', e1, -, -⟩ := own_shape own (by omega)
                  cases e1
                  have hcx := own_val (gxa.row own) q x hq hx
                  have hix := Tryz.ssix g1' O.length k5 q hq
                  have htl := HOL.out t (List.mem_of_getElem? ht')
                  have hgt : O.getD q [] = t := by rw [List.getD_eq_getElem?_getD, ht']; rfl
                  have HGT := hidI hgt
                  have OX := hidI ox
                  obtain ⟨px, nx', kx, rfl⟩ := own_slice ox
                  clear ht' hx ox hgt
                  by_cases hcmp : minL t < minL S
                  · have HCMP := hidI hcmp
                    have hci : (minL t : Int) < (minL S : Int) := by omega
                    clear hcmp
                    go_wp2_with (refine r_val (.pointer (some ⟨g1', q, none⟩)) (e_val _ _ (hix _)) rfl ?_)
                    refine (tiFirst_any _ t _ _ OX.out htl.1 (by omega)).mono ?_
                    rintro e w12 ⟨rfl, g12⟩
                    go_wp2_with fail
                    refine (tiFirst_any _ S _ _ (g12.row (gxa.row OWN5.out)) hS1 (by omega)).mono ?_
                    rintro e w13 ⟨rfl, g13⟩
                    go_wp2
                    go_roundw
                    case rel => exact ⟨q + 1, by omega, by go_num, fun i hi => if h : i < q then HQ1.out i h else by (rw [show i = q by omega, HGT.out]; exact HCMP.out), (gxa.trans g12).trans g13⟩
                    case measure => simp [intOf]; omega
                  · have HQ2 := hidI (show q = O.length ∨ ¬ minL (O.getD q []) < minL S from .inr (by rw [HGT.out]; exact hcmp))
                    have hci : ¬ (minL t : Int) < (minL S : Int) := by omega
                    clear hcmp
                    go_wp2_with (refine r_val (.pointer (some ⟨g1', q, none⟩)) (e_val _ _ (hix _)) rfl ?_)
                    refine (tiFirst_any _ t _ _ OX.out htl.1 (by omega)).mono ?_
                    rintro e w12 ⟨rfl, g12⟩
                    go_wp2_with fail
                    refine (tiFirst_any _ S _ _ (g12.row (gxa.row OWN5.out)) hS1 (by omega)).mono ?_
                    rintro e w13 ⟨rfl, g13⟩
                    have gxa := (gxa.trans g12).trans g13
                    obtain ⟨p5, hp5⟩ : ∃ p, p = some (⟨g1', 0, none⟩ : Addr) := ⟨_, rfl⟩
                    rw [← hp5] at own ⊢
                    clear hp5 hix
                    have own := gxa.row own
                    have R := R.gr gxa
                    have hz := gxa.row hz
                    have b1 := gxa.blk b1
                    have gg := gg.trans gxa
                    have zA := gg.size
                    have hcp := own_cap own
                    have HINS := hidI (ins_at hqle HQ1.out HQ2.out)
                    have hcut1 := Tryz.sscut p5 O.length k5 q (by omega)
                    have hcut2' := Tryz.ssfrom p5 O.length k5 q hqle
                    have hrd1 := (Rd.of_own own).take hqle
                    have hrd2' := Rd.drop own hqle
                    obtain ⟨pd, hpd⟩ : ∃ pd, pd = (if k5 = q then p5 else p5.map (·.add (q * 1))) := ⟨_, rfl⟩
                    obtain ⟨m2, hm2⟩ : ∃ m2, m2 = O.length - q := ⟨_, rfl⟩
                    obtain ⟨c2, hc2⟩ : ∃ c2, c2 = k5 - q := ⟨_, rfl⟩
                    rw [← hpd, ← hm2, ← hc2] at hcut2'
                    rw [← hpd, ← hm2] at hrd2'
                    have hvo := R.ones HVL.out
                    have HM2 := hidI hm2
                    have hm236 : m2 ≤ 36 := by omega
                    have hq36 : q ≤ 36 := by omega
                    have HC1 := hidI hcut1
                    have HC2 := hidI hcut2'
                    have HV1 := hidI (fun u (hu : u ∈ vs.take q) => hvo u (List.mem_of_mem_take hu))
                    have HV2 := hidI (fun u (hu : u ∈ vs.drop q) => hvo u (List.mem_of_mem_drop hu))
                    clear hpd hm2 hc2 hvo hcut1 hcut2'
                    go_wp2_with (first | (refine r_slice0 62 32 (Tryz.bss0 _) rfl ?_; intro w20 B20 g20 own20; have gA := g20; have zB := gA.size) | (refine r_cut_hi 62 (.tmp 66) (.tmp 67) (.slice p5 O.length k5) (.int .i64 q) (.slice p5 q k5) rfl rfl (HC1.out _) rfl ?_) | (refine r_append_any (.tmp 65) (.tmp 68) 62 32 _ 24 w13.heap.size Tryz.intSSI (.slice (some ⟨B20, 0, none⟩) 0 0) 0 [] rfl own20 p5 q k5 (vs.take q) rfl (hrd1.gr gA) HV1.out (by omega) (by decide) (by omega) rfl ?_; intro v21 w21 own21 g21; have gA := g21.gr gA (own_gr own20 (Nat.le_refl _)); have zB := gA.size) | (refine r_slice1 62 32 (.tmp 70) (.slice p8 n8 k8) rfl (Tryz.bssi1 _ _ _ _) rfl ?_; intro w22 B22 N22; have g22 := N22.gr; have own21 := g22.row own21; have gA := gA.trans g22; have zB := gA.size) | (refine r_append (.tmp 69) (.tmp 71) 62 32 _ 1 24 w13.heap.size Tryz.intSSI v21 (0 + q) ([] ++ vs.take q) rfl own21 ⟨B22, 0, none⟩ 1 1 [.slice p8 n8 k8] rfl rfl N22.cell1 (by intro u hu; simp at hu; subst hu; rfl) (by omega) (by decide) (by omega) rfl ?_; intro v23 w23 own23 g23; have gA := g23.gr gA (own_gr own21 (Nat.le_refl _)); have zB := gA.size) | (refine r_cut_lo 62 (.tmp 74) (.tmp 75) (.slice p5 O.length k5) (.int .i64 q) (.slice pd m2 c2) rfl rfl (HC2.out _) rfl ?_) | (refine r_append_any (.tmp 73) (.tmp 76) 62 32 _ 24 w13.heap.size Tryz.intSSI v23 (0 + q + 1) (([] ++ vs.take q) ++ [.slice p8 n8 k8]) rfl own23 pd m2 c2 (vs.drop q) rfl (hrd2'.gr gA) HV2.out (by omega) (by decide) (by omega) rfl ?_; intro v24 w24 own24 g24; have gA := g24.gr gA (own_gr own23 (Nat.le_refl _)); have zB := gA.size))
                    have RS := ((R.snoc HVL.out (own_up hz (show w.heap.size ≤ wo.heap.size from (by omega))) HBF.out).insert HVL.out (by rw [zzz_length]; exact hqle)).gr gA
                    have own25 : w24.ownsRow w.heap.size 32 1 v24 (ins S O).length (vs.take q ++ [.slice p8 n8 k8] ++ vs.drop q) := by
                      have e : (ins S O).length = 0 + q + 1 + m2 := by rw [(ins_perm S O).length_eq, List.length_cons, HM2.out]; omega
                      rw [e]
                      rw [List.nil_append] at own24
                      exact own_up own24 (by omega)
                    have b1 := gA.blk b1
                    have gg := gg.trans gA
                    go_roundw
                    case rel => exact ⟨k + 1, vs.take q ++ [.slice p8 n8 k8] ++ vs.drop q, by omega, by go_num, by rw [HS.out, ← HST.out]; exact own25, by rw [HS.out, ← HST.out, HINS.out, zzz_ins]; exact RS, b1, gg⟩
                    case measure => simp [intOf]; omega
                · have hqe : q = O.length := by omega
                  have HQ2 := hidI (show q = O.length ∨ ¬ minL (O.getD q []) < minL S from .inl hqe)
                  have hqn : ¬ (q : Int) < (O.length : Int) := by omega
                  have hqd : decide (q < O.length) = false := by simp; omega
                  clear hqe hq
                  obtain ⟨wy, rfl⟩ : ∃ wy : World, wy = wr := ⟨_, rfl⟩
                  have own := gxa.row own
                  have R := R.gr gxa
                  have hz := gxa.row hz
                  have b1 := gxa.blk b1
                  have gg := gg.trans gxa
                  have zA := gg.size
                  have hcp := own_cap own
                  have HINS := hidI (ins_at hqle HQ1.out HQ2.out)
                  have hcut1 := Tryz.sscut p5 O.length k5 q (by omega)
                  have hcut2' := Tryz.ssfrom p5 O.length k5 q hqle
                  have hrd1 := (Rd.of_own own).take hqle
                  have hrd2' := Rd.drop own hqle
                  obtain ⟨pd, hpd⟩ : ∃ pd, pd = (if k5 = q then p5 else p5.map (·.add (q * 1))) := ⟨_, rfl⟩
                  obtain ⟨m2, hm2⟩ : ∃ m2, m2 = O.length - q := ⟨_, rfl⟩
                  obtain ⟨c2, hc2⟩ : ∃ c2, c2 = k5 - q := ⟨_, rfl⟩
                  rw [← hpd, ← hm2, ← hc2] at hcut2'
                  rw [← hpd, ← hm2] at hrd2'
                  have hvo := R.ones HVL.out
                  have HM2 := hidI hm2
                  have hm236 : m2 ≤ 36 := by omega
                  have hq36 : q ≤ 36 := by omega
                  have HC1 := hidI hcut1
                  have HC2 := hidI hcut2'
                  have HV1 := hidI (fun u (hu : u ∈ vs.take q) => hvo u (List.mem_of_mem_take hu))
                  have HV2 := hidI (fun u (hu : u ∈ vs.drop q) => hvo u (List.mem_of_mem_drop hu))
                  clear hpd hm2 hc2 hvo hcut1 hcut2'
                  go_wp2_with (first | (refine r_slice0 62 32 (Tryz.bss0 _) rfl ?_; intro w20 B20 g20 own20; have gA := g20; have zB := gA.size) | (refine r_cut_hi 62 (.tmp 66) (.tmp 67) (.slice p5 O.length k5) (.int .i64 q) (.slice p5 q k5) rfl rfl (HC1.out _) rfl ?_) | (refine r_append_any (.tmp 65) (.tmp 68) 62 32 _ 24 wy.heap.size Tryz.intSSI (.slice (some ⟨B20, 0, none⟩) 0 0) 0 [] rfl own20 p5 q k5 (vs.take q) rfl (hrd1.gr gA) HV1.out (by omega) (by decide) (by omega) rfl ?_; intro v21 w21 own21 g21; have gA := g21.gr gA (own_gr own20 (Nat.le_refl _)); have zB := gA.size) | (refine r_slice1 62 32 (.tmp 70) (.slice p8 n8 k8) rfl (Tryz.bssi1 _ _ _ _) rfl ?_; intro w22 B22 N22; have g22 := N22.gr; have own21 := g22.row own21; have gA := gA.trans g22; have zB := gA.size) | (refine r_append (.tmp 69) (.tmp 71) 62 32 _ 1 24 wy.heap.size Tryz.intSSI v21 (0 + q) ([] ++ vs.take q) rfl own21 ⟨B22, 0, none⟩ 1 1 [.slice p8 n8 k8] rfl rfl N22.cell1 (by intro u hu; simp at hu; subst hu; rfl) (by omega) (by decide) (by omega) rfl ?_; intro v23 w23 own23 g23; have gA := g23.gr gA (own_gr own21 (Nat.le_refl _)); have zB := gA.size) | (refine r_cut_lo 62 (.tmp 74) (.tmp 75) (.slice p5 O.length k5) (.int .i64 q) (.slice pd m2 c2) rfl rfl (HC2.out _) rfl ?_) | (refine r_append_any (.tmp 73) (.tmp 76) 62 32 _ 24 wy.heap.size Tryz.intSSI v23 (0 + q + 1) (([] ++ vs.take q) ++ [.slice p8 n8 k8]) rfl own23 pd m2 c2 (vs.drop q) rfl (hrd2'.gr gA) HV2.out (by omega) (by decide) (by omega) rfl ?_; intro v24 w24 own24 g24; have gA := g24.gr gA (own_gr own23 (Nat.le_refl _)); have zB := gA.size))
                  have RS := ((R.snoc HVL.out (own_up hz (show w.heap.size ≤ wo.heap.size from (by omega))) HBF.out).insert HVL.out (by rw [zzz_length]; exact hqle)).gr gA
                  have own25 : w24.ownsRow w.heap.size 32 1 v24 (ins S O).length (vs.take q ++ [.slice p8 n8 k8] ++ vs.drop q) := by
                    have e : (ins S O).length = 0 + q + 1 + m2 := by rw [(ins_perm S O).length_eq, List.length_cons, HM2.out]; omega
                    rw [e]
                    rw [List.nil_append] at own24
                    exact own_up own24 (by omega)
                  have b1 := gA.blk b1
                  have gg := gg.trans gA
                  go_roundw
                  case rel => exact ⟨k + 1, vs.take q ++ [.slice p8 n8 k8] ++ vs.drop q, by omega, by go_num, by rw [HS.out, ← HST.out]; exact own25, by rw [HS.out, ← HST.out, HINS.out, zzz_ins]; exact RS, b1, gg⟩
                  case measure => simp [intOf]; omega
            · have hS6 : S.length + 1 ≤ 7 := by
                have h1 := congrArg List.length hST
                rw [List.length_append] at h1
                have := ln_pos (W := W) (H := H) (c := c) ho j
                omega
              have HCUR := hidI (curq_of (S := S ++ [j]) (T := ln W H c (opd d) k) (show (S ++ [j]) ++ restL W H c (opd d) (nx W H c (opd d) j) = _ by rw [List.append_assoc]; show S ++ (j :: restL W H c (opd d) (nx W H c (opd d) j)) = _; rw [← ln_rest ho j]; exact hST))
              clear hST hcj
              go_wp2_with (first | (refine r_slice1 32 3 (.tmp 46) (.int .i64 j) rfl (Tryz.bsi1 _ _) rfl ?_; intro w8 B8 N8; have g8 := N8.gr; have own5 := g8.row own5; have own := g8.row own; have R := R.gr g8; have b1 := g8.blk b1; have gg := gg.trans g8; have z8 := g8.size) | (refine r_append (.tmp 45) (.tmp 47) 32 3 _ 1 8 wo.heap.size Tryz.intsI _ _ (intsV (zz S)) rfl own5 ⟨B8, 0, none⟩ 1 1 [.int .i64 j] rfl rfl N8.cell1 (intsV_one [(j : Int)]) (by omega) (by decide) (by omega) rfl ?_; intro v9 w9 own9 g9; have own := g9.row own (own_ne2 own own5 (by decide)); have b1 := g9.blk b1 (own_ne own5 b1 (by decide)); have R9 := RowsK.grow5 R RO HVL.out own5 g9 (Nat.le_refl _); have gg := g9.gr gg (own_gr own5 (by omega)); have z9 := g9.size) | (refine r_load_row 31 _ _ rfl _ _ _ b1 Tryz.underlying31 rfl Tryz.tinfo rfl ?_))
              refine (tiAhead_any W H base (opd d) j c G cap _ ho hj hW hH h36 HLEN.out (gg.row hown)).mono ?_
              rintro e w10 ⟨rfl, g10⟩
              have b1 := g10.blk b1
              have own := g10.row own
              have own9 := g10.row own9
              have R := R9.gr g10
              have gg := gg.trans g10
              have z10 := g10.size
              go_wp2
              go_roundw
              case rel => exact ⟨S ++ [j], HCUR, by (rw [List.length_append, zz_append, ← intsV_append]; exact own9), by simp, own, R, b1, by omega, gg⟩
              case measure =>
                obtain ⟨p5, n5, k5, rfl⟩ := own_slice own5
                obtain ⟨p9, n9, k9, rfl⟩ := own_slice own9
                have e1 := own_len own5
                have e2 := own_len own9
                show 8 - n9 < 8 - n5
                omega
    · obtain rfl : k = c.length := by omega
      clear hlt
      go_wp2
      go_ret
      refine ⟨gg, _, vs, rfl, ?_, ?_⟩
      · rw [zzz_length]; unfold strL; rw [← HLEN.out]; exact own
      · unfold strL; rw [← HLEN.out]; exact R
end Go.Proofs.YtpdmfbhjneodeaaGreatDoor
namespace Go.Proofs.YtpdmfbhjneodeaaGreatDoor
open Go.RowKit
theorem spAll_take {c o : List UInt8} {L : List (List Nat)} {k : Nat} {s : List Nat} (h : L[k]? = some s) : spAll c o (L.take (k + 1)) = spTo c (spAll c o (L.take k)) s s.length := by
  rw [List.take_add_one, h]
  unfold spAll
  rw [List.foldl_append]
  rfl
theorem tiltG_c {g : Grid} (h : Cel g) {d : Nat} (hd : d < 4) : (tiltG d g).c = spAll g.c (wallTo isBallB g.c (nn g.w g.h)) (strL g.w g.h g.c d) := tilt_eq (h.strs hd) h.len
set_option maxHeartbeats 4000000 in
set_option maxRecDepth 100000 in
theorem tiTilt_any (g : Grid) (base d : Nat) (sl : Value) (w : World) (hg : Cel g) (hd : d < 4) (h1 : 0 < g.c.length) (hown0 : w.ownsRow base 5 1 sl g.c.length (cellsV g.c)) :
    Calls Tryz.prog 14 #[.agg (tg g.w g.h sl), .int .i64 d] w (RetG 5 g.w g.h (tiltG d g).c w) := by
  have gg := Gr.refl w
  obtain ⟨G, cap, rfl, -, -⟩ := own_shape hown0 h1
  have hown := hown0
  have HT := hidI (tiltG_c hg hd)
  have hS := hg.strs hd
  have w7 := hg.w7
  have h7 := hg.h7
  have n36 := hg.n36
  have hlen := hg.len
  have h36 : g.c.length ≤ 36 := by omega
  have hcells := hg.cells
  obtain ⟨W, hW⟩ : ∃ W, W = g.w := ⟨_, rfl⟩
  obtain ⟨H, hH⟩ : ∃ H, H = g.h := ⟨_, rfl⟩
  obtain ⟨c, hc⟩ : ∃ c, c = g.c := ⟨_, rfl⟩
  rw [← hW] at w7 n36 hlen hS HT ⊢
  rw [← hH] at h7 n36 hlen hS HT ⊢
  rw [← hc] at h1 hown hlen hcells h36 hS HT ⊢
  obtain ⟨L, hL⟩ : ∃ L, L = strL W H c d := ⟨_, rfl⟩
  rw [← hL] at hS HT
  obtain ⟨o, hoo⟩ : ∃ o, o = wallTo isBallB c (nn W H) := ⟨_, rfl⟩
  have hol : o.length = c.length := by rw [hoo]; exact wallTo_len _ _ _
  rw [← hoo] at HT
  have HS := hidI hS
  have HLEN := hidI hlen
  have HCELLS := hidI hcells
  have HL := hidI hL
  have HO := hidI hoo
  have HOL := hidI hol
  clear hW hH hc hL hoo hol hS hlen hcells hown0
  go_enter Tryz.func14, Tryz.ntmps14
  go_wp2_with (first | (refine r_box 31 _ (tg (W) (H) (.slice (some ⟨G, 0, none⟩) c.length cap)) rfl rfl ?_; intro w1 B1 N1; have g1 := N1.gr; have b1 : Blk w1 B1 (tg (W) (H) (.slice (some ⟨G, 0, none⟩) c.length cap)) 31 := N1.blk; have l1 := N1.lo; have t1 := N1.hi; have z1 := g1.size; have gg := gg.trans g1; clear N1; obtain ⟨b1_0, b1_1, b1_2⟩ := tcells b1) | (refine r_alloc 31 _ Tryz.tzero rfl ?_; intro w2 B2 N2; have g2 := N2.gr; have b2 : Blk w2 B2 (tg 0 0 (.slice none 0 0)) 31 := N2.blk; have l2 := N2.lo; have t2 := N2.hi; have z2 := g2.size; have b1 := g2.blk b1; obtain ⟨b1_0, b1_1, b1_2⟩ := tcells b1; have gg := gg.trans g2; clear N2; obtain ⟨b2_0, b2_1, b2_2⟩ := tcells b2) | (refine r_load_row 31 _ _ rfl _ _ _ b1 Tryz.underlying31 rfl Tryz.tinfo rfl ?_))
  refine (tyWalls_any W H base c G cap _ h36 HLEN.out h1 (gg.row hown)).mono ?_
  rintro e w3 ⟨g3, s3, rfl, own3⟩
  rw [← HO.out, HOL.out] at own3
  have b1 := g3.blk b1
  have b2 := g3.blk b2
  have z3 := g3.size
  have gg := gg.trans g3
  obtain ⟨G3, cap3, rfl, hG3, hcap3⟩ := own_shape own3 h1
  have hG3l := (own3.lt G3 rfl).2
  go_wp2_with (first | (refine r_alloc (dst := some 5) 31 _ Tryz.tzero rfl ?_; intro w4 B4 N4; have g4 := N4.gr; have b4 : Blk w4 B4 (tg 0 0 (.slice none 0 0)) 31 := N4.blk; have l4 := N4.lo; have t4 := N4.hi; have z4 := g4.size; have b1 := g4.blk b1; obtain ⟨b1_0, b1_1, b1_2⟩ := tcells b1; have b2 := g4.blk b2; have gg := gg.trans g4; clear N4; obtain ⟨b4_0, b4_1, b4_2⟩ := tcells b4) | (refine r_store_row 31 31 _ _ _ rfl (tg _ _ _) _ rfl b4 Tryz.tsize rfl (tg_one rfl) rfl ?_; intro w5 u5 b4'; have z5 := u5.size; have gg := u5.gr gg (by omega); have b1 := u5.blk b1 (by omega); obtain ⟨b1_0, b1_1, b1_2⟩ := tcells b1; have b2 := u5.blk b2 (by omega); clear b4; have b4 := b4'; clear b4'; obtain ⟨b4_0, b4_1, b4_2⟩ := tcells b4) | (refine r_load_row 31 _ _ rfl _ _ _ b1 Tryz.underlying31 rfl Tryz.tinfo rfl ?_))
  have own3 := u5.row (g4.row own3) (own_new own3 l4)
  have own3 := own_up own3 (show w.heap.size ≤ w2.heap.size by omega)
  refine (tiStretches_any W H base d c G cap _ hd w7 h7 h36 HLEN.out HCELLS.out (gg.row hown)).mono ?_
  rintro e w6 ⟨g6, sv, vs, rfl, own, R⟩
  rw [← HL.out] at own R
  rw [zzz_length] at own
  have hsmall := HS.out.small
  obtain ⟨p6, n6, k6, rfl⟩ := own_slice own
  obtain rfl : n6 = L.length := own_len own
  have b1 := g6.blk b1
  have b2 := g6.blk b2
  have b4 := g6.blk b4
  have own3 := g6.row own3
  have z6 := g6.size
  have gg := gg.trans g6
  have lo3 : w.heap.size ≤ G3 := by omega
  go_wp2
  have hb6 : w.heap.size ≤ w5.heap.size := by omega
  go_loopw [17] (fun iv wr => ∃ m : Nat, m ≤ L.length ∧ iv = .int .i64 m ∧ Blk wr B1 (tg W H (.slice (some ⟨G, 0, none⟩) c.length cap)) 31 ∧ Blk wr B2 (tg 0 0 (.slice none 0 0)) 31 ∧ Blk wr B4 (tg W H (.slice (some ⟨G3, 0, none⟩) c.length cap3)) 31 ∧
      wr.ownsRow w.heap.size 5 1 (.slice (some ⟨G3, 0, none⟩) c.length cap3) c.length (cellsV (spAll c o (L.take m))) ∧ wr.ownsRow w5.heap.size 32 1 (.slice p6 L.length k6) L.length vs ∧ RowsK 3 w5.heap.size (zzz L) 1 0 vs wr ∧ Gr w wr) (fun iv _ => L.length - (intOf iv).toNat)
  case atStart => exact ⟨0, Nat.zero_le _, rfl, b1, b2, b4, own3, own, R, gg⟩
  case round =>
    obtain ⟨m, hm, rfl, b1, b2, b4, own3, own, R, gg⟩ := hrel
    by_cases hlm : m < L.length
    · obtain ⟨s, hs⟩ : ∃ s, L[m]? = some s := ⟨L[m], List.getElem?_eq_getElem hlm⟩
      obtain ⟨v, hv, ov⟩ := R.get hs
      obtain ⟨g1', c1', e1, -, -⟩ := own_shape own (by omega)
      cases e1
      have hcv := own_val own m v hlm hv
      have hsm := List.mem_of_getElem? hs
      have hstr := HS.out.str s hsm
      have hs7 := HS.out.len7 s hsm
      have HT1 := hidI (spAll_take (c := c) (o := o) hs)
      obtain ⟨gs, cs, rfl, -, -⟩ := own_shape ov hs7.1
      obtain ⟨q, hq⟩ : ∃ q, q = spAll c o (L.take m) := ⟨_, rfl⟩
      have hql : q.length = c.length := by rw [hq, spAll_length, HOL.out]
      rw [← hq] at own3 HT1
      have HQL := hidI hql
      have HQ := hidI hq
      have HSTR := hidI hstr
      obtain ⟨hs1, hs7⟩ := hs7
      have ov := own_up ov (Nat.zero_le _)
      clear hs hv hsm hql hq hstr
      go_wp2
      go_loopw [8, 23] (fun kv jv wr => ∃ j : Nat, j ≤ s.length ∧ jv = .int .i64 j ∧ kv = .int .i64 (nbTo c s j : Nat) ∧ Blk wr B1 (tg W H (.slice (some ⟨G, 0, none⟩) c.length cap)) 31 ∧ Blk wr B2 (tg 0 0 (.slice none 0 0)) 31 ∧ Blk wr B4 (tg W H (.slice (some ⟨G3, 0, none⟩) c.length cap3)) 31 ∧
        wr.ownsRow w.heap.size 5 1 (.slice (some ⟨G3, 0, none⟩) c.length cap3) c.length (cellsV (spTo c q s j)) ∧ wr.ownsRow w5.heap.size 32 1 (.slice (some ⟨g1', 0, none⟩) L.length k6) L.length vs ∧ RowsK 3 w5.heap.size (zzz L) 1 0 vs wr ∧ wr.ownsRow 0 3 1 (.slice (some ⟨gs, 0, none⟩) s.length cs) s.length (intsV (zz s)) ∧ Gr w wr) (fun _ jv _ => s.length - (intOf jv).toNat)
      case atStart => exact ⟨0, Nat.zero_le _, rfl, rfl, b1, b2, b4, own3, own, R, ov, gg⟩
      case round =>
        obtain ⟨j, hj, rfl, rfl, b1, b2, b4, own3, own, R, ov, gg⟩ := hrel
        have hnb := nbTo_le c s j
        by_cases hlj : j < s.length
        · obtain ⟨x, hx⟩ : ∃ x, x = s.getD j 0 := ⟨_, rfl⟩
          have hcs := own_int ov j hlj (zz_length s).symm
          rw [zz_get hlj, ← hx] at hcs
          have hxl := HSTR.out.lt x (by rw [hx]; exact getD_mem hlj)
          have hcx := own_cell (gg.row hown) x hxl rfl
          have hix := Tryz.six0 G c.length cap x hxl
          obtain ⟨b1_0, b1_1, b1_2⟩ := tcells b1
          obtain ⟨b4_0, b4_1, b4_2⟩ := tcells b4
          by_cases hb : isBallB (at0 c x) = true
          · have hb' : isBallB (at0 c (s.getD j 0)) = true := by rw [← hx]; exact hb
            obtain ⟨p, hp⟩ : ∃ p, p = nbTo c s j := ⟨_, rfl⟩
            rw [← hp] at hnb
            have hpl : p < s.length := by omega
            obtain ⟨y, hy⟩ : ∃ y, y = s.getD p 0 := ⟨_, rfl⟩
            have hyl := HSTR.out.lt y (by rw [hy]; exact getD_mem hpl)
            have hcy := own_int ov p hpl (zz_length s).symm
            rw [zz_get hpl, ← hy] at hcy
            have HST := hidI (show nbTo c s (j + 1) = p + 1 ∧ spTo c q s (j + 1) = (spTo c q s j).set y (at0 c x) from ⟨by rw [nbTo, if_pos hb', hp], by rw [spTo, if_pos hb', ← hp, ← hx, ← hy]⟩)
            have HB := hidI hb
            rw [← hp]
            clear hb hb' hx hy hp
            go_wp2_with (go_at_call 25; refine (tyBall_any _ _).mono ?_; rintro e wSame ⟨rfl, rfl⟩; rw [HB.out])
            refine q_begin 12 (by kernel_rfl) (by kernel_rfl) ?_; simp only [List.take_succ_cons, List.take_zero, List.drop_succ_cons, List.drop_zero]
            refine q_take (.pointer (some ⟨B4, 2, none⟩)) rfl (fun w' hw' => e_val _ _ (Tryz.tf2 B4 _)) ?_; simp only [Act.put, List.setIfInBounds_toArray, List.set_cons_succ, List.set_cons_zero]
            refine q_take (.slice (some ⟨G3, 0, none⟩) c.length cap3) rfl (fun w' hw' => e_load 29 (.tmp 33) ⟨B4, 2, none⟩ _ rfl (Tryz.isAgg29 _) (hw'.cell b4_2)) ?_; simp only [Act.put, List.setIfInBounds_toArray, List.set_cons_succ, List.set_cons_zero]
            refine q_move _ (.slice (some ⟨gs, 0, none⟩) s.length cs) rfl rfl ?_; simp only [Act.put, List.setIfInBounds_toArray, List.set_cons_succ, List.set_cons_zero]
            refine q_move _ (.int .i64 p) rfl rfl ?_; simp only [Act.put, List.setIfInBounds_toArray, List.set_cons_succ, List.set_cons_zero]
            refine q_take (.pointer (some ⟨gs, p, none⟩)) rfl (fun w' hw' => e_val _ _ (Tryz.nsix gs s.length cs p hpl _)) ?_; simp only [Act.put, List.setIfInBounds_toArray, List.set_cons_succ, List.set_cons_zero]
            refine q_take (.int .i64 y) rfl (fun w' hw' => e_load 3 (.tmp 37) ⟨gs, p, none⟩ _ rfl (Tryz.isAgg3 _) (hw'.cell hcy)) ?_; simp only [Act.put, List.setIfInBounds_toArray, List.set_cons_succ, List.set_cons_zero]
            refine q_take (.pointer (some ⟨B1, 2, none⟩)) rfl (fun w' hw' => e_val _ _ (Tryz.tf2 B1 _)) ?_; simp only [Act.put, List.setIfInBounds_toArray, List.set_cons_succ, List.set_cons_zero]
            refine q_take (.slice (some ⟨G, 0, none⟩) c.length cap) rfl (fun w' hw' => e_load 29 (.tmp 39) ⟨B1, 2, none⟩ _ rfl (Tryz.isAgg29 _) (hw'.cell b1_2)) ?_; simp only [Act.put, List.setIfInBounds_toArray, List.set_cons_succ, List.set_cons_zero]
            refine q_move _ (.int .i64 x) rfl rfl ?_; simp only [Act.put, List.setIfInBounds_toArray, List.set_cons_succ, List.set_cons_zero]
            refine q_take (.pointer (some ⟨G, x, none⟩)) rfl (fun w' hw' => e_val _ _ (Tryz.six0 G c.length cap x hxl _)) ?_; simp only [Act.put, List.setIfInBounds_toArray, List.set_cons_succ, List.set_cons_zero]
            refine q_take (.int .u8 (at0 c x).toNat) rfl (fun w' hw' => e_load 5 (.tmp 42) ⟨G, x, none⟩ _ rfl (Tryz.isAgg5 _) (hw'.cell hcx)) ?_; simp only [Act.put, List.setIfInBounds_toArray, List.set_cons_succ, List.set_cons_zero]
            refine q_take (.pointer (some ⟨G3, y, none⟩)) rfl (fun w' hw' => e_val _ _ (Tryz.six0 G3 c.length cap3 y hyl _)) ?_; simp only [Act.put, List.setIfInBounds_toArray, List.set_cons_succ, List.set_cons_zero]
            refine wpQuiet_nil ?_
            intro w7 g7
            have b1 := g7.blk b1
            have b2 := g7.blk b2
            have b4 := g7.blk b4
            have own3 := g7.row own3
            have own := g7.row own
            have R := R.gr g7
            have ov := g7.row ov
            have gg := gg.trans g7
            go_wp2_with (refine r_store_own 5 5 _ _ G3 y c.length cap3 w.heap.size (cellsV (spTo c q s j)) rfl (byteV (at0 c x)) rfl own3 hyl Tryz.sizeOf5 rfl rfl ?_; intro w10 u10 own10; rw [cellsV_set, ← HST.out.2] at own10)
            have n1 : B1 ≠ G3 := fun e => own_ne own3 b1 (by decide) (by rw [e]; rfl)
            have n2 : B2 ≠ G3 := fun e => own_ne own3 b2 (by decide) (by rw [e]; rfl)
            have n4 : B4 ≠ G3 := fun e => own_ne own3 b4 (by decide) (by rw [e]; rfl)
            have ownA := u10.grb.row own (own_ne2 own own3 (by decide))
            have RA := R.grb own3 (by decide) u10.grb
            have ovA := u10.grb.row ov (own_ne2 ov own3 (by decide))
            go_roundw
            case rel => exact ⟨j + 1, by omega, by go_num, by (rw [HST.out.1]; go_num), u10.blk b1 n1, u10.blk b2 n2, u10.blk b4 n4, own10, ownA, RA, ovA, u10.gr gg lo3⟩
            case measure => simp [intOf]; omega
          · have hb' : ¬ isBallB (at0 c (s.getD j 0)) = true := by rw [← hx]; exact hb
            have HST := hidI (show nbTo c s (j + 1) = nbTo c s j ∧ spTo c q s (j + 1) = spTo c q s j from ⟨by rw [nbTo, if_neg hb']; rfl, by rw [spTo, if_neg hb']⟩)
            have HB := hidI (show isBallB (at0 c x) = false from by simpa using hb)
            clear hb hb' hx
            go_wp2_with (go_at_call 25; refine (tyBall_any _ _).mono ?_; rintro e wSame ⟨rfl, rfl⟩; rw [HB.out])
            go_roundw
            case rel => exact ⟨j + 1, by omega, by go_num, by rw [HST.out.1], b1, b2, b4, by rw [HST.out.2]; exact own3, own, R, ov, gg⟩
            case measure => simp [intOf]; omega
        · obtain rfl : j = s.length := by omega
          rw [← HT1.out] at own3
          clear hlj
          go_wp2
          go_roundw
          case rel => exact ⟨m + 1, by omega, by go_num, b1, b2, b4, own3, own, R, gg⟩
          case measure => simp [intOf]; omega
    · obtain rfl : m = L.length := by omega
      rw [List.take_length, ← HT.out] at own3
      have lo2 : w.heap.size ≤ B2 := by omega
      clear hlm
      go_wp2_with (first | (refine r_load_row 31 _ _ rfl _ _ _ b4 Tryz.underlying31 rfl Tryz.tinfo rfl ?_) | (refine r_store_row 31 31 _ _ B2 rfl (tg W H (.slice (some ⟨G3, 0, none⟩) c.length cap3)) _ rfl b2 Tryz.tsize rfl (tg_one rfl) rfl ?_; intro w17 u17 b17))
      refine bodyPost_ret (results_row rfl _ _ _ _ _ _ rfl b17 Tryz.underlying31 rfl Tryz.tinfo) rfl ?_
      have hlc : (tiltG d g).c.length = c.length := by rw [HT.out, spAll_length, HOL.out]
      refine ⟨u17.gr gg lo2, .slice (some ⟨G3, 0, none⟩) c.length cap3, rfl, ?_⟩
      rw [hlc]
      exact u17.row own3 (own_ne own3 b2 (by decide))
end Go.Proofs.YtpdmfbhjneodeaaGreatDoor
