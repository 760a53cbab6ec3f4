/-
  A puzzle read by the model, the laws' helpers, and the law of IsPuzzle.
-/
import Derived.Test.YtpdmfbhjneodeaaDoorPuzI
namespace Go.Proofs.YtpdmfbhjneodeaaDoor
open Go.RowKit
set_option maxHeartbeats 2000000 in
set_option maxRecDepth 100000 in
theorem puGood_any (s n : ByteArray) (z : Int) (w : World) (hs : s.size ≤ 1048576) : Calls Tryd.prog 27 #[.agg (pv s n z)] w (Ret (.bool (pzS s.data.toList n z).isSome) w) := by
  have gg := Gr.refl w
  go_enter Tryd.func27, Tryd.ntmps27
  go_wp2_with (refine r_box 23 _ (pv (s) (n) (z)) rfl rfl ?_; intro w1 B1 N1; have g1 := N1.gr; have b1 : Blk w1 B1 (pv (s) (n) (z)) 23 := N1.blk; have l1 := N1.lo; have t1 := N1.hi; have z1 := g1.size; have gg := gg.trans g1; clear N1; obtain ⟨b1_0, b1_1, b1_2⟩ := pcells b1)
  refine (tyRead_any s _ hs).mono ?_
  rintro e w2 ⟨g2, ⟨hp, rfl⟩ | ⟨g, sl, hp, rfl, hown⟩⟩
  · have HV := hidI (pz_notray n z hp)
    have b1 := g2.blk b1
    have z2 := g2.size
    have gg := gg.trans g2
    clear hp
    go_wp2_with (first | (refine r_alloc 85 _ Tryd.tzero rfl ?_; intro w3 B3 N3; have g3 := N3.gr; have b3 : Blk w3 B3 (tg 0 0 (.slice none 0 0)) 85 := N3.blk; have l3 := N3.lo; have t3 := N3.hi; have z3 := g3.size; have b1 := g3.blk b1; obtain ⟨b1_0, b1_1, b1_2⟩ := pcells b1; have gg := gg.trans g3; clear N3; obtain ⟨b3_0, b3_1, b3_2⟩ := tcells b3) | (refine r_store_row 85 85 _ _ _ rfl (tg _ _ _) _ rfl b3 Tryd.tsize rfl (tg_one rfl) rfl ?_; intro w4 u4 b3'; have z4 := u4.size; have gg := u4.gr gg (by omega); have b1 := u4.blk b1 (by omega); obtain ⟨b1_0, b1_1, b1_2⟩ := pcells b1; clear b3; have b3 := b3'; clear b3'; obtain ⟨b3_0, b3_1, b3_2⟩ := tcells b3))
    refine q_whole (by kernel_rfl) (by kernel_rfl) ?_
    refine q_take (.bool false) rfl (fun w' hw' => by first | rfl | (unfold execOp; simp [go_sem, Act.eval])) ?_
    simp only [Act.put, List.setIfInBounds_toArray, List.set_cons_succ, List.set_cons_zero]
    refine q_take (.bool true) rfl (fun w' hw' => by first | rfl | (unfold execOp; simp [go_sem, Act.eval])) ?_
    simp only [Act.put, List.setIfInBounds_toArray, List.set_cons_succ, List.set_cons_zero]
    refine q_take (.bool true) rfl (fun w' hw' => by first | rfl | (unfold execOp; simp [go_sem, Act.eval])) ?_
    simp only [Act.put, List.setIfInBounds_toArray, List.set_cons_succ, List.set_cons_zero]
    refine BigFrame.wpQuiet_skip rfl ?_
    simp only [Act.put, List.setIfInBounds_toArray, List.set_cons_succ, List.set_cons_zero]
    refine BigFrame.wpQuiet_skip rfl ?_
    simp only [Act.put, List.setIfInBounds_toArray, List.set_cons_succ, List.set_cons_zero]
    refine BigFrame.wpQuiet_skip rfl ?_
    simp only [Act.put, List.setIfInBounds_toArray, List.set_cons_succ, List.set_cons_zero]
    refine BigFrame.wpQuiet_skip rfl ?_
    simp only [Act.put, List.setIfInBounds_toArray, List.set_cons_succ, List.set_cons_zero]
    refine q_take (.bool true) rfl (fun w' hw' => by first | rfl | (unfold execOp; simp [go_sem, Act.eval])) ?_
    simp only [Act.put, List.setIfInBounds_toArray, List.set_cons_succ, List.set_cons_zero]
    refine q_take (.bool true) rfl (fun w' hw' => by first | rfl | (unfold execOp; simp [go_sem, Act.eval])) ?_
    simp only [Act.put, List.setIfInBounds_toArray, List.set_cons_succ, List.set_cons_zero]
    refine BigFrame.wpQuiet_skip rfl ?_
    simp only [Act.put, List.setIfInBounds_toArray, List.set_cons_succ, List.set_cons_zero]
    refine BigFrame.wpQuiet_skip rfl ?_
    simp only [Act.put, List.setIfInBounds_toArray, List.set_cons_succ, List.set_cons_zero]
    refine BigFrame.wpQuiet_skip rfl ?_
    simp only [Act.put, List.setIfInBounds_toArray, List.set_cons_succ, List.set_cons_zero]
    refine BigFrame.wpQuiet_skip rfl ?_
    simp only [Act.put, List.setIfInBounds_toArray, List.set_cons_succ, List.set_cons_zero]
    refine BigFrame.wpQuiet_skip rfl ?_
    simp only [Act.put, List.setIfInBounds_toArray, List.set_cons_succ, List.set_cons_zero]
    refine BigFrame.wpQuiet_skip rfl ?_
    simp only [Act.put, List.setIfInBounds_toArray, List.set_cons_succ, List.set_cons_zero]
    refine q_take (.bool true) rfl (fun w' hw' => by first | rfl | (unfold execOp; simp [go_sem, Act.eval])) ?_
    simp only [Act.put, List.setIfInBounds_toArray, List.set_cons_succ, List.set_cons_zero]
    refine wpQuiet_nil ?_
    intro wq gq
    have gg := gg.trans gq
    go_wp2
    go_ret
    exact ⟨ret_bool (by rw [HV.out]; rfl), gg⟩
  · obtain ⟨hc, hw1, hh1, hl⟩ := cel_of hp
    have b1 := g2.blk b1
    have z2 := g2.size
    have gg := gg.trans g2
    have hone := own_one hown
    have h36 : g.c.length ≤ 36 := by have := hc.len; have := hc.n36; omega
    cases hnm : nameS n with
    | false =>
      have HNM := hidI hnm
      have HV := hidI (pz_bad hp (pz_noname (z := z) hnm))
      clear hp hc hnm
      go_wp2_with (first | (refine r_alloc 85 _ Tryd.tzero rfl ?_; intro w3 B3 N3; have g3 := N3.gr; have b3 : Blk w3 B3 (tg 0 0 (.slice none 0 0)) 85 := N3.blk; have l3 := N3.lo; have t3 := N3.hi; have z3 := g3.size; have b1 := g3.blk b1; obtain ⟨b1_0, b1_1, b1_2⟩ := pcells b1; have gg := gg.trans g3; clear N3; obtain ⟨b3_0, b3_1, b3_2⟩ := tcells b3) | (refine r_store_row 85 85 _ _ _ rfl (tg _ _ _) _ rfl b3 Tryd.tsize rfl (tg_one hone) rfl ?_; intro w4 u4 b3'; have z4 := u4.size; have gg := u4.gr gg (by omega); have b1 := u4.blk b1 (by omega); obtain ⟨b1_0, b1_1, b1_2⟩ := pcells b1; clear b3; have b3 := b3'; clear b3'; obtain ⟨b3_0, b3_1, b3_2⟩ := tcells b3))
      refine q_whole (by kernel_rfl) (by kernel_rfl) ?_
      refine q_take (.bool true) rfl (fun w' hw' => by first | rfl | (unfold execOp; simp [go_sem, Act.eval])) ?_
      simp only [Act.put, List.setIfInBounds_toArray, List.set_cons_succ, List.set_cons_zero]
      refine q_take (.bool false) rfl (fun w' hw' => by first | rfl | (unfold execOp; simp [go_sem, Act.eval])) ?_
      simp only [Act.put, List.setIfInBounds_toArray, List.set_cons_succ, List.set_cons_zero]
      refine q_take (.bool false) rfl (fun w' hw' => by first | rfl | (unfold execOp; simp [go_sem, Act.eval])) ?_
      simp only [Act.put, List.setIfInBounds_toArray, List.set_cons_succ, List.set_cons_zero]
      refine q_take (.pointer (some ⟨B1, 1, none⟩)) rfl (fun w' hw' => e_val _ _ (Tryd.ipf1 _ _)) ?_; simp only [Act.put, List.setIfInBounds_toArray, List.set_cons_succ, List.set_cons_zero]
      refine q_take (.string n) rfl (fun w' hw' => e_load 9 (.tmp 14) _ _ rfl (Tryd.isAgg9 _) (hw'.cell b1_1)) ?_; simp only [Act.put, List.setIfInBounds_toArray, List.set_cons_succ, List.set_cons_zero]
      refine q_call 46 [.tmp 15] _ [.string n] (.bool false) Tryd.call46 rfl rfl (fun w' hw' => (reName_any n w').mono fun e w'' h => ⟨by rw [h.1, HNM.out], h.2 ▸ hw'⟩) ?_
      simp only [Act.put, List.setIfInBounds_toArray, List.set_cons_succ, List.set_cons_zero]
      refine q_take (.bool true) rfl (fun w' hw' => by first | rfl | (unfold execOp; simp [go_sem, Act.eval])) ?_
      simp only [Act.put, List.setIfInBounds_toArray, List.set_cons_succ, List.set_cons_zero]
      refine q_take (.bool true) rfl (fun w' hw' => by first | rfl | (unfold execOp; simp [go_sem, Act.eval])) ?_
      simp only [Act.put, List.setIfInBounds_toArray, List.set_cons_succ, List.set_cons_zero]
      refine q_take (.bool true) rfl (fun w' hw' => by first | rfl | (unfold execOp; simp [go_sem, Act.eval])) ?_
      simp only [Act.put, List.setIfInBounds_toArray, List.set_cons_succ, List.set_cons_zero]
      refine BigFrame.wpQuiet_skip rfl ?_
      simp only [Act.put, List.setIfInBounds_toArray, List.set_cons_succ, List.set_cons_zero]
      refine BigFrame.wpQuiet_skip rfl ?_
      simp only [Act.put, List.setIfInBounds_toArray, List.set_cons_succ, List.set_cons_zero]
      refine BigFrame.wpQuiet_skip rfl ?_
      simp only [Act.put, List.setIfInBounds_toArray, List.set_cons_succ, List.set_cons_zero]
      refine BigFrame.wpQuiet_skip rfl ?_
      simp only [Act.put, List.setIfInBounds_toArray, List.set_cons_succ, List.set_cons_zero]
      refine BigFrame.wpQuiet_skip rfl ?_
      simp only [Act.put, List.setIfInBounds_toArray, List.set_cons_succ, List.set_cons_zero]
      refine BigFrame.wpQuiet_skip rfl ?_
      simp only [Act.put, List.setIfInBounds_toArray, List.set_cons_succ, List.set_cons_zero]
      refine q_take (.bool true) rfl (fun w' hw' => by first | rfl | (unfold execOp; simp [go_sem, Act.eval])) ?_
      simp only [Act.put, List.setIfInBounds_toArray, List.set_cons_succ, List.set_cons_zero]
      refine wpQuiet_nil ?_
      intro wq gq
      have gg := gg.trans gq
      go_wp2
      go_ret
      exact ⟨ret_bool (by rw [HV.out]; rfl), gg⟩
    | true =>
      have HNM := hidI hnm
      have hnm' := hnm
      unfold nameS at hnm'
      rw [Bool.and_eq_true, decide_eq_true_eq] at hnm'
      have hn1 := one_of n hnm'.1
      obtain ⟨b, hb⟩ : ∃ b, hd n = b := ⟨_, rfl⟩
      obtain ⟨x, hx⟩ : ∃ x, x = ixC g.c b g.c.length := ⟨_, rfl⟩
      have HC := hidI (show decide (0 ≤ x) = !(cnt g.c (hd n) g.c.length == 0) from by rw [hx, hb]; exact ix_cnt g.c b g.c.length)
      obtain ⟨G, cap, rfl, -, -⟩ := own_shape hown hl
      have HX := hidI hx
      have HB := hidI hb
      have HP := hidI hp
      rw [hb] at hn1
      have HN1 := hidI hn1
      clear hp hc hnm hnm' hb hx hn1
      go_wp2_with (first | (refine r_alloc 85 _ Tryd.tzero rfl ?_; intro w3 B3 N3; have g3 := N3.gr; have b3 : Blk w3 B3 (tg 0 0 (.slice none 0 0)) 85 := N3.blk; have l3 := N3.lo; have t3 := N3.hi; have z3 := g3.size; have b1 := g3.blk b1; obtain ⟨b1_0, b1_1, b1_2⟩ := pcells b1; have gg := gg.trans g3; clear N3; obtain ⟨b3_0, b3_1, b3_2⟩ := tcells b3) | (refine r_store_row 85 85 _ _ _ rfl (tg _ _ _) _ rfl b3 Tryd.tsize rfl (tg_one hone) rfl ?_; intro w4 u4 b3'; have z4 := u4.size; have gg := u4.gr gg (by omega); have b1 := u4.blk b1 (by omega); obtain ⟨b1_0, b1_1, b1_2⟩ := pcells b1; clear b3; have b3 := b3'; clear b3'; obtain ⟨b3_0, b3_1, b3_2⟩ := tcells b3))
      have own := u4.row (g3.row hown) (own_new hown l3)
      refine q_whole (by kernel_rfl) (by kernel_rfl) ?_
      refine q_take (.bool true) rfl (fun w' hw' => by first | rfl | (unfold execOp; simp [go_sem, Act.eval])) ?_
      simp only [Act.put, List.setIfInBounds_toArray, List.set_cons_succ, List.set_cons_zero]
      refine q_take (.bool false) rfl (fun w' hw' => by first | rfl | (unfold execOp; simp [go_sem, Act.eval])) ?_
      simp only [Act.put, List.setIfInBounds_toArray, List.set_cons_succ, List.set_cons_zero]
      refine q_take (.bool false) rfl (fun w' hw' => by first | rfl | (unfold execOp; simp [go_sem, Act.eval])) ?_
      simp only [Act.put, List.setIfInBounds_toArray, List.set_cons_succ, List.set_cons_zero]
      refine q_take (.pointer (some ⟨B1, 1, none⟩)) rfl (fun w' hw' => e_val _ _ (Tryd.ipf1 _ _)) ?_; simp only [Act.put, List.setIfInBounds_toArray, List.set_cons_succ, List.set_cons_zero]
      refine q_take (.string n) rfl (fun w' hw' => e_load 9 (.tmp 14) _ _ rfl (Tryd.isAgg9 _) (hw'.cell b1_1)) ?_; simp only [Act.put, List.setIfInBounds_toArray, List.set_cons_succ, List.set_cons_zero]
      refine q_call 46 [.tmp 15] _ [.string n] (.bool true) Tryd.call46 rfl rfl (fun w' hw' => (reName_any n w').mono fun e w'' h => ⟨by rw [h.1, HNM.out], h.2 ▸ hw'⟩) ?_
      simp only [Act.put, List.setIfInBounds_toArray, List.set_cons_succ, List.set_cons_zero]
      refine q_take (.bool false) rfl (fun w' hw' => by first | rfl | (unfold execOp; simp [go_sem, Act.eval])) ?_
      simp only [Act.put, List.setIfInBounds_toArray, List.set_cons_succ, List.set_cons_zero]
      refine q_take (.bool false) rfl (fun w' hw' => by first | rfl | (unfold execOp; simp [go_sem, Act.eval])) ?_
      simp only [Act.put, List.setIfInBounds_toArray, List.set_cons_succ, List.set_cons_zero]
      refine q_take (.bool false) rfl (fun w' hw' => by first | rfl | (unfold execOp; simp [go_sem, Act.eval])) ?_
      simp only [Act.put, List.setIfInBounds_toArray, List.set_cons_succ, List.set_cons_zero]
      refine q_take (.agg (tg g.w g.h (.slice (some ⟨G, 0, Option.none⟩) g.c.length cap))) rfl (fun w' hw' => e_load_row 85 (.tmp 3) B3 _ _ _ rfl (hw'.blk b3) Tryd.underlying85 rfl Tryd.tinfo) ?_
      simp only [Act.put, List.setIfInBounds_toArray, List.set_cons_succ, List.set_cons_zero]
      refine q_take (.pointer (some ⟨B1, 1, none⟩)) rfl (fun w' hw' => e_val _ _ (Tryd.ipf1 _ _)) ?_; simp only [Act.put, List.setIfInBounds_toArray, List.set_cons_succ, List.set_cons_zero]
      refine q_take (.string n) rfl (fun w' hw' => e_load 9 (.tmp 21) _ _ rfl (Tryd.isAgg9 _) (hw'.cell b1_1)) ?_; simp only [Act.put, List.setIfInBounds_toArray, List.set_cons_succ, List.set_cons_zero]
      refine q_take (.int .u8 b.toNat) rfl (fun w' hw' => e_val _ _ (by rw [show (Act.eval _ (.tmp 22)) = Value.string n from rfl, HN1.out]; exact s_idx0 Tryd.underlying9 b _)) ?_
      simp only [Act.put, List.setIfInBounds_toArray, List.set_cons_succ, List.set_cons_zero]
      refine q_call 47 [.tmp 20, .tmp 23] _ [.agg (tg g.w g.h (.slice (some ⟨G, 0, Option.none⟩) g.c.length cap)), .int .u8 b.toNat] (.int .i64 x) Tryd.call47 rfl rfl (fun w' hw' => (tiPlace_any g.w g.h w.heap.size g.c b G cap w' h36 (own_up (hw'.row own) (by omega))).mono fun e w'' h => ⟨by rw [HX.out]; exact h.1, hw'.trans h.2⟩) ?_
      simp only [Act.put, List.setIfInBounds_toArray, List.set_cons_succ, List.set_cons_zero]
      by_cases hneg : x < 0
      · have HV := hidI (pz_bad HP.out (pz_noball (n := n) (z := z) (by
          have := HC.out
          rw [decide_eq_false (by omega)] at this
          simpa using this)))
        have hdec : decide (x < 0) = true := decide_eq_true hneg
        refine q_take (.bool true) rfl (fun w' hw' => e_lssC _ _ _ _ _ rfl rfl hdec) ?_
        simp only [Act.put, List.setIfInBounds_toArray, List.set_cons_succ, List.set_cons_zero]
        refine q_take (.bool true) rfl (fun w' hw' => by first | rfl | (unfold execOp; simp [go_sem, Act.eval])) ?_
        simp only [Act.put, List.setIfInBounds_toArray, List.set_cons_succ, List.set_cons_zero]
        refine wpQuiet_nil ?_
        intro wq gq
        have gg := gg.trans gq
        go_wp2
        go_ret
        exact ⟨ret_bool (by rw [HV.out]; rfl), gg⟩
      · have HCN := hidI (show ¬ cnt g.c (hd n) g.c.length = 0 from by
          have := HC.out
          rw [decide_eq_true (by omega)] at this
          intro h
          rw [h] at this
          cases this)
        have hdec : decide (x < 0) = false := decide_eq_false hneg
        refine q_take (.bool false) rfl (fun w' hw' => e_lssC _ _ _ _ _ rfl rfl hdec) ?_
        simp only [Act.put, List.setIfInBounds_toArray, List.set_cons_succ, List.set_cons_zero]
        refine q_take (.bool false) rfl (fun w' hw' => by first | rfl | (unfold execOp; simp [go_sem, Act.eval])) ?_
        simp only [Act.put, List.setIfInBounds_toArray, List.set_cons_succ, List.set_cons_zero]
        refine wpQuiet_nil ?_
        intro wq gq
        have b1 := gq.blk b1
        have b3 := gq.blk b3
        have own := gq.row own
        have gg := gg.trans gq
        clear hneg hdec
        obtain ⟨b1_0, b1_1, b1_2⟩ := pcells b1
        obtain ⟨b3_0, b3_1, b3_2⟩ := tcells b3
        cases hin : inB z g.c.length with
        | false =>
          have HV := hidI (pz_bad HP.out (pz_nocell (n := n) hin))
          have HIN := hidI (show btw z 0 ((g.c.length : Int) - 1) = false from by rw [btw_inB]; exact hin)
          clear hin
          go_wp2_with (go_at_call 38; refine (l1In_any _ _ _ _).mono ?_; rintro e wSame ⟨rfl, rfl⟩; rw [HIN.out])
          go_ret
          exact ⟨ret_bool (by rw [HV.out]; rfl), gg⟩
        | true =>
          obtain ⟨k, rfl⟩ : ∃ k : Nat, z = k := ⟨z.toNat, by have := (inB_true.1 hin).1; omega⟩
          have hk := (inB_true.1 hin).2
          have hk' : k < g.c.length := by omega
          have hck := own_cell own k hk' rfl
          have hix := Tryd.six0 G g.c.length cap k hk'
          have HIN := hidI (show btw (k : Int) 0 ((g.c.length : Int) - 1) = true from by rw [btw_inB]; exact hin)
          clear hin
          by_cases hb35 : at0 g.c k = 35
          · have HV := hidI (pz_bad HP.out (pz_wall (n := n) hb35))
            have e1 : (((at0 g.c k).toNat : Int) == 35) = true := by rw [hb35]; rfl
            clear hb35
            go_wp2_with (go_at_call 38; refine (l1In_any _ _ _ _).mono ?_; rintro e wSame ⟨rfl, rfl⟩; rw [HIN.out])
            go_ret
            exact ⟨ret_bool (by rw [HV.out]; show (!(((at0 g.c k).toNat : Int) == 35)) = _; rw [e1]; rfl), gg⟩
          · have HV := hidI (pz_good HP.out (pz_ok HNM.out HCN.out hk' hb35))
            have e1 : (((at0 g.c k).toNat : Int) == 35) = false := by
              rw [beq_eq_false_iff_ne]
              intro e
              exact hb35 (UInt8.toNat_inj.1 (by have h35 : (35 : UInt8).toNat = 35 := rfl; omega))
            clear hb35
            go_wp2_with (go_at_call 38; refine (l1In_any _ _ _ _).mono ?_; rintro e wSame ⟨rfl, rfl⟩; rw [HIN.out])
            go_ret
            exact ⟨ret_bool (by rw [HV.out]; show (!(((at0 g.c k).toNat : Int) == 35)) = _; rw [e1]; rfl), gg⟩
/-! the laws' helpers -/
def szZ (a b : Nat) : Int := if 1048576 < a + b then -1 else 1048576 - (a : Int) - b
set_option maxHeartbeats 1000000 in
theorem eqPuzzle_same (s n : ByteArray) (z : Int) (w : World) : Calls Tryd.prog 7 #[.agg (pv s n z), .agg (pv s n z)] w (Ret (.bool true) w) := by
  have gg := Gr.refl w
  go_enter Tryd.func7, Tryd.ntmps7
  go_wp2_with (first | (refine r_box (dst := some 2) 23 _ (pv (s) (n) (z)) rfl rfl ?_; intro w2 B2 N2; have g2 := N2.gr; have b2 : Blk w2 B2 (pv (s) (n) (z)) 23 := N2.blk; have l2 := N2.lo; have t2 := N2.hi; have z2 := g2.size; have gg := gg.trans g2; clear N2; obtain ⟨b2_0, b2_1, b2_2⟩ := pcells b2) | (refine r_box (dst := some 3) 23 _ (pv (s) (n) (z)) rfl rfl ?_; intro w3 B3 N3; have g3 := N3.gr; have b3 : Blk w3 B3 (pv (s) (n) (z)) 23 := N3.blk; have l3 := N3.lo; have t3 := N3.hi; have z3 := g3.size; have b2 := g3.blk b2; obtain ⟨b2_0, b2_1, b2_2⟩ := pcells b2; have gg := gg.trans g3; clear N3; obtain ⟨b3_0, b3_1, b3_2⟩ := pcells b3))
  go_ret
  exact ⟨rfl, gg⟩
end Go.Proofs.YtpdmfbhjneodeaaDoor
