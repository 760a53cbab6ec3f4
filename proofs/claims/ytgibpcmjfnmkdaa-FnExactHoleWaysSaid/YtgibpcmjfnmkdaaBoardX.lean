/-
  Boards: the laws on whether it is one, and on the hole.
-/
import Derived.Test.YtgibpcmjfnmkdaaBBb
import Derived.Test.YtgibpcmjfnmkdaaBKit
import Derived.Test.YtgibpcmjfnmkdaaPlace
namespace Go.Proofs.Ytgibpcmjfnmkdaa
open Go.RowKit
theorem rdB_cases (z : Int) (L : List Int) : (bdOk z L = false ∧ rdV z L = lv 0 0 []) ∨ ∃ W H : Nat, z = W ∧ bdOk z L = true ∧ rdV z L = lv W H L ∧ L.length = nn W H ∧ 1 ≤ W ∧ W ≤ 3 ∧ 1 ≤ H ∧ H ≤ 3 ∧ hasAll L = true := by
  by_cases h : bdOk z L = true
  · obtain ⟨⟨W, H, rfl, h2, h3, h4, h5, h6⟩, h7⟩ := bdOk_iff.1 h
    exact .inr ⟨W, H, rfl, h, rdV_good h2 h3 h, h2, h3, h4, h5, h6, h7⟩
  · have h' : bdOk z L = false := by simpa using h
    exact .inl ⟨h', rdV_bad h'⟩
set_option maxHeartbeats 400000 in
set_option maxRecDepth 100000 in
theorem iIsBoard (z : Int) (L : List Int) (v : Value) (base : Nat) (w : World) (hown : w.ownsRow base 3 1 v L.length (intsV L)) (hl : L.length ≤ 1048576) :
    Calls Try.prog 17 #[.agg (bv z v)] w (Ret (.bool (bdOk z L)) w) := by
  have gg := Gr.refl w
  have HOWN := hidI hown
  obtain ⟨p, m, q, rfl⟩ := own_slice hown
  clear hown
  rcases rdB_cases z L with ⟨h1, h2⟩ | ⟨W, H, rfl, h1, h2, hn, -⟩
  · have HV := hidI h1
    have HR := hidI h2
    clear h1 h2
    go_enter Try.func17, Try.ntmps17
    go_wp2_with (first | (refine r_box 27 _ (bv (z) (.slice p m q)) rfl rfl ?_; intro w1 B1 N1; have g1 := N1.gr; have b1 : Blk w1 B1 (bv (z) (.slice p m q)) 27 := N1.blk; have l1 := N1.lo; have t1 := N1.hi; have z1 := g1.size; have gg := gg.trans g1; clear N1; obtain ⟨b1_0, b1_1⟩ := bcells b1) | (refine r_load_row 27 _ _ rfl _ _ _ b1 Try.underlying27 rfl Try.ibinfo rfl ?_) | (go_at_call 47; refine (readBoard_any z L _ base _ (gg.row HOWN.out) hl).mono ?_; rintro e w2 ⟨rfl, g2⟩; rw [HR.out, HV.out]; have z2 := g2.size; have gg := gg.trans g2) | (refine r_alloc 52 _ Try.lzero rfl ?_; intro w3 B3 N3; have g3 := N3.gr; have b3 : Blk w3 B3 (lv 0 0 []) 52 := N3.blk; have l3 := N3.lo; have t3 := N3.hi; have z3 := g3.size; have gg := gg.trans g3; clear N3; obtain ⟨b3_0, b3_1, b3_2⟩ := lcells b3) | (refine r_store_row 52 52 _ _ _ rfl (lv (0) (0) ([])) _ rfl b3 (Try.lsize' _ _ _) (by simp only [lv_size]) (lv_one _ _ _) rfl ?_; intro w4 u4 b3'; have z4 := u4.size; have gg := u4.gr gg (by omega); clear b3; have b3 := b3'; clear b3'; obtain ⟨b3_0, b3_1, b3_2⟩ := lcells b3))
    go_ret
    exact ⟨ret_bool (by rw [HV.out] <;> (first | rfl | (simp; done) | (simp; omega))), gg⟩
  · have HV := hidI h1
    have HR := hidI h2
    clear h1 h2 hn
    go_enter Try.func17, Try.ntmps17
    go_wp2_with (first | (refine r_box 27 _ (bv (W) (.slice p m q)) rfl rfl ?_; intro w1 B1 N1; have g1 := N1.gr; have b1 : Blk w1 B1 (bv (W) (.slice p m q)) 27 := N1.blk; have l1 := N1.lo; have t1 := N1.hi; have z1 := g1.size; have gg := gg.trans g1; clear N1; obtain ⟨b1_0, b1_1⟩ := bcells b1) | (refine r_load_row 27 _ _ rfl _ _ _ b1 Try.underlying27 rfl Try.ibinfo rfl ?_) | (go_at_call 47; refine (readBoard_any W L _ base _ (gg.row HOWN.out) hl).mono ?_; rintro e w2 ⟨rfl, g2⟩; rw [HR.out, HV.out]; have z2 := g2.size; have gg := gg.trans g2) | (refine r_alloc 52 _ Try.lzero rfl ?_; intro w3 B3 N3; have g3 := N3.gr; have b3 : Blk w3 B3 (lv 0 0 []) 52 := N3.blk; have l3 := N3.lo; have t3 := N3.hi; have z3 := g3.size; have gg := gg.trans g3; clear N3; obtain ⟨b3_0, b3_1, b3_2⟩ := lcells b3) | (refine r_store_row 52 52 _ _ _ rfl (lv (W) (H) (L)) _ rfl b3 (Try.lsize' _ _ _) (by simp only [lv_size]) (lv_one _ _ _) rfl ?_; intro w4 u4 b3'; have z4 := u4.size; have gg := u4.gr gg (by omega); clear b3; have b3 := b3'; clear b3'; obtain ⟨b3_0, b3_1, b3_2⟩ := lcells b3))
    go_ret
    exact ⟨ret_bool (by rw [HV.out] <;> (first | rfl | (simp; done) | (simp; omega))), gg⟩
set_option maxHeartbeats 400000 in
theorem sIsBoard (z : Int) (L : List Int) (v : Value) (base : Nat) (w : World) (hown : w.ownsRow base 3 1 v L.length (intsV L)) (hl : L.length ≤ 1048576) :
    Calls Try.prog 15 #[.agg (bv z v)] w (Ret (.bool (bdOk z L)) w) := by
  have gg := Gr.refl w
  have HOWN := hidI hown
  obtain ⟨p, m, q, rfl⟩ := own_slice hown
  clear hown
  go_enter Try.func15, Try.ntmps15
  go_wp2_with (first | (refine r_box 27 _ (bv (z) (.slice p m q)) rfl rfl ?_; intro w1 B1 N1; have g1 := N1.gr; have b1 : Blk w1 B1 (bv (z) (.slice p m q)) 27 := N1.blk; have l1 := N1.lo; have t1 := N1.hi; have z1 := g1.size; have gg := gg.trans g1; clear N1; obtain ⟨b1_0, b1_1⟩ := bcells b1) | (refine r_load_row 27 _ _ rfl _ _ _ b1 Try.underlying27 rfl Try.ibinfo rfl ?_) | (go_at_call 45; refine (blGood_any z L _ base _ (gg.row HOWN.out) hl).mono ?_; rintro e w2 ⟨rfl, g2⟩; have z2 := g2.size; have gg := gg.trans g2))
  go_ret
  exact ⟨rfl, gg⟩
set_option maxHeartbeats 1000000 in
set_option maxRecDepth 100000 in
theorem lawIsBoard (z : Int) (v : Value) (L : List Int) (w : World) (hs : Sl w v L) (hbig : L.length ≤ 9223372036854775807) : Calls Try.prog 3 #[.agg (bv z v)] w (Ret (.bool true) w) := by
  have gg := Gr.refl w
  obtain ⟨p, c, rfl, hr⟩ := hs
  by_cases hl : 1048576 < L.length
  · have HZ := hidI (show szR L.length = -1 from if_pos hl)
    go_enter Try.func3, Try.ntmps3
    go_wp2_with (first | (refine r_box 24 _ (bv (z) (.slice p L.length c)) rfl rfl ?_; intro w1 B1 N1; have g1 := N1.gr; have b1 : Blk w1 B1 (bv (z) (.slice p L.length c)) 24 := N1.blk; have l1 := N1.lo; have t1 := N1.hi; have z1 := g1.size; have gg := gg.trans g1; clear N1; obtain ⟨b1_0, b1_1⟩ := bcells b1) | (refine r_load_row 24 _ _ rfl _ _ _ b1 Try.underlying24 rfl Try.lbinfo rfl ?_) | (go_at_call 14; refine (szBoard_any z p L.length c _ hbig).mono ?_; rintro e w2 ⟨rfl, g2⟩; rw [HZ.out]; have z2 := g2.size; have gg := gg.trans g2))
    go_ret
    exact ⟨rfl, gg⟩
  · have hl : L.length ≤ 1048576 := by omega
    have HZ := hidI (show szR L.length = 1048576 - (L.length : Int) from if_neg (by omega))
    have HR := hidI hr
    obtain ⟨ok, hok⟩ : ∃ ok, ok = bdOk z L := ⟨_, rfl⟩
    have HOK := hidI hok
    clear hr hok
    go_enter Try.func3, Try.ntmps3
    go_wp2_with (first | (refine r_box 24 _ (bv (z) (.slice p L.length c)) rfl rfl ?_; intro w1 B1 N1; have g1 := N1.gr; have b1 : Blk w1 B1 (bv (z) (.slice p L.length c)) 24 := N1.blk; have l1 := N1.lo; have t1 := N1.hi; have z1 := g1.size; have gg := gg.trans g1; clear N1; obtain ⟨b1_0, b1_1⟩ := bcells b1) | (refine r_load_row 24 _ _ rfl _ _ _ b1 Try.underlying24 rfl Try.lbinfo rfl ?_) | (go_at_call 14; refine (szBoard_any z p L.length c _ hbig).mono ?_; rintro e w2 ⟨rfl, g2⟩; rw [HZ.out]; have z2 := g2.size; have b1 := g2.blk b1; have gg := gg.trans g2))
    refine (toBoard_any z p c L _ (HR.out.gr gg) hl).mono ?_
    rintro e w3 ⟨g3, v3, rfl, own3⟩
    have b1 := g3.blk b1
    have z3 := g3.size
    have gg := gg.trans g3
    go_wp2_with (first | (go_at_call 15; refine (sIsBoard z L v3 _ _ own3 hl).mono ?_; rintro e w4 ⟨rfl, g4⟩; rw [← HOK.out]; have z4 := g4.size; have b1 := g4.blk b1; have gg := gg.trans g4) | (refine r_load_row 24 _ _ rfl _ _ _ b1 Try.underlying24 rfl Try.lbinfo rfl ?_))
    refine (toBoard_any z p c L _ (HR.out.gr gg) hl).mono ?_
    rintro e w5 ⟨g5, v5, rfl, own5⟩
    have b1 := g5.blk b1
    have z5 := g5.size
    have gg := gg.trans g5
    have hone := own_one own5
    go_wp2_with (first | ((refine r_alloc 27 _ Try.ibzero rfl ?_; intro w5 B5 N5; have g5 := N5.gr; have b5 : Blk w5 B5 (bv 0 (.slice none 0 0)) 27 := N5.blk; have l5 := N5.lo; have t5 := N5.hi; have z5 := g5.size; have b1 := g5.blk b1; have gg := gg.trans g5; clear N5; obtain ⟨b5_0, b5_1⟩ := bcells b5); have own5 := g5.row own5) | (have hne5 := own_ne own5 b5 (by decide); (refine r_store_row 27 27 _ _ _ rfl (bv (z) (v5)) _ rfl b5 Try.ibsize rfl (bv_one (hone)) rfl ?_; intro w6 u6 b5'; have z6 := u6.size; have gg := u6.gr gg (by omega); have b1 := u6.blk b1 (by omega); clear b5; have b5 := b5'; clear b5'; obtain ⟨b5_0, b5_1⟩ := bcells b5); have own5 := u6.row own5 hne5) | (refine r_load_row 27 _ _ rfl _ _ _ b5 Try.underlying27 rfl Try.ibinfo rfl ?_) | ((go_at_call 17; refine (iIsBoard z L v5 _ _ own5 hl).mono ?_; rintro e w7 ⟨rfl, g7⟩; rw [← HOK.out]; have z7 := g7.size; have b1 := g7.blk b1; have b5 := g7.blk b5; have gg := gg.trans g7); have own5 := g7.row own5))
    refine F_begin (fun w => Blk w B5 (bv z v5) 27) 3 5 #[false, false, false, false, false] rfl (by kernel_rfl) (by kernel_rfl) ?_
    have gd := (Gr.refl w7).drew
    have b1 := gd.blk b1
    have b5 := gd.blk b5
    have own5 := gd.row own5
    have gg := gg.trans gd
    have zd := gd.size
    generalize (w7).drew = wd at *
    refine F_take (v := .agg (bv z v5)) 0 #[true, false, false, false, false] rfl (by kernel_rfl) (fun _ _ _ h => h) rfl (fun w hF => e_load_row 27 (.tmp 5) _ _ _ _ rfl hF Try.underlying27 rfl Try.ibinfo) (b5) ?_; simp only [Act.put, List.setIfInBounds_toArray, List.set_cons_succ, List.set_cons_zero]
    refine F_one 1 #[true, true, false, false, false] rfl (by kernel_rfl) ?_
    (refine r_load_row 24 _ _ rfl _ _ _ b1 Try.underlying24 rfl Try.lbinfo rfl ?_)
    refine ⟨fun _ => b5, ?_⟩
    simp only [Act.put, List.setIfInBounds_toArray, List.set_cons_succ, List.set_cons_zero]
    refine F_one 2 #[true, true, true, false, false] rfl (by kernel_rfl) ?_
    refine r_callx 16 [.tmp 23] _ [.agg (bv z (.slice p L.length c))] (fun v w' => Gr wd w' ∧ ∃ u, v = .agg (bv z u) ∧ w'.ownsRow wd.heap.size 3 1 u L.length (intsV L)) Try.call16 rfl rfl ((toBoard_any z p c L _ (HR.out.gr gg) hl).mono fun e w' h => by obtain ⟨g, v, h1, h2⟩ := h; exact ⟨_, h1, g, v, rfl, h2⟩) ?_
    rintro _ w8 ⟨g8, v8, rfl, own8⟩
    have b5 := g8.blk b5
    have own5 := g8.row own5
    have gg := gg.trans g8
    refine ⟨fun _ => b5, ?_⟩
    simp only [Act.put, List.setIfInBounds_toArray, List.set_cons_succ, List.set_cons_zero]
    refine F_one 3 #[true, true, true, true, false] rfl (by kernel_rfl) ?_
    refine r_call 18 [.tmp 22, .tmp 24] _ [.agg (bv z v5), .agg (bv z v8)] (.bool true) (fun w' => Gr w8 w') Try.call18 rfl rfl (eqBoard_same z L v5 v8 _ _ w8 own5 own8 hl) ?_
    intro w9 g9
    have gg := gg.trans g9
    refine ⟨fun h => (by cases h), ?_⟩
    simp only [Act.put, List.setIfInBounds_toArray, List.set_cons_succ, List.set_cons_zero]
    refine F_one 4 #[true, true, true, true, true] rfl (by kernel_rfl) ?_
    refine r_val (.bool false) rfl rfl ?_
    refine ⟨fun h => (by cases h), ?_⟩
    simp only [Act.put, List.setIfInBounds_toArray, List.set_cons_succ, List.set_cons_zero]
    refine F_done (by kernel_rfl) ?_
    go_wp2
    go_ret
    exact ⟨rfl, gg⟩
end Go.Proofs.Ytgibpcmjfnmkdaa
