/-
  The law of BoardText.
-/
import Derived.Test.YtdebiobhmpoiiaaDoorBtxS
namespace Go.Proofs.YtdebiobhmpoiiaaDoor
open Go.RowKit
set_option maxHeartbeats 1000000 in
set_option maxRecDepth 100000 in
theorem sBoardText (z : Int) (L : List Int) (v : Value) (base : Nat) (w : World) (hown : w.ownsRow base 3 1 v L.length (intsV L)) (hl : L.length ≤ 1048576) :
    Calls Tryd.prog 24 #[.agg (bv z v)] w (Ret (.tuple #[.string (btS z L), .bool (bdOk z L)]) w) := by
  have gg := Gr.refl w
  obtain ⟨p, k, rfl⟩ := own_slB hown
  have HOWN := hidI hown
  have HBG := hidI (fun w' (g : Gr w w') => blGood_any z L _ base w' (g.row hown) hl)
  clear hown
  by_cases hok : bdOk z L = true
  · obtain ⟨⟨W, H, rfl, hnn, hw1, hw3, hh1, hh3⟩, hall⟩ := bdOk_iff.1 hok
    have h9 : L.length ≤ 9 := by
      have : W * H ≤ 3 * 3 := Nat.mul_le_mul hw3 hh3
      rw [hnn]
      exact this
    have h0 : 0 < L.length := by
      have : 1 * 1 ≤ W * H := Nat.mul_le_mul hw1 hh1
      rw [hnn]
      exact this
    have HV := hidI (show (⟨(mtT L W L.length).toArray⟩ : ByteArray) = btS W L ∧ true = bdOk W L from ⟨by
      rw [btS_good hnn hw1 hok, show L.length = H * W from hnn.trans (Nat.mul_comm W H), mtT_rows L hw1 H]
      rfl, hok.symm⟩)
    have HBT := hidI (fun w' (g : Gr w w') => blText_any W L _ base w' (g.row HOWN.out) hw1 h9 h0 (fun i hi => by
      have := hasAll_lt hall i hi
      omega))
    rw [hok] at HBG
    obtain ⟨n, hn⟩ : ∃ n, n = L.length := ⟨_, rfl⟩
    rw [← hn] at HBG HBT HV ⊢
    clear hok hnn h9 h0 hall hn hl
    go_enter Tryd.func24, Tryd.ntmps24
    go_wp2_with (first | (refine r_box 45 _ (bv (W) (.slice p n k)) rfl rfl ?_; intro w1 B1 N1; have g1 := N1.gr; have b1 : Blk w1 B1 (bv (W) (.slice p n k)) 45 := N1.blk; have l1 := N1.lo; have t1 := N1.hi; have z1 := g1.size; have gg := gg.trans g1; clear N1; obtain ⟨b1_0, b1_1⟩ := bcells b1) | (refine r_load_row 45 _ _ rfl _ _ _ b1 Tryd.underlying45 rfl Tryd.ibinfo rfl ?_) | (go_at_call 48; refine (HBG.out _ gg).mono ?_; rintro e w2 ⟨rfl, g2⟩; have z2 := g2.size; have b1 := g2.blk b1; have gg := gg.trans g2) | (go_at_call 49; refine (HBT.out _ gg).mono ?_; rintro e w3 ⟨rfl, g3⟩; have z3 := g3.size; have b1 := g3.blk b1; have gg := gg.trans g3))
    go_ret2
    exact ⟨ret_bt HV.out.1 HV.out.2, gg⟩
  · have hok : bdOk z L = false := by simpa using hok
    have HV := hidI (show (⟨#[]⟩ : ByteArray) = btS z L ∧ false = bdOk z L from ⟨(btS_bad hok).symm, hok.symm⟩)
    rw [hok] at HBG
    obtain ⟨n, hn⟩ : ∃ n, n = L.length := ⟨_, rfl⟩
    rw [← hn] at HBG ⊢
    clear hok hn hl
    go_enter Tryd.func24, Tryd.ntmps24
    go_wp2_with (first | (refine r_box 45 _ (bv (z) (.slice p n k)) rfl rfl ?_; intro w1 B1 N1; have g1 := N1.gr; have b1 : Blk w1 B1 (bv (z) (.slice p n k)) 45 := N1.blk; have l1 := N1.lo; have t1 := N1.hi; have z1 := g1.size; have gg := gg.trans g1; clear N1; obtain ⟨b1_0, b1_1⟩ := bcells b1) | (refine r_load_row 45 _ _ rfl _ _ _ b1 Tryd.underlying45 rfl Tryd.ibinfo rfl ?_) | (go_at_call 48; refine (HBG.out _ gg).mono ?_; rintro e w2 ⟨rfl, g2⟩; have z2 := g2.size; have b1 := g2.blk b1; have gg := gg.trans g2))
    go_ret2
    exact ⟨ret_bt HV.out.1 HV.out.2, gg⟩
set_option maxHeartbeats 1000000 in
set_option maxRecDepth 100000 in
theorem lawBoardText (z : Int) (v : Value) (L : List Int) (w : World) (hs : Sl w v L) (hbig : L.length ≤ 9223372036854775807) : Calls Tryd.prog 8 #[.agg (bv z v)] w (Ret (.bool true) w) := by
  have gg := Gr.refl w
  obtain ⟨p, c, rfl, hr⟩ := hs
  by_cases hl : 1048576 < L.length
  · have HZ := hidI (show szR L.length = -1 from if_pos hl)
    go_enter Tryd.func8, Tryd.ntmps8
    go_wp2_with (first | (refine r_box 42 _ (bv (z) (.slice p L.length c)) rfl rfl ?_; intro w1 B1 N1; have g1 := N1.gr; have b1 : Blk w1 B1 (bv (z) (.slice p L.length c)) 42 := N1.blk; have l1 := N1.lo; have t1 := N1.hi; have z1 := g1.size; have gg := gg.trans g1; clear N1; obtain ⟨b1_0, b1_1⟩ := bcells b1) | (refine r_load_row 42 _ _ rfl _ _ _ b1 Tryd.underlying42 rfl Tryd.lbinfo rfl ?_) | (go_at_call 23; refine (szBoard_any z p L.length c _ hbig).mono ?_; rintro e w2 ⟨rfl, g2⟩; rw [HZ.out]; have z2 := g2.size; have gg := gg.trans g2))
    go_ret
    exact ⟨rfl, gg⟩
  · have hl : L.length ≤ 1048576 := by omega
    have HZ := hidI (show szR L.length = 1048576 - (L.length : Int) from if_neg (by omega))
    have HR := hidI hr
    obtain ⟨ok, hok⟩ : ∃ ok, ok = bdOk z L := ⟨_, rfl⟩
    obtain ⟨val, hval⟩ : ∃ val, val = btS z L := ⟨_, rfl⟩
    have HOK := hidI hok
    have HVAL := hidI hval
    clear hr hok hval
    go_enter Tryd.func8, Tryd.ntmps8
    go_wp2_with (first | (refine r_box 42 _ (bv (z) (.slice p L.length c)) rfl rfl ?_; intro w1 B1 N1; have g1 := N1.gr; have b1 : Blk w1 B1 (bv (z) (.slice p L.length c)) 42 := N1.blk; have l1 := N1.lo; have t1 := N1.hi; have z1 := g1.size; have gg := gg.trans g1; clear N1; obtain ⟨b1_0, b1_1⟩ := bcells b1) | (refine r_load_row 42 _ _ rfl _ _ _ b1 Tryd.underlying42 rfl Tryd.lbinfo rfl ?_) | (go_at_call 23; refine (szBoard_any z p L.length c _ hbig).mono ?_; rintro e w2 ⟨rfl, g2⟩; rw [HZ.out]; have z2 := g2.size; have b1 := g2.blk b1; have gg := gg.trans g2))
    refine (toBoard_any z p c L _ (HR.out.gr gg) hl).mono ?_
    rintro e w3 ⟨g3, v3, rfl, own3⟩
    have b1 := g3.blk b1
    have z3 := g3.size
    have gg := gg.trans g3
    go_wp2_with (first | (go_at_call 24; refine (sBoardText z L v3 _ _ own3 hl).mono ?_; rintro e w4 ⟨rfl, g4⟩; rw [← HOK.out, ← HVAL.out]; have z4 := g4.size; have b1 := g4.blk b1; have gg := gg.trans g4) | (refine r_load_row 42 _ _ rfl _ _ _ b1 Tryd.underlying42 rfl Tryd.lbinfo rfl ?_))
    refine (toBoard_any z p c L _ (HR.out.gr gg) hl).mono ?_
    rintro e w5 ⟨g5, v5, rfl, own5⟩
    have b1 := g5.blk b1
    have z5 := g5.size
    have gg := gg.trans g5
    have hone := own_one own5
    go_wp2_with (first | ((refine r_alloc 45 _ Tryd.ibzero rfl ?_; intro w5 B5 N5; have g5 := N5.gr; have b5 : Blk w5 B5 (bv 0 (.slice none 0 0)) 45 := N5.blk; have l5 := N5.lo; have t5 := N5.hi; have z5 := g5.size; have b1 := g5.blk b1; have gg := gg.trans g5; clear N5; obtain ⟨b5_0, b5_1⟩ := bcells b5); have own5 := g5.row own5) | (have hne5 := own_ne own5 b5 (by decide); (refine r_store_row 45 45 _ _ _ rfl (bv (z) (v5)) _ rfl b5 Tryd.ibsize rfl (bv_one (hone)) rfl ?_; intro w6 u6 b5'; have z6 := u6.size; have gg := u6.gr gg (by omega); have b1 := u6.blk b1 (by omega); clear b5; have b5 := b5'; clear b5'; obtain ⟨b5_0, b5_1⟩ := bcells b5); have own5 := u6.row own5 hne5) | (refine r_load_row 45 _ _ rfl _ _ _ b5 Tryd.underlying45 rfl Tryd.ibinfo rfl ?_) | ((go_at_call 26; refine (iBoardText z L v5 _ _ own5 hl).mono ?_; rintro e w7 ⟨rfl, g7⟩; rw [← HOK.out, ← HVAL.out]; have z7 := g7.size; have b1 := g7.blk b1; have b5 := g7.blk b5; have gg := gg.trans g7); have own5 := g7.row own5))
    refine F_begin (fun w => Blk w B5 (bv z v5) 45) 3 5 #[false, false, false, false, false] rfl (by kernel_rfl) (by kernel_rfl) ?_
    have gd := (Gr.refl w7).drew
    have b1 := gd.blk b1
    have b5 := gd.blk b5
    have own5 := gd.row own5
    have gg := gg.trans gd
    have zd := gd.size
    generalize (w7).drew = wd at *
    refine F_take (v := .agg (bv z v5)) 0 #[true, false, false, false, false] rfl (by kernel_rfl) (fun _ _ _ h => h) rfl (fun w hF => e_load_row 45 (.tmp 6) _ _ _ _ rfl hF Tryd.underlying45 rfl Tryd.ibinfo) (b5) ?_; simp only [Act.put, List.setIfInBounds_toArray, List.set_cons_succ, List.set_cons_zero]
    refine F_one 1 #[true, true, false, false, false] rfl (by kernel_rfl) ?_
    (refine r_load_row 42 _ _ rfl _ _ _ b1 Tryd.underlying42 rfl Tryd.lbinfo rfl ?_)
    refine ⟨fun _ => b5, ?_⟩
    simp only [Act.put, List.setIfInBounds_toArray, List.set_cons_succ, List.set_cons_zero]
    refine F_one 2 #[true, true, true, false, false] rfl (by kernel_rfl) ?_
    refine r_callx 25 [.tmp 36] _ [.agg (bv z (.slice p L.length c))] (fun v w' => Gr wd w' ∧ ∃ u, v = .agg (bv z u) ∧ w'.ownsRow wd.heap.size 3 1 u L.length (intsV L)) Tryd.call25 rfl rfl ((toBoard_any z p c L _ (HR.out.gr gg) hl).mono fun e w' h => by obtain ⟨g, v, h1, h2⟩ := h; exact ⟨_, h1, g, v, rfl, h2⟩) ?_
    rintro _ w8 ⟨g8, v8, rfl, own8⟩
    have b5 := g8.blk b5
    have own5 := g8.row own5
    have gg := gg.trans g8
    refine ⟨fun _ => b5, ?_⟩
    simp only [Act.put, List.setIfInBounds_toArray, List.set_cons_succ, List.set_cons_zero]
    refine F_one 3 #[true, true, true, true, false] rfl (by kernel_rfl) ?_
    refine r_call 27 [.tmp 35, .tmp 37] _ [.agg (bv z v5), .agg (bv z v8)] (.bool true) (fun w' => Gr w8 w') Tryd.call27 rfl rfl (eqBoard_same z L v5 v8 _ _ w8 own5 own8 hl) ?_
    intro w9 g9
    have gg := gg.trans g9
    refine ⟨fun h => (by cases h), ?_⟩
    simp only [Act.put, List.setIfInBounds_toArray, List.set_cons_succ, List.set_cons_zero]
    refine F_one 4 #[true, true, true, true, true] rfl (by kernel_rfl) ?_
    refine r_val (.bool false) rfl rfl ?_
    refine ⟨fun h => (by cases h), ?_⟩
    simp only [Act.put, List.setIfInBounds_toArray, List.set_cons_succ, List.set_cons_zero]
    refine F_done (by kernel_rfl) ?_
    go_wp2
    go_ret
    exact ⟨rfl, gg⟩
end Go.Proofs.YtdebiobhmpoiiaaDoor
