/-
  Moves of the hole in the program.
-/
import Derived.Test.YtgibpcmjfnmkdaaDoorBoardY
namespace Go.Proofs.YtgibpcmjfnmkdaaDoor
open Go.RowKit
/-- The layout behind a move. -/
def mvV (W H : Nat) (L : List Int) (d : Nat) : Array Value := match ahd W H (hI L) d with | none => lv 0 0 [] | some q => lv W H (mvL L (hI L) q)
theorem mvV_none {W H : Nat} {L : List Int} {d : Nat} (h : ahd W H (hI L) d = none) : mvV W H L d = lv 0 0 [] ∧ (ahd W H (hI L) d).isSome = false := by unfold mvV; rw [h]; exact ⟨rfl, rfl⟩
theorem mvV_some {W H : Nat} {L : List Int} {d q : Nat} (h : ahd W H (hI L) d = some q) : mvV W H L d = lv W H (mvL L (hI L) q) ∧ (ahd W H (hI L) d).isSome = true := by unfold mvV; rw [h]; exact ⟨rfl, rfl⟩
/-- The cases of a move: the hole at x, y. -/
theorem ahd_cases {W H P : Nat} (hW : 1 ≤ W) (hP : P < nn W H) : ∃ x y : Nat, P = nn W y + x ∧ P % W = x ∧ P / W = y ∧ x < W ∧ y < H ∧
    ((y = 0 → ahd W H P 0 = none) ∧ (∀ Y, y = Y + 1 → ahd W H P 0 = some (nn W Y + x))) ∧
    ((¬ x + 1 < W → ahd W H P 1 = none) ∧ (x + 1 < W → ahd W H P 1 = some (nn W y + (x + 1)))) ∧
    ((¬ y + 1 < H → ahd W H P 2 = none) ∧ (y + 1 < H → ahd W H P 2 = some (nn W (y + 1) + x))) ∧
    ((x = 0 → ahd W H P 3 = none) ∧ (∀ X, x = X + 1 → ahd W H P 3 = some (nn W y + X))) := by
  have h1 := Nat.div_add_mod P W
  have h2 := Nat.mod_lt P (show 0 < W by omega)
  have h3 : P / W < H := (Nat.div_lt_iff_lt_mul (by omega)).2 (by unfold nn at hP; rw [Nat.mul_comm]; exact hP)
  refine ⟨P % W, P / W, by unfold nn; omega, rfl, rfl, h2, h3, ⟨fun h => ?_, fun Y h => ?_⟩, ⟨fun h => ?_, fun h => ?_⟩, ⟨fun h => ?_, fun h => ?_⟩, ⟨fun h => ?_, fun X h => ?_⟩⟩
  · unfold ahd; rw [if_pos rfl, if_pos h]
  · unfold ahd; rw [if_pos rfl, if_neg (by omega)]
    congr 1
    unfold nn
    rw [h, Nat.mul_add] at h1
    omega
  · unfold ahd; rw [if_neg (by decide), if_pos rfl, if_neg h]
  · unfold ahd; rw [if_neg (by decide), if_pos rfl, if_pos h]
    congr 1
    unfold nn
    omega
  · unfold ahd; rw [if_neg (by decide), if_neg (by decide), if_pos rfl, if_neg h]
  · unfold ahd; rw [if_neg (by decide), if_neg (by decide), if_pos rfl, if_pos h]
    congr 1
    unfold nn
    rw [Nat.mul_add]
    omega
  · unfold ahd; rw [if_neg (by decide), if_neg (by decide), if_neg (by decide), if_pos h]
  · unfold ahd; rw [if_neg (by decide), if_neg (by decide), if_neg (by decide), if_neg (by omega)]
    congr 1
    unfold nn
    omega
set_option maxHeartbeats 1000000 in
set_option maxRecDepth 100000 in
theorem moved_u (W H : Nat) (L : List Int) (w : World) (hW : 1 ≤ W) (hW3 : W ≤ 3) (hH3 : H ≤ 3) (hl : L.length = nn W H) (h0 : (0 : Int) ∈ L) :
    Calls Tryd.prog 34 #[.agg (lv W H L), .int .u8 117] w (Ret (.tuple #[.agg (mvV W H L (dI 117).toNat), .bool (ahd W H (hI L) (dI 117).toNat).isSome]) w) := by
  have gg := Gr.refl w
  have h9 : nn W H ≤ 9 := Nat.mul_le_mul hW3 hH3
  have hPl := (hI_spec h0).1
  obtain ⟨P, hP⟩ : ∃ P, P = hI L := ⟨_, rfl⟩
  rw [hl, ← hP] at hPl
  obtain ⟨x, y, hPe, e1, e3, hx, hy, ⟨c0, c0'⟩, ⟨c1, c1'⟩, ⟨c2, c2'⟩, ⟨c3, c3'⟩⟩ := ahd_cases (H := H) hW hPl
  have e1 : Int.tmod (P : Int) (W : Int) = (x : Int) := by rw [tmod_nat, e1]
  have e3 : Int.tdiv (P : Int) (W : Int) = (y : Int) := by rw [tdiv_nat, e3]
  have hne' : W ≠ 0 := by omega
  have HL := hidI hl
  have H0 := hidI h0
  have HP := hidI hP.symm
  clear hl h0
  by_cases hy0 : y = 0
  · subst hy0
    have hn : ahd W H (hI L) (dI 117).toNat = none := by rw [← hP]; exact c0 rfl
    have HR := hidI (mvV_none hn).1
    have HV := hidI (mvV_none hn).2
    clear c0 c0' c1 c1' c2 c2' c3 c3' hn hPe
    rw [hP] at e1 e3
    go_enter Tryd.func34, Tryd.ntmps34
    go_wp2_with (first | (refine r_box 46 _ (lv (W) (H) (L)) rfl rfl ?_; intro w1 B1 N1; have g1 := N1.gr; have b1 : Blk w1 B1 (lv (W) (H) (L)) 46 := N1.blk; have l1 := N1.lo; have t1 := N1.hi; have z1 := g1.size; have gg := gg.trans g1; clear N1; obtain ⟨b1_0, b1_1, b1_2⟩ := lcells b1) | (refine r_alloc 46 _ Tryd.lzero rfl ?_; intro w2 B2 N2; have g2 := N2.gr; have b2 : Blk w2 B2 (lv 0 0 []) 46 := N2.blk; have l2 := N2.lo; have t2 := N2.hi; have z2 := g2.size; have b1 := g2.blk b1; obtain ⟨b1_0, b1_1, b1_2⟩ := lcells b1; have gg := gg.trans g2; clear N2; obtain ⟨b2_0, b2_1, b2_2⟩ := lcells b2) | (refine r_load_row 46 _ _ rfl _ _ _ b1 Tryd.underlying46 rfl (Tryd.linfo' _ _ _) rfl ?_) | (go_at_call 53; refine (holeIn_any W H L _ h9 HL.out H0.out).mono ?_; rintro e w3 ⟨rfl, g3⟩; have z3 := g3.size; have b1 := g3.blk b1; obtain ⟨b1_0, b1_1, b1_2⟩ := lcells b1; have b2 := g3.blk b2; obtain ⟨b2_0, b2_1, b2_2⟩ := lcells b2; have gg := gg.trans g3))
    go_quiet (fail)
    have gq9 := (Gr.refl w3).drewN nq; have b1 := gq9.blk b1; obtain ⟨b1_0, b1_1, b1_2⟩ := lcells b1; have b2 := gq9.blk b2; obtain ⟨b2_0, b2_1, b2_2⟩ := lcells b2; have gg := gg.trans gq9; have zq9 := gq9.size; generalize w3.drewN nq = w9 at *; clear gq9
    go_wp2_with (first | (refine r_build 46 [] [] _ (Tryd.lbuild0 _) rfl rfl ?_) | (refine r_store_row 46 46 _ _ _ rfl (lv (0) (0) ([])) _ rfl b2 (Tryd.lsize' _ _ _) (by simp only [lv_size]) (lv_one _ _ _) rfl ?_; intro w4 u4 b2'; have z4 := u4.size; have gg := u4.gr gg (by omega); clear b2; have b2 := b2'; clear b2'; obtain ⟨b2_0, b2_1, b2_2⟩ := lcells b2))
    rw [← HR.out] at b2
    refine bodyPost_ret (results_row_bool rfl _ _ _ _ _ _ rfl b2 Tryd.underlying46 rfl (by rw [HR.out]; exact Tryd.linfo' _ _ _)) rfl ?_
    exact ⟨by rw [HV.out]; rfl, gg⟩
  · obtain ⟨Y, rfl⟩ : ∃ Y, y = Y + 1 := ⟨y - 1, by omega⟩
    obtain ⟨q, hq⟩ : ∃ q, q = nn W Y + x := ⟨_, rfl⟩
    have hn : ahd W H (hI L) (dI 117).toNat = some q := by rw [← hP, hq]; exact c0' Y rfl
    have hR := mvV_some hn
    rw [← hP] at hR
    have HR := hidI hR.1
    have HV := hidI (mvV_some hn).2
    have hql := (ahd_lt hW hPl (by rw [hP]; exact hn)).1
    obtain ⟨m, hm⟩ : ∃ m, m = nn W Y := ⟨_, rfl⟩
    have e4 : (Y : Int) * (W : Int) = (m : Int) := by rw [hm, nn_int, Int.mul_comm]
    have hqe : (q : Int) = (m : Int) + (x : Int) := by omega
    clear c0 c0' c1 c1' c2 c2' c3 c3' hn hPe hR hm hq
    have hq9 : q < 9 := by omega
    have hp9 : P < 9 := by omega
    have HS1 := hidI (lv_set (W : Int) (H : Int) L P (gi L q) hp9 (by rw [HL.out]; omega))
    have HS2 := hidI (show (lv (W : Int) (H : Int) (L.set P (gi L q))).setIfInBounds (2 + q) (.int .i64 0) = lv W H (mvL L P q) from lv_set (W : Int) (H : Int) (L.set P (gi L q)) q 0 hq9 (by rw [List.length_set, HL.out]; omega))
    have HQE := hidI hqe
    have hm9 : m ≤ 9 := by omega
    clear hqe hP
    go_enter Tryd.func34, Tryd.ntmps34
    go_wp2_with (first | (refine r_box 46 _ (lv (W) (H) (L)) rfl rfl ?_; intro w1 B1 N1; have g1 := N1.gr; have b1 : Blk w1 B1 (lv (W) (H) (L)) 46 := N1.blk; have l1 := N1.lo; have t1 := N1.hi; have z1 := g1.size; have gg := gg.trans g1; clear N1; obtain ⟨b1_0, b1_1, b1_2⟩ := lcells b1) | (refine r_alloc 46 _ Tryd.lzero rfl ?_; intro w2 B2 N2; have g2 := N2.gr; have b2 : Blk w2 B2 (lv 0 0 []) 46 := N2.blk; have l2 := N2.lo; have t2 := N2.hi; have z2 := g2.size; have b1 := g2.blk b1; obtain ⟨b1_0, b1_1, b1_2⟩ := lcells b1; have gg := gg.trans g2; clear N2; obtain ⟨b2_0, b2_1, b2_2⟩ := lcells b2) | (refine r_load_row 46 _ _ rfl _ _ _ b1 Tryd.underlying46 rfl (Tryd.linfo' _ _ _) rfl ?_) | ((go_at_call 53; refine (holeIn_any W H L _ h9 HL.out H0.out).mono ?_; rintro e w3 ⟨rfl, g3⟩; rw [HP.out]; have z3 := g3.size; have b1 := g3.blk b1; obtain ⟨b1_0, b1_1, b1_2⟩ := lcells b1; have b2 := g3.blk b2; obtain ⟨b2_0, b2_1, b2_2⟩ := lcells b2; have gg := gg.trans g3)))
    go_quiet (fail)
    have gq9 := (Gr.refl w3).drewN nq; have b1 := gq9.blk b1; obtain ⟨b1_0, b1_1, b1_2⟩ := lcells b1; have b2 := gq9.blk b2; obtain ⟨b2_0, b2_1, b2_2⟩ := lcells b2; have gg := gg.trans gq9; have zq9 := gq9.size; generalize w3.drewN nq = w9 at *; clear gq9
    have hcq := b1_2 q hq9
    have hiq := Tryd.lix B1 q hq9
    have hip := Tryd.lix B1 P hp9
    rw [HQE.out] at hiq
    go_wp2_with (first | (refine r_store_cell 3 46 _ _ B1 (2 + q) rfl (.int .i64 (0)) rfl _ b1 (by rw [lv_size]; omega) Tryd.sizeOf3 rfl rfl ?_; intro w6 u6 b1'; rw [(HS2).out] at b1'; have z6 := u6.size; have gg := u6.gr gg (by omega); have b2 := u6.blk b2 (by omega); obtain ⟨b2_0, b2_1, b2_2⟩ := lcells b2; clear b1; have b1 := b1'; clear b1'; obtain ⟨b1_0, b1_1, b1_2⟩ := lcells b1) | (refine r_store_cell 3 46 _ _ B1 (2 + P) rfl (.int .i64 (gi L q)) rfl _ b1 (by rw [lv_size]; omega) Tryd.sizeOf3 rfl rfl ?_; intro w5 u5 b1'; rw [(HS1).out] at b1'; have z5 := u5.size; have gg := u5.gr gg (by omega); have b2 := u5.blk b2 (by omega); obtain ⟨b2_0, b2_1, b2_2⟩ := lcells b2; clear b1; have b1 := b1'; clear b1'; obtain ⟨b1_0, b1_1, b1_2⟩ := lcells b1) | (refine r_load_row 46 _ _ rfl _ _ _ b1 Tryd.underlying46 rfl (Tryd.linfo' _ _ _) rfl ?_) | (refine r_store_row 46 46 _ _ _ rfl (lv (W) (H) (mvL L P q)) _ rfl b2 (Tryd.lsize' _ _ _) (by simp only [lv_size]) (lv_one _ _ _) rfl ?_; intro w7 u7 b2'; have z7 := u7.size; have gg := u7.gr gg (by omega); clear b2; have b2 := b2'; clear b2'; obtain ⟨b2_0, b2_1, b2_2⟩ := lcells b2))
    rw [← HR.out] at b2
    refine bodyPost_ret (results_row_bool rfl _ _ _ _ _ _ rfl b2 Tryd.underlying46 rfl (by rw [HR.out]; exact Tryd.linfo' _ _ _)) rfl ?_
    exact ⟨by rw [HV.out]; rfl, gg⟩
set_option maxHeartbeats 1000000 in
set_option maxRecDepth 100000 in
theorem moved_r (W H : Nat) (L : List Int) (w : World) (hW : 1 ≤ W) (hW3 : W ≤ 3) (hH3 : H ≤ 3) (hl : L.length = nn W H) (h0 : (0 : Int) ∈ L) :
    Calls Tryd.prog 34 #[.agg (lv W H L), .int .u8 114] w (Ret (.tuple #[.agg (mvV W H L (dI 114).toNat), .bool (ahd W H (hI L) (dI 114).toNat).isSome]) w) := by
  have gg := Gr.refl w
  have h9 : nn W H ≤ 9 := Nat.mul_le_mul hW3 hH3
  have hPl := (hI_spec h0).1
  obtain ⟨P, hP⟩ : ∃ P, P = hI L := ⟨_, rfl⟩
  rw [hl, ← hP] at hPl
  obtain ⟨x, y, hPe, e1, e3, hx, hy, ⟨c0, c0'⟩, ⟨c1, c1'⟩, ⟨c2, c2'⟩, ⟨c3, c3'⟩⟩ := ahd_cases (H := H) hW hPl
  have e1 : Int.tmod (P : Int) (W : Int) = (x : Int) := by rw [tmod_nat, e1]
  have e3 : Int.tdiv (P : Int) (W : Int) = (y : Int) := by rw [tdiv_nat, e3]
  have hne' : W ≠ 0 := by omega
  have HL := hidI hl
  have H0 := hidI h0
  have HP := hidI hP.symm
  clear hl h0
  by_cases hx1 : x + 1 < W
  · obtain ⟨q, hq⟩ : ∃ q, q = nn W y + (x + 1) := ⟨_, rfl⟩
    have hn : ahd W H (hI L) (dI 114).toNat = some q := by rw [← hP, hq]; exact c1' hx1
    have hR := mvV_some hn
    rw [← hP] at hR
    have HR := hidI hR.1
    have HV := hidI (mvV_some hn).2
    have hql := (ahd_lt hW hPl (by rw [hP]; exact hn)).1
    obtain ⟨m, hm⟩ : ∃ m, m = nn W y := ⟨_, rfl⟩
    have e4 : (y : Int) * (W : Int) = (m : Int) := by rw [hm, nn_int, Int.mul_comm]
    have hqe : (q : Int) = (m : Int) + ((x : Int) + 1) := by omega
    clear c0 c0' c1 c1' c2 c2' c3 c3' hn hPe hR hm hq
    have hq9 : q < 9 := by omega
    have hp9 : P < 9 := by omega
    have HS1 := hidI (lv_set (W : Int) (H : Int) L P (gi L q) hp9 (by rw [HL.out]; omega))
    have HS2 := hidI (show (lv (W : Int) (H : Int) (L.set P (gi L q))).setIfInBounds (2 + q) (.int .i64 0) = lv W H (mvL L P q) from lv_set (W : Int) (H : Int) (L.set P (gi L q)) q 0 hq9 (by rw [List.length_set, HL.out]; omega))
    have HQE := hidI hqe
    have hm9 : m ≤ 9 := by omega
    clear hqe hP
    go_enter Tryd.func34, Tryd.ntmps34
    go_wp2_with (first | (refine r_box 46 _ (lv (W) (H) (L)) rfl rfl ?_; intro w1 B1 N1; have g1 := N1.gr; have b1 : Blk w1 B1 (lv (W) (H) (L)) 46 := N1.blk; have l1 := N1.lo; have t1 := N1.hi; have z1 := g1.size; have gg := gg.trans g1; clear N1; obtain ⟨b1_0, b1_1, b1_2⟩ := lcells b1) | (refine r_alloc 46 _ Tryd.lzero rfl ?_; intro w2 B2 N2; have g2 := N2.gr; have b2 : Blk w2 B2 (lv 0 0 []) 46 := N2.blk; have l2 := N2.lo; have t2 := N2.hi; have z2 := g2.size; have b1 := g2.blk b1; obtain ⟨b1_0, b1_1, b1_2⟩ := lcells b1; have gg := gg.trans g2; clear N2; obtain ⟨b2_0, b2_1, b2_2⟩ := lcells b2) | (refine r_load_row 46 _ _ rfl _ _ _ b1 Tryd.underlying46 rfl (Tryd.linfo' _ _ _) rfl ?_) | ((go_at_call 53; refine (holeIn_any W H L _ h9 HL.out H0.out).mono ?_; rintro e w3 ⟨rfl, g3⟩; rw [HP.out]; have z3 := g3.size; have b1 := g3.blk b1; obtain ⟨b1_0, b1_1, b1_2⟩ := lcells b1; have b2 := g3.blk b2; obtain ⟨b2_0, b2_1, b2_2⟩ := lcells b2; have gg := gg.trans g3)))
    go_quiet (fail)
    have gq9 := (Gr.refl w3).drewN nq; have b1 := gq9.blk b1; obtain ⟨b1_0, b1_1, b1_2⟩ := lcells b1; have b2 := gq9.blk b2; obtain ⟨b2_0, b2_1, b2_2⟩ := lcells b2; have gg := gg.trans gq9; have zq9 := gq9.size; generalize w3.drewN nq = w9 at *; clear gq9
    have hcq := b1_2 q hq9
    have hiq := Tryd.lix B1 q hq9
    have hip := Tryd.lix B1 P hp9
    rw [HQE.out] at hiq
    go_wp2_with (first | (refine r_store_cell 3 46 _ _ B1 (2 + q) rfl (.int .i64 (0)) rfl _ b1 (by rw [lv_size]; omega) Tryd.sizeOf3 rfl rfl ?_; intro w6 u6 b1'; rw [(HS2).out] at b1'; have z6 := u6.size; have gg := u6.gr gg (by omega); have b2 := u6.blk b2 (by omega); obtain ⟨b2_0, b2_1, b2_2⟩ := lcells b2; clear b1; have b1 := b1'; clear b1'; obtain ⟨b1_0, b1_1, b1_2⟩ := lcells b1) | (refine r_store_cell 3 46 _ _ B1 (2 + P) rfl (.int .i64 (gi L q)) rfl _ b1 (by rw [lv_size]; omega) Tryd.sizeOf3 rfl rfl ?_; intro w5 u5 b1'; rw [(HS1).out] at b1'; have z5 := u5.size; have gg := u5.gr gg (by omega); have b2 := u5.blk b2 (by omega); obtain ⟨b2_0, b2_1, b2_2⟩ := lcells b2; clear b1; have b1 := b1'; clear b1'; obtain ⟨b1_0, b1_1, b1_2⟩ := lcells b1) | (refine r_load_row 46 _ _ rfl _ _ _ b1 Tryd.underlying46 rfl (Tryd.linfo' _ _ _) rfl ?_) | (refine r_store_row 46 46 _ _ _ rfl (lv (W) (H) (mvL L P q)) _ rfl b2 (Tryd.lsize' _ _ _) (by simp only [lv_size]) (lv_one _ _ _) rfl ?_; intro w7 u7 b2'; have z7 := u7.size; have gg := u7.gr gg (by omega); clear b2; have b2 := b2'; clear b2'; obtain ⟨b2_0, b2_1, b2_2⟩ := lcells b2))
    rw [← HR.out] at b2
    refine bodyPost_ret (results_row_bool rfl _ _ _ _ _ _ rfl b2 Tryd.underlying46 rfl (by rw [HR.out]; exact Tryd.linfo' _ _ _)) rfl ?_
    exact ⟨by rw [HV.out]; rfl, gg⟩
  · have hn : ahd W H (hI L) (dI 114).toNat = none := by rw [← hP]; exact c1 hx1
    have HR := hidI (mvV_none hn).1
    have HV := hidI (mvV_none hn).2
    clear c0 c0' c1 c1' c2 c2' c3 c3' hn hPe
    rw [hP] at e1 e3
    go_enter Tryd.func34, Tryd.ntmps34
    go_wp2_with (first | (refine r_box 46 _ (lv (W) (H) (L)) rfl rfl ?_; intro w1 B1 N1; have g1 := N1.gr; have b1 : Blk w1 B1 (lv (W) (H) (L)) 46 := N1.blk; have l1 := N1.lo; have t1 := N1.hi; have z1 := g1.size; have gg := gg.trans g1; clear N1; obtain ⟨b1_0, b1_1, b1_2⟩ := lcells b1) | (refine r_alloc 46 _ Tryd.lzero rfl ?_; intro w2 B2 N2; have g2 := N2.gr; have b2 : Blk w2 B2 (lv 0 0 []) 46 := N2.blk; have l2 := N2.lo; have t2 := N2.hi; have z2 := g2.size; have b1 := g2.blk b1; obtain ⟨b1_0, b1_1, b1_2⟩ := lcells b1; have gg := gg.trans g2; clear N2; obtain ⟨b2_0, b2_1, b2_2⟩ := lcells b2) | (refine r_load_row 46 _ _ rfl _ _ _ b1 Tryd.underlying46 rfl (Tryd.linfo' _ _ _) rfl ?_) | (go_at_call 53; refine (holeIn_any W H L _ h9 HL.out H0.out).mono ?_; rintro e w3 ⟨rfl, g3⟩; have z3 := g3.size; have b1 := g3.blk b1; obtain ⟨b1_0, b1_1, b1_2⟩ := lcells b1; have b2 := g3.blk b2; obtain ⟨b2_0, b2_1, b2_2⟩ := lcells b2; have gg := gg.trans g3))
    go_quiet (fail)
    have gq9 := (Gr.refl w3).drewN nq; have b1 := gq9.blk b1; obtain ⟨b1_0, b1_1, b1_2⟩ := lcells b1; have b2 := gq9.blk b2; obtain ⟨b2_0, b2_1, b2_2⟩ := lcells b2; have gg := gg.trans gq9; have zq9 := gq9.size; generalize w3.drewN nq = w9 at *; clear gq9
    go_wp2_with (first | (refine r_build 46 [] [] _ (Tryd.lbuild0 _) rfl rfl ?_) | (refine r_store_row 46 46 _ _ _ rfl (lv (0) (0) ([])) _ rfl b2 (Tryd.lsize' _ _ _) (by simp only [lv_size]) (lv_one _ _ _) rfl ?_; intro w4 u4 b2'; have z4 := u4.size; have gg := u4.gr gg (by omega); clear b2; have b2 := b2'; clear b2'; obtain ⟨b2_0, b2_1, b2_2⟩ := lcells b2))
    rw [← HR.out] at b2
    refine bodyPost_ret (results_row_bool rfl _ _ _ _ _ _ rfl b2 Tryd.underlying46 rfl (by rw [HR.out]; exact Tryd.linfo' _ _ _)) rfl ?_
    exact ⟨by rw [HV.out]; rfl, gg⟩
set_option maxHeartbeats 1000000 in
set_option maxRecDepth 100000 in
theorem moved_d (W H : Nat) (L : List Int) (w : World) (hW : 1 ≤ W) (hW3 : W ≤ 3) (hH3 : H ≤ 3) (hl : L.length = nn W H) (h0 : (0 : Int) ∈ L) :
    Calls Tryd.prog 34 #[.agg (lv W H L), .int .u8 100] w (Ret (.tuple #[.agg (mvV W H L (dI 100).toNat), .bool (ahd W H (hI L) (dI 100).toNat).isSome]) w) := by
  have gg := Gr.refl w
  have h9 : nn W H ≤ 9 := Nat.mul_le_mul hW3 hH3
  have hPl := (hI_spec h0).1
  obtain ⟨P, hP⟩ : ∃ P, P = hI L := ⟨_, rfl⟩
  rw [hl, ← hP] at hPl
  obtain ⟨x, y, hPe, e1, e3, hx, hy, ⟨c0, c0'⟩, ⟨c1, c1'⟩, ⟨c2, c2'⟩, ⟨c3, c3'⟩⟩ := ahd_cases (H := H) hW hPl
  have e1 : Int.tmod (P : Int) (W : Int) = (x : Int) := by rw [tmod_nat, e1]
  have e3 : Int.tdiv (P : Int) (W : Int) = (y : Int) := by rw [tdiv_nat, e3]
  have hne' : W ≠ 0 := by omega
  have HL := hidI hl
  have H0 := hidI h0
  have HP := hidI hP.symm
  clear hl h0
  by_cases hy1 : y + 1 < H
  · obtain ⟨q, hq⟩ : ∃ q, q = nn W (y + 1) + x := ⟨_, rfl⟩
    have hn : ahd W H (hI L) (dI 100).toNat = some q := by rw [← hP, hq]; exact c2' hy1
    have hR := mvV_some hn
    rw [← hP] at hR
    have HR := hidI hR.1
    have HV := hidI (mvV_some hn).2
    have hql := (ahd_lt hW hPl (by rw [hP]; exact hn)).1
    obtain ⟨m, hm⟩ : ∃ m, m = nn W (y + 1) := ⟨_, rfl⟩
    have e4 : ((y : Int) + 1) * (W : Int) = (m : Int) := by rw [hm, nn_int, Int.mul_comm]; rfl
    have hqe : (q : Int) = (m : Int) + (x : Int) := by omega
    clear c0 c0' c1 c1' c2 c2' c3 c3' hn hPe hR hm hq
    have hq9 : q < 9 := by omega
    have hp9 : P < 9 := by omega
    have HS1 := hidI (lv_set (W : Int) (H : Int) L P (gi L q) hp9 (by rw [HL.out]; omega))
    have HS2 := hidI (show (lv (W : Int) (H : Int) (L.set P (gi L q))).setIfInBounds (2 + q) (.int .i64 0) = lv W H (mvL L P q) from lv_set (W : Int) (H : Int) (L.set P (gi L q)) q 0 hq9 (by rw [List.length_set, HL.out]; omega))
    have HQE := hidI hqe
    have hm9 : m ≤ 9 := by omega
    clear hqe hP
    go_enter Tryd.func34, Tryd.ntmps34
    go_wp2_with (first | (refine r_box 46 _ (lv (W) (H) (L)) rfl rfl ?_; intro w1 B1 N1; have g1 := N1.gr; have b1 : Blk w1 B1 (lv (W) (H) (L)) 46 := N1.blk; have l1 := N1.lo; have t1 := N1.hi; have z1 := g1.size; have gg := gg.trans g1; clear N1; obtain ⟨b1_0, b1_1, b1_2⟩ := lcells b1) | (refine r_alloc 46 _ Tryd.lzero rfl ?_; intro w2 B2 N2; have g2 := N2.gr; have b2 : Blk w2 B2 (lv 0 0 []) 46 := N2.blk; have l2 := N2.lo; have t2 := N2.hi; have z2 := g2.size; have b1 := g2.blk b1; obtain ⟨b1_0, b1_1, b1_2⟩ := lcells b1; have gg := gg.trans g2; clear N2; obtain ⟨b2_0, b2_1, b2_2⟩ := lcells b2) | (refine r_load_row 46 _ _ rfl _ _ _ b1 Tryd.underlying46 rfl (Tryd.linfo' _ _ _) rfl ?_) | ((go_at_call 53; refine (holeIn_any W H L _ h9 HL.out H0.out).mono ?_; rintro e w3 ⟨rfl, g3⟩; rw [HP.out]; have z3 := g3.size; have b1 := g3.blk b1; obtain ⟨b1_0, b1_1, b1_2⟩ := lcells b1; have b2 := g3.blk b2; obtain ⟨b2_0, b2_1, b2_2⟩ := lcells b2; have gg := gg.trans g3)))
    go_quiet (fail)
    have gq9 := (Gr.refl w3).drewN nq; have b1 := gq9.blk b1; obtain ⟨b1_0, b1_1, b1_2⟩ := lcells b1; have b2 := gq9.blk b2; obtain ⟨b2_0, b2_1, b2_2⟩ := lcells b2; have gg := gg.trans gq9; have zq9 := gq9.size; generalize w3.drewN nq = w9 at *; clear gq9
    have hcq := b1_2 q hq9
    have hiq := Tryd.lix B1 q hq9
    have hip := Tryd.lix B1 P hp9
    rw [HQE.out] at hiq
    go_wp2_with (first | (refine r_store_cell 3 46 _ _ B1 (2 + q) rfl (.int .i64 (0)) rfl _ b1 (by rw [lv_size]; omega) Tryd.sizeOf3 rfl rfl ?_; intro w6 u6 b1'; rw [(HS2).out] at b1'; have z6 := u6.size; have gg := u6.gr gg (by omega); have b2 := u6.blk b2 (by omega); obtain ⟨b2_0, b2_1, b2_2⟩ := lcells b2; clear b1; have b1 := b1'; clear b1'; obtain ⟨b1_0, b1_1, b1_2⟩ := lcells b1) | (refine r_store_cell 3 46 _ _ B1 (2 + P) rfl (.int .i64 (gi L q)) rfl _ b1 (by rw [lv_size]; omega) Tryd.sizeOf3 rfl rfl ?_; intro w5 u5 b1'; rw [(HS1).out] at b1'; have z5 := u5.size; have gg := u5.gr gg (by omega); have b2 := u5.blk b2 (by omega); obtain ⟨b2_0, b2_1, b2_2⟩ := lcells b2; clear b1; have b1 := b1'; clear b1'; obtain ⟨b1_0, b1_1, b1_2⟩ := lcells b1) | (refine r_load_row 46 _ _ rfl _ _ _ b1 Tryd.underlying46 rfl (Tryd.linfo' _ _ _) rfl ?_) | (refine r_store_row 46 46 _ _ _ rfl (lv (W) (H) (mvL L P q)) _ rfl b2 (Tryd.lsize' _ _ _) (by simp only [lv_size]) (lv_one _ _ _) rfl ?_; intro w7 u7 b2'; have z7 := u7.size; have gg := u7.gr gg (by omega); clear b2; have b2 := b2'; clear b2'; obtain ⟨b2_0, b2_1, b2_2⟩ := lcells b2))
    rw [← HR.out] at b2
    refine bodyPost_ret (results_row_bool rfl _ _ _ _ _ _ rfl b2 Tryd.underlying46 rfl (by rw [HR.out]; exact Tryd.linfo' _ _ _)) rfl ?_
    exact ⟨by rw [HV.out]; rfl, gg⟩
  · have hn : ahd W H (hI L) (dI 100).toNat = none := by rw [← hP]; exact c2 hy1
    have HR := hidI (mvV_none hn).1
    have HV := hidI (mvV_none hn).2
    clear c0 c0' c1 c1' c2 c2' c3 c3' hn hPe
    rw [hP] at e1 e3
    go_enter Tryd.func34, Tryd.ntmps34
    go_wp2_with (first | (refine r_box 46 _ (lv (W) (H) (L)) rfl rfl ?_; intro w1 B1 N1; have g1 := N1.gr; have b1 : Blk w1 B1 (lv (W) (H) (L)) 46 := N1.blk; have l1 := N1.lo; have t1 := N1.hi; have z1 := g1.size; have gg := gg.trans g1; clear N1; obtain ⟨b1_0, b1_1, b1_2⟩ := lcells b1) | (refine r_alloc 46 _ Tryd.lzero rfl ?_; intro w2 B2 N2; have g2 := N2.gr; have b2 : Blk w2 B2 (lv 0 0 []) 46 := N2.blk; have l2 := N2.lo; have t2 := N2.hi; have z2 := g2.size; have b1 := g2.blk b1; obtain ⟨b1_0, b1_1, b1_2⟩ := lcells b1; have gg := gg.trans g2; clear N2; obtain ⟨b2_0, b2_1, b2_2⟩ := lcells b2) | (refine r_load_row 46 _ _ rfl _ _ _ b1 Tryd.underlying46 rfl (Tryd.linfo' _ _ _) rfl ?_) | (go_at_call 53; refine (holeIn_any W H L _ h9 HL.out H0.out).mono ?_; rintro e w3 ⟨rfl, g3⟩; have z3 := g3.size; have b1 := g3.blk b1; obtain ⟨b1_0, b1_1, b1_2⟩ := lcells b1; have b2 := g3.blk b2; obtain ⟨b2_0, b2_1, b2_2⟩ := lcells b2; have gg := gg.trans g3))
    go_quiet (fail)
    have gq9 := (Gr.refl w3).drewN nq; have b1 := gq9.blk b1; obtain ⟨b1_0, b1_1, b1_2⟩ := lcells b1; have b2 := gq9.blk b2; obtain ⟨b2_0, b2_1, b2_2⟩ := lcells b2; have gg := gg.trans gq9; have zq9 := gq9.size; generalize w3.drewN nq = w9 at *; clear gq9
    go_wp2_with (first | (refine r_build 46 [] [] _ (Tryd.lbuild0 _) rfl rfl ?_) | (refine r_store_row 46 46 _ _ _ rfl (lv (0) (0) ([])) _ rfl b2 (Tryd.lsize' _ _ _) (by simp only [lv_size]) (lv_one _ _ _) rfl ?_; intro w4 u4 b2'; have z4 := u4.size; have gg := u4.gr gg (by omega); clear b2; have b2 := b2'; clear b2'; obtain ⟨b2_0, b2_1, b2_2⟩ := lcells b2))
    rw [← HR.out] at b2
    refine bodyPost_ret (results_row_bool rfl _ _ _ _ _ _ rfl b2 Tryd.underlying46 rfl (by rw [HR.out]; exact Tryd.linfo' _ _ _)) rfl ?_
    exact ⟨by rw [HV.out]; rfl, gg⟩
set_option maxHeartbeats 1000000 in
set_option maxRecDepth 100000 in
theorem moved_l (W H : Nat) (L : List Int) (w : World) (hW : 1 ≤ W) (hW3 : W ≤ 3) (hH3 : H ≤ 3) (hl : L.length = nn W H) (h0 : (0 : Int) ∈ L) :
    Calls Tryd.prog 34 #[.agg (lv W H L), .int .u8 108] w (Ret (.tuple #[.agg (mvV W H L (dI 108).toNat), .bool (ahd W H (hI L) (dI 108).toNat).isSome]) w) := by
  have gg := Gr.refl w
  have h9 : nn W H ≤ 9 := Nat.mul_le_mul hW3 hH3
  have hPl := (hI_spec h0).1
  obtain ⟨P, hP⟩ : ∃ P, P = hI L := ⟨_, rfl⟩
  rw [hl, ← hP] at hPl
  obtain ⟨x, y, hPe, e1, e3, hx, hy, ⟨c0, c0'⟩, ⟨c1, c1'⟩, ⟨c2, c2'⟩, ⟨c3, c3'⟩⟩ := ahd_cases (H := H) hW hPl
  have e1 : Int.tmod (P : Int) (W : Int) = (x : Int) := by rw [tmod_nat, e1]
  have e3 : Int.tdiv (P : Int) (W : Int) = (y : Int) := by rw [tdiv_nat, e3]
  have hne' : W ≠ 0 := by omega
  have HL := hidI hl
  have H0 := hidI h0
  have HP := hidI hP.symm
  clear hl h0
  by_cases hx0 : x = 0
  · subst hx0
    have hn : ahd W H (hI L) (dI 108).toNat = none := by rw [← hP]; exact c3 rfl
    have HR := hidI (mvV_none hn).1
    have HV := hidI (mvV_none hn).2
    clear c0 c0' c1 c1' c2 c2' c3 c3' hn hPe
    rw [hP] at e1 e3
    go_enter Tryd.func34, Tryd.ntmps34
    go_wp2_with (first | (refine r_box 46 _ (lv (W) (H) (L)) rfl rfl ?_; intro w1 B1 N1; have g1 := N1.gr; have b1 : Blk w1 B1 (lv (W) (H) (L)) 46 := N1.blk; have l1 := N1.lo; have t1 := N1.hi; have z1 := g1.size; have gg := gg.trans g1; clear N1; obtain ⟨b1_0, b1_1, b1_2⟩ := lcells b1) | (refine r_alloc 46 _ Tryd.lzero rfl ?_; intro w2 B2 N2; have g2 := N2.gr; have b2 : Blk w2 B2 (lv 0 0 []) 46 := N2.blk; have l2 := N2.lo; have t2 := N2.hi; have z2 := g2.size; have b1 := g2.blk b1; obtain ⟨b1_0, b1_1, b1_2⟩ := lcells b1; have gg := gg.trans g2; clear N2; obtain ⟨b2_0, b2_1, b2_2⟩ := lcells b2) | (refine r_load_row 46 _ _ rfl _ _ _ b1 Tryd.underlying46 rfl (Tryd.linfo' _ _ _) rfl ?_) | (go_at_call 53; refine (holeIn_any W H L _ h9 HL.out H0.out).mono ?_; rintro e w3 ⟨rfl, g3⟩; have z3 := g3.size; have b1 := g3.blk b1; obtain ⟨b1_0, b1_1, b1_2⟩ := lcells b1; have b2 := g3.blk b2; obtain ⟨b2_0, b2_1, b2_2⟩ := lcells b2; have gg := gg.trans g3))
    go_quiet (fail)
    have gq9 := (Gr.refl w3).drewN nq; have b1 := gq9.blk b1; obtain ⟨b1_0, b1_1, b1_2⟩ := lcells b1; have b2 := gq9.blk b2; obtain ⟨b2_0, b2_1, b2_2⟩ := lcells b2; have gg := gg.trans gq9; have zq9 := gq9.size; generalize w3.drewN nq = w9 at *; clear gq9
    go_wp2_with (first | (refine r_build 46 [] [] _ (Tryd.lbuild0 _) rfl rfl ?_) | (refine r_store_row 46 46 _ _ _ rfl (lv (0) (0) ([])) _ rfl b2 (Tryd.lsize' _ _ _) (by simp only [lv_size]) (lv_one _ _ _) rfl ?_; intro w4 u4 b2'; have z4 := u4.size; have gg := u4.gr gg (by omega); clear b2; have b2 := b2'; clear b2'; obtain ⟨b2_0, b2_1, b2_2⟩ := lcells b2))
    rw [← HR.out] at b2
    refine bodyPost_ret (results_row_bool rfl _ _ _ _ _ _ rfl b2 Tryd.underlying46 rfl (by rw [HR.out]; exact Tryd.linfo' _ _ _)) rfl ?_
    exact ⟨by rw [HV.out]; rfl, gg⟩
  · obtain ⟨X, rfl⟩ : ∃ X, x = X + 1 := ⟨x - 1, by omega⟩
    obtain ⟨q, hq⟩ : ∃ q, q = nn W y + X := ⟨_, rfl⟩
    have hn : ahd W H (hI L) (dI 108).toNat = some q := by rw [← hP, hq]; exact c3' X rfl
    have hR := mvV_some hn
    rw [← hP] at hR
    have HR := hidI hR.1
    have HV := hidI (mvV_some hn).2
    have hql := (ahd_lt hW hPl (by rw [hP]; exact hn)).1
    obtain ⟨m, hm⟩ : ∃ m, m = nn W y := ⟨_, rfl⟩
    have e4 : (y : Int) * (W : Int) = (m : Int) := by rw [hm, nn_int, Int.mul_comm]
    have hqe : (q : Int) = (m : Int) + (X : Int) := by omega
    clear c0 c0' c1 c1' c2 c2' c3 c3' hn hPe hR hm hq
    have hq9 : q < 9 := by omega
    have hp9 : P < 9 := by omega
    have HS1 := hidI (lv_set (W : Int) (H : Int) L P (gi L q) hp9 (by rw [HL.out]; omega))
    have HS2 := hidI (show (lv (W : Int) (H : Int) (L.set P (gi L q))).setIfInBounds (2 + q) (.int .i64 0) = lv W H (mvL L P q) from lv_set (W : Int) (H : Int) (L.set P (gi L q)) q 0 hq9 (by rw [List.length_set, HL.out]; omega))
    have HQE := hidI hqe
    have hm9 : m ≤ 9 := by omega
    clear hqe hP
    go_enter Tryd.func34, Tryd.ntmps34
    go_wp2_with (first | (refine r_box 46 _ (lv (W) (H) (L)) rfl rfl ?_; intro w1 B1 N1; have g1 := N1.gr; have b1 : Blk w1 B1 (lv (W) (H) (L)) 46 := N1.blk; have l1 := N1.lo; have t1 := N1.hi; have z1 := g1.size; have gg := gg.trans g1; clear N1; obtain ⟨b1_0, b1_1, b1_2⟩ := lcells b1) | (refine r_alloc 46 _ Tryd.lzero rfl ?_; intro w2 B2 N2; have g2 := N2.gr; have b2 : Blk w2 B2 (lv 0 0 []) 46 := N2.blk; have l2 := N2.lo; have t2 := N2.hi; have z2 := g2.size; have b1 := g2.blk b1; obtain ⟨b1_0, b1_1, b1_2⟩ := lcells b1; have gg := gg.trans g2; clear N2; obtain ⟨b2_0, b2_1, b2_2⟩ := lcells b2) | (refine r_load_row 46 _ _ rfl _ _ _ b1 Tryd.underlying46 rfl (Tryd.linfo' _ _ _) rfl ?_) | ((go_at_call 53; refine (holeIn_any W H L _ h9 HL.out H0.out).mono ?_; rintro e w3 ⟨rfl, g3⟩; rw [HP.out]; have z3 := g3.size; have b1 := g3.blk b1; obtain ⟨b1_0, b1_1, b1_2⟩ := lcells b1; have b2 := g3.blk b2; obtain ⟨b2_0, b2_1, b2_2⟩ := lcells b2; have gg := gg.trans g3)))
    go_quiet (fail)
    have gq9 := (Gr.refl w3).drewN nq; have b1 := gq9.blk b1; obtain ⟨b1_0, b1_1, b1_2⟩ := lcells b1; have b2 := gq9.blk b2; obtain ⟨b2_0, b2_1, b2_2⟩ := lcells b2; have gg := gg.trans gq9; have zq9 := gq9.size; generalize w3.drewN nq = w9 at *; clear gq9
    have hcq := b1_2 q hq9
    have hiq := Tryd.lix B1 q hq9
    have hip := Tryd.lix B1 P hp9
    rw [HQE.out] at hiq
    go_wp2_with (first | (refine r_store_cell 3 46 _ _ B1 (2 + q) rfl (.int .i64 (0)) rfl _ b1 (by rw [lv_size]; omega) Tryd.sizeOf3 rfl rfl ?_; intro w6 u6 b1'; rw [(HS2).out] at b1'; have z6 := u6.size; have gg := u6.gr gg (by omega); have b2 := u6.blk b2 (by omega); obtain ⟨b2_0, b2_1, b2_2⟩ := lcells b2; clear b1; have b1 := b1'; clear b1'; obtain ⟨b1_0, b1_1, b1_2⟩ := lcells b1) | (refine r_store_cell 3 46 _ _ B1 (2 + P) rfl (.int .i64 (gi L q)) rfl _ b1 (by rw [lv_size]; omega) Tryd.sizeOf3 rfl rfl ?_; intro w5 u5 b1'; rw [(HS1).out] at b1'; have z5 := u5.size; have gg := u5.gr gg (by omega); have b2 := u5.blk b2 (by omega); obtain ⟨b2_0, b2_1, b2_2⟩ := lcells b2; clear b1; have b1 := b1'; clear b1'; obtain ⟨b1_0, b1_1, b1_2⟩ := lcells b1) | (refine r_load_row 46 _ _ rfl _ _ _ b1 Tryd.underlying46 rfl (Tryd.linfo' _ _ _) rfl ?_) | (refine r_store_row 46 46 _ _ _ rfl (lv (W) (H) (mvL L P q)) _ rfl b2 (Tryd.lsize' _ _ _) (by simp only [lv_size]) (lv_one _ _ _) rfl ?_; intro w7 u7 b2'; have z7 := u7.size; have gg := u7.gr gg (by omega); clear b2; have b2 := b2'; clear b2'; obtain ⟨b2_0, b2_1, b2_2⟩ := lcells b2))
    rw [← HR.out] at b2
    refine bodyPost_ret (results_row_bool rfl _ _ _ _ _ _ rfl b2 Tryd.underlying46 rfl (by rw [HR.out]; exact Tryd.linfo' _ _ _)) rfl ?_
    exact ⟨by rw [HV.out]; rfl, gg⟩
theorem movedHole_any (W H : Nat) (L : List Int) (b : UInt8) (w : World) (hW : 1 ≤ W) (hW3 : W ≤ 3) (hH3 : H ≤ 3) (hl : L.length = nn W H) (h0 : (0 : Int) ∈ L) (hb : dirB b = true) :
    Calls Tryd.prog 34 #[.agg (lv W H L), .int .u8 b.toNat] w (Ret (.tuple #[.agg (mvV W H L (dI b).toNat), .bool (ahd W H (hI L) (dI b).toNat).isSome]) w) := by
  have hbc : b = 117 ∨ b = 114 ∨ b = 100 ∨ b = 108 := by simpa [dirB, dirsL] using hb
  rcases hbc with rfl | rfl | rfl | rfl
  · exact moved_u W H L w hW hW3 hH3 hl h0
  · exact moved_r W H L w hW hW3 hH3 hl h0
  · exact moved_d W H L w hW hW3 hH3 hl h0
  · exact moved_l W H L w hW hW3 hH3 hl h0
end Go.Proofs.YtgibpcmjfnmkdaaDoor
