/-
  One move of the hole: in the program and in the model; the laws on moves.
-/
import Derived.Test.YtgibpcmjfnmkdaaDoorBoardW
namespace Go.Proofs.YtgibpcmjfnmkdaaDoor
open Go.RowKit
def mhR (z : Int) (L : List Int) (s : ByteArray) : Option (List Int) := if dirOk s = true then mwR z L s else none
def mhW (z : Int) (L : List Int) (s : ByteArray) : Int := if (mhR z L s).isSome = true then z else 0
def mhL (z : Int) (L : List Int) (s : ByteArray) : List Int := (mhR z L s).getD []
def mhOk (z : Int) (L : List Int) (s : ByteArray) : Bool := (mhR z L s).isSome
theorem mh_no {z : Int} {L : List Int} {s : ByteArray} (h : dirOk s = false) : mhW z L s = 0 ∧ mhL z L s = [] ∧ mhOk z L s = false := by
  have e : mhR z L s = none := by unfold mhR; rw [h]; rfl
  unfold mhW mhL mhOk; rw [e]; exact ⟨rfl, rfl, rfl⟩
theorem mh_yes {z : Int} {L : List Int} {s : ByteArray} (h : dirOk s = true) : mhW z L s = mwW z L s ∧ mhL z L s = mwL z L s ∧ mhOk z L s = mwOk z L s := by
  have e : mhR z L s = mwR z L s := by unfold mhR; rw [if_pos h]
  unfold mhW mhL mhOk mwW mwL mwOk; rw [e]; exact ⟨rfl, rfl, rfl⟩
theorem mhL_le (z : Int) (L : List Int) (s : ByteArray) : (mhL z L s).length ≤ 9 := by
  cases h : dirOk s with
  | false => rw [(mh_no h).2.1]; exact Nat.zero_le _
  | true => rw [(mh_yes h).2.1]; exact mwL_le z L s
set_option maxHeartbeats 1000000 in
set_option maxRecDepth 100000 in
theorem iMoveHole (z : Int) (L : List Int) (s : ByteArray) (v : Value) (base : Nat) (w : World) (hown : w.ownsRow base 3 1 v L.length (intsV L)) (hl : L.length ≤ 1048576) :
    Calls Tryd.prog 10 #[.agg (bv z v), .string s] w (RetBb 3 (mhW z L s) (mhL z L s) (mhOk z L s) w) := by
  have gg := Gr.refl w
  have HOWN := hidI hown
  obtain ⟨p, m, q, rfl⟩ := own_slice hown
  clear hown
  cases hd : dirOk s with
  | false =>
    have HD := hidI hd
    have HO := hidI (mh_no (z := z) (L := L) hd)
    clear hd
    go_enter Tryd.func10, Tryd.ntmps10
    go_wp2_with (first | (refine r_box (dst := some 2) 26 _ (bv (z) (.slice p m q)) rfl rfl ?_; intro w1 B1 N1; have g1 := N1.gr; have b1 : Blk w1 B1 (bv (z) (.slice p m q)) 26 := N1.blk; have l1 := N1.lo; have t1 := N1.hi; have z1 := g1.size; have gg := gg.trans g1; clear N1; obtain ⟨b1_0, b1_1⟩ := bcells b1) | (refine r_alloc (dst := some 4) 26 _ Tryd.ibzero rfl ?_; intro w2 B2 N2; have g2 := N2.gr; have b2 : Blk w2 B2 (bv 0 (.slice none 0 0)) 26 := N2.blk; have l2 := N2.lo; have t2 := N2.hi; have z2 := g2.size; have b1 := g2.blk b1; have gg := gg.trans g2; clear N2; obtain ⟨b2_0, b2_1⟩ := bcells b2) | (go_at_call 23; refine (isDirection_any s _).mono ?_; rintro e wSame ⟨rfl, rfl⟩; rw [HD.out]) | (refine r_build 26 [] [] _ (Tryd.ibbuild0 _) rfl rfl ?_) | (refine r_store_row 26 26 _ _ _ rfl (bv (0) (.slice none 0 0)) _ rfl b2 Tryd.ibsize rfl (bv_one (rfl)) rfl ?_; intro w5 u5 b2'; have z5 := u5.size; have gg := u5.gr gg (by omega); clear b2; have b2 := b2'; clear b2'; obtain ⟨b2_0, b2_1⟩ := bcells b2))
    refine bodyPost_ret (results_row_bool rfl _ _ _ _ _ _ rfl b2 Tryd.underlying26 rfl Tryd.ibinfo) rfl ?_
    refine ⟨gg, _, fin_vb2 HO.out.1.symm HO.out.2.2.symm, ?_⟩
    rw [HO.out.2.1]
    exact World.ownsRow_nil _ _ _ _
  | true =>
    have HD := hidI hd
    have HO := hidI (mh_yes (z := z) (L := L) hd)
    clear hd
    go_enter Tryd.func10, Tryd.ntmps10
    go_wp2_with (first | (refine r_box (dst := some 2) 26 _ (bv (z) (.slice p m q)) rfl rfl ?_; intro w1 B1 N1; have g1 := N1.gr; have b1 : Blk w1 B1 (bv (z) (.slice p m q)) 26 := N1.blk; have l1 := N1.lo; have t1 := N1.hi; have z1 := g1.size; have gg := gg.trans g1; clear N1; obtain ⟨b1_0, b1_1⟩ := bcells b1) | (refine r_alloc (dst := some 4) 26 _ Tryd.ibzero rfl ?_; intro w2 B2 N2; have g2 := N2.gr; have b2 : Blk w2 B2 (bv 0 (.slice none 0 0)) 26 := N2.blk; have l2 := N2.lo; have t2 := N2.hi; have z2 := g2.size; have b1 := g2.blk b1; have gg := gg.trans g2; clear N2; obtain ⟨b2_0, b2_1⟩ := bcells b2) | (refine r_load_row 26 _ _ rfl _ _ _ b1 Tryd.underlying26 rfl Tryd.ibinfo rfl ?_) | (go_at_call 23; refine (isDirection_any s _).mono ?_; rintro e wSame ⟨rfl, rfl⟩; rw [HD.out]))
    have zr := gg.size
    refine (iMoveByWord z L s _ base _ (gg.row HOWN.out) hl).mono ?_
    rintro e w3 ⟨g3, v3, rfl, own3⟩
    have b2 := g3.blk b2
    have z3 := g3.size
    have gg := gg.trans g3
    have hone := own_one own3
    have hne := own_ne own3 b2 (by decide)
    obtain ⟨y, hy⟩ : ∃ y, y = mwW z L s := ⟨_, rfl⟩
    obtain ⟨ok, hok⟩ : ∃ ok, ok = mwOk z L s := ⟨_, rfl⟩
    have HY := hidI hy
    have HOK := hidI hok
    rw [← hy, ← hok]
    clear hy hok
    go_wp2_with (refine r_store_row 26 26 _ _ _ rfl (bv (y) (v3)) _ rfl b2 Tryd.ibsize rfl (bv_one (hone)) rfl ?_; intro w4 u4 b2'; have z4 := u4.size; have gg := u4.gr gg (by omega); clear b2; have b2 := b2'; clear b2'; obtain ⟨b2_0, b2_1⟩ := bcells b2)
    refine bodyPost_ret (results_row_bool rfl _ _ _ _ _ _ rfl b2 Tryd.underlying26 rfl Tryd.ibinfo) rfl ?_
    refine ⟨gg, v3, fin_vb2 (by rw [HO.out.1, HY.out]) (by rw [HO.out.2.2, HOK.out]), ?_⟩
    rw [HO.out.2.1]
    exact own_up (u4.row own3 hne) (by omega)
set_option maxHeartbeats 1000000 in
set_option maxRecDepth 100000 in
theorem sMoveHole (z : Int) (L : List Int) (s : ByteArray) (v : Value) (base : Nat) (w : World) (hown : w.ownsRow base 3 1 v L.length (intsV L)) (hl : L.length ≤ 1048576) :
    Calls Tryd.prog 8 #[.agg (bv z v), .string s] w (RetBb 3 (mhW z L s) (mhL z L s) (mhOk z L s) w) := by
  have gg := Gr.refl w
  have HOWN := hidI hown
  obtain ⟨p, m, q, rfl⟩ := own_slice hown
  clear hown
  cases hd : dirOk s with
  | false =>
    have HD := hidI hd
    have hds := dir_no hd
    have HO := hidI (mh_no (z := z) (L := L) hd)
    obtain ⟨x, hx⟩ : ∃ x, x = dS s := ⟨_, rfl⟩
    rw [← hx] at hds
    have HX := hidI hx.symm
    clear hd hx
    go_enter Tryd.func8, Tryd.ntmps8
    go_wp2_with (first | (refine r_box (dst := some 2) 26 _ (bv (z) (.slice p m q)) rfl rfl ?_; intro w1 B1 N1; have g1 := N1.gr; have b1 : Blk w1 B1 (bv (z) (.slice p m q)) 26 := N1.blk; have l1 := N1.lo; have t1 := N1.hi; have z1 := g1.size; have gg := gg.trans g1; clear N1; obtain ⟨b1_0, b1_1⟩ := bcells b1) | (refine r_alloc (dst := some 4) 26 _ Tryd.ibzero rfl ?_; intro w2 B2 N2; have g2 := N2.gr; have b2 : Blk w2 B2 (bv 0 (.slice none 0 0)) 26 := N2.blk; have l2 := N2.lo; have t2 := N2.hi; have z2 := g2.size; have b1 := g2.blk b1; have gg := gg.trans g2; clear N2; obtain ⟨b2_0, b2_1⟩ := bcells b2) | (go_at_call 21; refine (tiDir_any s _).mono ?_; rintro e w7 ⟨rfl, g7⟩; rw [HX.out]; have z7 := g7.size; have b2 := g7.blk b2; have gg := gg.trans g7) | (refine r_build 26 [] [] _ (Tryd.ibbuild0 _) rfl rfl ?_) | (refine r_store_row 26 26 _ _ _ rfl (bv (0) (.slice none 0 0)) _ rfl b2 Tryd.ibsize rfl (bv_one (rfl)) rfl ?_; intro w5 u5 b2'; have z5 := u5.size; have gg := u5.gr gg (by omega); clear b2; have b2 := b2'; clear b2'; obtain ⟨b2_0, b2_1⟩ := bcells b2))
    refine bodyPost_ret (results_row_bool rfl _ _ _ _ _ _ rfl b2 Tryd.underlying26 rfl Tryd.ibinfo) rfl ?_
    refine ⟨gg, _, fin_vb2 HO.out.1.symm HO.out.2.2.symm, ?_⟩
    rw [HO.out.2.1]
    exact World.ownsRow_nil _ _ _ _
  | true =>
    have HD := hidI hd
    obtain ⟨d, -, -, hdd⟩ := dir_yes hd
    have HX := hidI hdd
    have HO := hidI (mh_yes (z := z) (L := L) hd)
    clear hd hdd
    go_enter Tryd.func8, Tryd.ntmps8
    go_wp2_with (first | (refine r_box (dst := some 2) 26 _ (bv (z) (.slice p m q)) rfl rfl ?_; intro w1 B1 N1; have g1 := N1.gr; have b1 : Blk w1 B1 (bv (z) (.slice p m q)) 26 := N1.blk; have l1 := N1.lo; have t1 := N1.hi; have z1 := g1.size; have gg := gg.trans g1; clear N1; obtain ⟨b1_0, b1_1⟩ := bcells b1) | (refine r_alloc (dst := some 4) 26 _ Tryd.ibzero rfl ?_; intro w2 B2 N2; have g2 := N2.gr; have b2 : Blk w2 B2 (bv 0 (.slice none 0 0)) 26 := N2.blk; have l2 := N2.lo; have t2 := N2.hi; have z2 := g2.size; have b1 := g2.blk b1; have gg := gg.trans g2; clear N2; obtain ⟨b2_0, b2_1⟩ := bcells b2) | (refine r_load_row 26 _ _ rfl _ _ _ b1 Tryd.underlying26 rfl Tryd.ibinfo rfl ?_) | (go_at_call 21; refine (tiDir_any s _).mono ?_; rintro e w7 ⟨rfl, g7⟩; rw [HX.out]; have z7 := g7.size; have b1 := g7.blk b1; have b2 := g7.blk b2; have gg := gg.trans g7))
    have zr := gg.size
    refine (sMoveByWord z L s _ base _ (gg.row HOWN.out) hl).mono ?_
    rintro e w3 ⟨g3, v3, rfl, own3⟩
    have b2 := g3.blk b2
    have z3 := g3.size
    have gg := gg.trans g3
    have hone := own_one own3
    have hne := own_ne own3 b2 (by decide)
    obtain ⟨y, hy⟩ : ∃ y, y = mwW z L s := ⟨_, rfl⟩
    obtain ⟨ok, hok⟩ : ∃ ok, ok = mwOk z L s := ⟨_, rfl⟩
    have HY := hidI hy
    have HOK := hidI hok
    rw [← hy, ← hok]
    clear hy hok
    go_wp2_with (refine r_store_row 26 26 _ _ _ rfl (bv (y) (v3)) _ rfl b2 Tryd.ibsize rfl (bv_one (hone)) rfl ?_; intro w4 u4 b2'; have z4 := u4.size; have gg := u4.gr gg (by omega); clear b2; have b2 := b2'; clear b2'; obtain ⟨b2_0, b2_1⟩ := bcells b2)
    refine bodyPost_ret (results_row_bool rfl _ _ _ _ _ _ rfl b2 Tryd.underlying26 rfl Tryd.ibinfo) rfl ?_
    refine ⟨gg, v3, fin_vb2 (by rw [HO.out.1, HY.out]) (by rw [HO.out.2.2, HOK.out]), ?_⟩
    rw [HO.out.2.1]
    exact own_up (u4.row own3 hne) (by omega)
set_option maxHeartbeats 4000000 in
set_option maxRecDepth 100000 in
theorem lawMoveByWord (z : Int) (v : Value) (L : List Int) (s : ByteArray) (w : World) (hs : Sl w v L) (hbig : L.length ≤ 9223372036854775807) : Calls Tryd.prog 4 #[.agg (bv z v), .string s] w (Ret (.bool true) w) := by
  by_cases hsz : 1048576 < s.size
  · have gg := Gr.refl w
    obtain ⟨p, c, rfl, hr⟩ := hs
    go_enter Tryd.func4, Tryd.ntmps4
    go_wp2_with (refine r_box 24 _ (bv (z) (.slice p L.length c)) rfl rfl ?_; intro w1 B1 N1; have g1 := N1.gr; have b1 : Blk w1 B1 (bv (z) (.slice p L.length c)) 24 := N1.blk; have l1 := N1.lo; have t1 := N1.hi; have z1 := g1.size; have gg := gg.trans g1; clear N1; obtain ⟨b1_0, b1_1⟩ := bcells b1)
    go_ret
    exact ⟨rfl, gg⟩
  · have hsz' : s.size ≤ 1048576 := by omega
    clear hsz
    have gg := Gr.refl w
    obtain ⟨p, c, rfl, hr⟩ := hs
    by_cases hl : 1048576 < L.length
    · have HZ := hidI (show szR L.length = -1 from if_pos hl)
      go_enter Tryd.func4, Tryd.ntmps4
      go_wp2_with (first | (refine r_box 24 _ (bv (z) (.slice p L.length c)) rfl rfl ?_; intro w1 B1 N1; have g1 := N1.gr; have b1 : Blk w1 B1 (bv (z) (.slice p L.length c)) 24 := N1.blk; have l1 := N1.lo; have t1 := N1.hi; have z1 := g1.size; have gg := gg.trans g1; clear N1; obtain ⟨b1_0, b1_1⟩ := bcells b1) | (refine r_load_row 24 _ _ rfl _ _ _ b1 Tryd.underlying24 rfl Tryd.lbinfo rfl ?_) | (go_at_call 7; refine (szBoard_any z p L.length c _ hbig).mono ?_; rintro e w2 ⟨rfl, g2⟩; rw [HZ.out]; have z2 := g2.size; have gg := gg.trans g2))
      go_ret
      exact ⟨rfl, gg⟩
    · have hl : L.length ≤ 1048576 := by omega
      have HZ := hidI (show szR L.length = 1048576 - (L.length : Int) from if_neg (by omega))
      have HR := hidI hr
      have hle := mwL_le z L s
      obtain ⟨ok, hok⟩ : ∃ ok, ok = mwOk z L s := ⟨_, rfl⟩
      obtain ⟨y, hy⟩ : ∃ y, y = mwW z L s := ⟨_, rfl⟩
      obtain ⟨M, hM⟩ : ∃ M, M = mwL z L s := ⟨_, rfl⟩
      have HOK := hidI hok
      have HY := hidI hy
      have HM := hidI hM
      rw [← hM] at hle
      have hm : M.length ≤ 1048576 := by omega
      clear hr hok hy hM
      go_enter Tryd.func4, Tryd.ntmps4
      go_wp2_with (first | (refine r_box 24 _ (bv (z) (.slice p L.length c)) rfl rfl ?_; intro w1 B1 N1; have g1 := N1.gr; have b1 : Blk w1 B1 (bv (z) (.slice p L.length c)) 24 := N1.blk; have l1 := N1.lo; have t1 := N1.hi; have z1 := g1.size; have gg := gg.trans g1; clear N1; obtain ⟨b1_0, b1_1⟩ := bcells b1) | (refine r_load_row 24 _ _ rfl _ _ _ b1 Tryd.underlying24 rfl Tryd.lbinfo rfl ?_) | (go_at_call 7; refine (szBoard_any z p L.length c _ hbig).mono ?_; rintro e w2 ⟨rfl, g2⟩; rw [HZ.out]; have z2 := g2.size; have b1 := g2.blk b1; have gg := gg.trans g2))
      refine (toBoard_any z p c L _ (HR.out.gr gg) hl).mono ?_
      rintro e w2 ⟨g2, v2, rfl, own2⟩
      have b1 := g2.blk b1
      have z2 := g2.size
      have gg := gg.trans g2
      go_wp2_with fail
      refine (sMoveByWord z L s v2 _ _ own2 hl).mono ?_
      rintro e w3 ⟨g3, v3, rfl, own3⟩
      rw [← HOK.out, ← HY.out]
      rw [← HM.out] at own3
      have b1 := g3.blk b1
      have z3 := g3.size
      have gg := gg.trans g3
      have hone3 := own_one own3
      go_wp2_with (first | ((refine r_alloc 26 _ Tryd.ibzero rfl ?_; intro w4 B4 N4; have g4 := N4.gr; have b4 : Blk w4 B4 (bv 0 (.slice none 0 0)) 26 := N4.blk; have l4 := N4.lo; have t4 := N4.hi; have z4 := g4.size; have b1 := g4.blk b1; have gg := gg.trans g4; clear N4; obtain ⟨b4_0, b4_1⟩ := bcells b4); have own3 := g4.row own3) | (have hne := own_ne own3 b4 (by decide); (refine r_store_row 26 26 _ _ _ rfl (bv (y) (v3)) _ rfl b4 Tryd.ibsize rfl (bv_one (hone3)) rfl ?_; intro w14 u14 b4'; have z14 := u14.size; have gg := u14.gr gg (by omega); have b1 := u14.blk b1 (by omega); clear b4; have b4 := b4'; clear b4'; obtain ⟨b4_0, b4_1⟩ := bcells b4); have own3 := u14.row own3 hne) | (refine r_load_row 24 _ _ rfl _ _ _ b1 Tryd.underlying24 rfl Tryd.lbinfo rfl ?_))
      refine (toBoard_any z p c L _ (HR.out.gr gg) hl).mono ?_
      rintro e w5 ⟨g5, v5, rfl, own5⟩
      have HA35 := hidI (own_apartB own3 own5 (Nat.le_refl _))
      have own3 := g5.row own3
      have b1 := g5.blk b1
      have b4 := g5.blk b4
      have z5 := g5.size
      have gg := gg.trans g5
      have hone5 := own_one own5
      go_wp2_with (first | ((refine r_alloc 26 _ Tryd.ibzero rfl ?_; intro w6 B6 N6; have g6 := N6.gr; have b6 : Blk w6 B6 (bv 0 (.slice none 0 0)) 26 := N6.blk; have l6 := N6.lo; have t6 := N6.hi; have z6 := g6.size; have b1 := g6.blk b1; have b4 := g6.blk b4; have gg := gg.trans g6; clear N6; obtain ⟨b6_0, b6_1⟩ := bcells b6); have own3 := g6.row own3; have own5 := g6.row own5) | (have hne := own_ne own3 b6 (by decide); have hne5 := own_ne own5 b6 (by decide); (refine r_store_row 26 26 _ _ _ rfl (bv (z) (v5)) _ rfl b6 Tryd.ibsize rfl (bv_one (hone5)) rfl ?_; intro w16 u16 b6'; have z16 := u16.size; have gg := u16.gr gg (by omega); have b1 := u16.blk b1 (by omega); have b4 := u16.blk b4 (by omega); clear b6; have b6 := b6'; clear b6'; obtain ⟨b6_0, b6_1⟩ := bcells b6); have own3 := u16.row own3 hne; have own5 := u16.row own5 hne5) | (refine r_load_row 26 _ _ rfl _ _ _ b6 Tryd.underlying26 rfl Tryd.ibinfo rfl ?_))
      refine (iMoveByWord z L s v5 _ _ own5 hl).mono ?_
      rintro e w7 ⟨g7, v7, rfl, own7⟩
      rw [← HOK.out, ← HY.out]
      rw [← HM.out] at own7
      have HA37 := hidI (own_apartB own3 own7 (by omega))
      have HA75 := hidI (apart_symm (own_apartB own5 own7 (by omega)))
      have own3 := g7.row own3
      have own5 := g7.row own5
      have b1 := g7.blk b1
      have b4 := g7.blk b4
      have b6 := g7.blk b6
      have z7 := g7.size
      have gg := gg.trans g7
      have hone7 := own_one own7
      go_wp2_with (first | ((refine r_alloc 26 _ Tryd.ibzero rfl ?_; intro w7 B7 N7; have g7 := N7.gr; have b7 : Blk w7 B7 (bv 0 (.slice none 0 0)) 26 := N7.blk; have l7 := N7.lo; have t7 := N7.hi; have z7 := g7.size; have b1 := g7.blk b1; have b4 := g7.blk b4; have b6 := g7.blk b6; have gg := gg.trans g7; clear N7; obtain ⟨b7_0, b7_1⟩ := bcells b7); have own3 := g7.row own3; have own5 := g7.row own5; have own7 := g7.row own7) | (have hne := own_ne own3 b7 (by decide); have hne5 := own_ne own5 b7 (by decide); have hne7 := own_ne own7 b7 (by decide); (refine r_store_row 26 26 _ _ _ rfl (bv (y) (v7)) _ rfl b7 Tryd.ibsize rfl (bv_one (hone7)) rfl ?_; intro w17 u17 b7'; have z17 := u17.size; have gg := u17.gr gg (by omega); have b1 := u17.blk b1 (by omega); have b4 := u17.blk b4 (by omega); have b6 := u17.blk b6 (by omega); clear b7; have b7 := b7'; clear b7'; obtain ⟨b7_0, b7_1⟩ := bcells b7); have own3 := u17.row own3 hne; have own5 := u17.row own5 hne5; have own7 := u17.row own7 hne7) | (refine r_load_row 26 _ _ rfl _ _ _ b7 Tryd.underlying26 rfl Tryd.ibinfo rfl ?_) | (refine r_load_row 26 _ _ rfl _ _ _ b4 Tryd.underlying26 rfl Tryd.ibinfo rfl ?_))
      refine (eqBoard_same y M v7 v3 _ _ _ own7 own3 hm).mono ?_
      rintro e w8 ⟨rfl, g8⟩
      have own3 := g8.row own3
      have own5 := g8.row own5
      have own7 := g8.row own7
      have b1 := g8.blk b1
      have b4 := g8.blk b4
      have b6 := g8.blk b6
      have b7 := g8.blk b7
      have z8 := g8.size
      have gg := gg.trans g8
      go_wp2
      refine F_begin (fun w => Blk w B6 (bv z v5) 26) 3 5 #[false, false, false, false, false] rfl (by kernel_rfl) (by kernel_rfl) ?_
      have gd := (Gr.refl w8).drew
      have b1 := gd.blk b1
      have b4 := gd.blk b4
      have b6 := gd.blk b6
      have b7 := gd.blk b7
      have own3 := gd.row own3
      have own5 := gd.row own5
      have own7 := gd.row own7
      have gg := gg.trans gd
      have zd := gd.size
      generalize (w8).drew = wd at *
      refine F_take (v := .agg (bv z v5)) 0 #[true, false, false, false, false] rfl (by kernel_rfl) (fun _ _ _ h => h) rfl (fun w hF => e_load_row 26 (.tmp 8) _ _ _ _ rfl hF Tryd.underlying26 rfl Tryd.ibinfo) (b6) ?_; simp only [Act.put, List.setIfInBounds_toArray, List.set_cons_succ, List.set_cons_zero]
      refine F_one 1 #[true, true, false, false, false] rfl (by kernel_rfl) ?_
      (refine r_load_row 24 _ _ rfl _ _ _ b1 Tryd.underlying24 rfl Tryd.lbinfo rfl ?_)
      refine ⟨fun _ => b6, ?_⟩
      simp only [Act.put, List.setIfInBounds_toArray, List.set_cons_succ, List.set_cons_zero]
      refine F_one 2 #[true, true, true, false, false] rfl (by kernel_rfl) ?_
      refine r_callx 9 [.tmp 49] _ [.agg (bv z (.slice p L.length c))] (fun v w' => Gr wd w' ∧ ∃ u, v = .agg (bv z u) ∧ w'.ownsRow wd.heap.size 3 1 u L.length (intsV L)) Tryd.call9 rfl rfl ((toBoard_any z p c L _ (HR.out.gr gg) hl).mono fun e w' h => by obtain ⟨g, v, h1, h2⟩ := h; exact ⟨_, h1, g, v, rfl, h2⟩) ?_
      rintro _ wq8 ⟨gq8, vq8, rfl, ownq8⟩
      have b1 := gq8.blk b1
      have b4 := gq8.blk b4
      have b6 := gq8.blk b6
      have b7 := gq8.blk b7
      have own3 := gq8.row own3
      have own5 := gq8.row own5
      have own7 := gq8.row own7
      have gg := gg.trans gq8
      have zq8 := gq8.size
      refine ⟨fun _ => b6, ?_⟩
      simp only [Act.put, List.setIfInBounds_toArray, List.set_cons_succ, List.set_cons_zero]
      refine F_one 3 #[true, true, true, true, false] rfl (by kernel_rfl) ?_
      refine r_call 11 [.tmp 48, .tmp 50] _ [.agg (bv z v5), .agg (bv z vq8)] (.bool true) (fun w' => Gr wq8 w') Tryd.call11 rfl rfl (eqBoard_same z L v5 vq8 _ _ wq8 own5 ownq8 hl) ?_
      intro wq9 gq9
      have b1 := gq9.blk b1
      have b4 := gq9.blk b4
      have b6 := gq9.blk b6
      have b7 := gq9.blk b7
      have own3 := gq9.row own3
      have own5 := gq9.row own5
      have own7 := gq9.row own7
      have gg := gg.trans gq9
      have zq9 := gq9.size
      refine ⟨fun h => (by cases h), ?_⟩
      simp only [Act.put, List.setIfInBounds_toArray, List.set_cons_succ, List.set_cons_zero]
      refine F_one 4 #[true, true, true, true, true] rfl (by kernel_rfl) ?_
      refine r_val (.bool false) rfl rfl ?_
      refine ⟨fun h => (by cases h), ?_⟩
      simp only [Act.put, List.setIfInBounds_toArray, List.set_cons_succ, List.set_cons_zero]
      refine F_done (by kernel_rfl) ?_
      go_wp2_with (refine r_load_row 26 _ _ rfl _ _ _ b6 Tryd.underlying26 rfl Tryd.ibinfo rfl ?_)
      have hn4 := own_ne own5 b4 (by decide)
      have hn7 := own_ne own5 b7 (by decide)
      have hn1 := own_ne own5 b1 (by decide)
      refine (markBoard_any z L v5 1 _ _ own5 hl (by decide)).mono ?_
      rintro e w10 ⟨rfl, own5', g10⟩
      have own3 := g10.row own3 HA35.out
      have own7 := g10.row own7 HA75.out
      have b1 := g10.blk b1 hn1
      have b4 := g10.blk b4 hn4
      have b7 := g10.blk b7 hn7
      have gg := g10.gr gg (own_gr own5 (by omega))
      have z10 := g10.size
      clear own5' own5
      obtain ⟨n5, hn5⟩ : ∃ n : Nat, n = 1 + L.length := ⟨_, rfl⟩
      rw [← hn5]
      have hn5b : n5 ≤ 1048577 := by omega
      clear hn5
      go_wp2_with (first | (refine r_load_row 26 _ _ rfl _ _ _ b7 Tryd.underlying26 rfl Tryd.ibinfo rfl ?_) | (refine r_load_row 26 _ _ rfl _ _ _ b4 Tryd.underlying26 rfl Tryd.ibinfo rfl ?_) | ((go_at_call 11; refine (eqBoard_same y M v7 v3 _ _ _ own7 own3 hm).mono ?_; rintro e w11 ⟨rfl, g11⟩; have z11 := g11.size; have b1 := g11.blk b1; have b4 := g11.blk b4; have b7 := g11.blk b7; have gg := gg.trans g11); have own3 := g11.row own3; have own7 := g11.row own7))
      have hn4 := own_ne own7 b4 (by decide)
      have hn7 := own_ne own7 b7 (by decide)
      have hn1 := own_ne own7 b1 (by decide)
      refine (markBoard_any y M v7 1 _ _ own7 hm (by decide)).mono ?_
      rintro e w12 ⟨rfl, own7', g12⟩
      have own3 := g12.row own3 HA37.out
      have b1 := g12.blk b1 hn1
      have b4 := g12.blk b4 hn4
      have b7 := g12.blk b7 hn7
      have gg := g12.gr gg (own_gr own7 (by omega))
      have z12 := g12.size
      obtain ⟨n, hn⟩ : ∃ n : Nat, n = 1 + M.length := ⟨_, rfl⟩
      rw [← hn]
      have HN := hidI hn
      have hn2 : n ≤ 20 := by omega
      clear hn own7
      have own7 := own7'
      clear own7'
      go_wp2_with (refine r_load_row 26 _ _ rfl _ _ _ b7 Tryd.underlying26 rfl Tryd.ibinfo rfl ?_)
      refine (heldBoard_any y v7 M.length 1 _ _ own7 hm (by decide)).mono ?_
      rintro e w13 ⟨rfl, g13⟩
      rw [← HN.out]
      have own3 := g13.row own3
      have own7 := g13.row own7
      have b1 := g13.blk b1
      have b4 := g13.blk b4
      have b7 := g13.blk b7
      have gg := gg.trans g13
      have z13 := g13.size
      go_wp2_with (refine r_load_row 24 _ _ rfl _ _ _ b1 Tryd.underlying24 rfl Tryd.lbinfo rfl ?_)
      refine (toBoard_any z p c L _ (HR.out.gr gg) hl).mono ?_
      rintro e w18 ⟨g18, v18, rfl, own18⟩
      have own3 := g18.row own3
      have own7 := g18.row own7
      have b4 := g18.blk b4
      have b7 := g18.blk b7
      have z18 := g18.size
      have gg := gg.trans g18
      go_wp2_with fail
      refine (iMoveByWord z L s v18 _ _ own18 hl).mono ?_
      rintro e w19 ⟨g19, v19, rfl, own19⟩
      rw [← HOK.out, ← HY.out]
      rw [← HM.out] at own19
      have own3 := g19.row own3
      have own7 := g19.row own7
      have b4 := g19.blk b4
      have b7 := g19.blk b7
      have z19 := g19.size
      have gg := gg.trans g19
      have hone19 := own_one own19
      go_wp2_with (first | ((refine r_alloc 26 _ Tryd.ibzero rfl ?_; intro w20 B20 N20; have g20 := N20.gr; have b20 : Blk w20 B20 (bv 0 (.slice none 0 0)) 26 := N20.blk; have l20 := N20.lo; have t20 := N20.hi; have z20 := g20.size; have b4 := g20.blk b4; have b7 := g20.blk b7; have gg := gg.trans g20; clear N20; obtain ⟨b20_0, b20_1⟩ := bcells b20); have own3 := g20.row own3; have own7 := g20.row own7; have own19 := g20.row own19) | (have hne := own_ne own3 b20 (by decide); have hne7 := own_ne own7 b20 (by decide); have hne19 := own_ne own19 b20 (by decide); (refine r_store_row 26 26 _ _ _ rfl (bv (y) (v19)) _ rfl b20 Tryd.ibsize rfl (bv_one (hone19)) rfl ?_; intro w21 u21 b20'; have z21 := u21.size; have gg := u21.gr gg (by omega); have b4 := u21.blk b4 (by omega); have b7 := u21.blk b7 (by omega); clear b20; have b20 := b20'; clear b20'; obtain ⟨b20_0, b20_1⟩ := bcells b20); have own3 := u21.row own3 hne; have own7 := u21.row own7 hne7; have own19 := u21.row own19 hne19) | (refine r_load_row 26 _ _ rfl _ _ _ b20 Tryd.underlying26 rfl Tryd.ibinfo rfl ?_) | (refine r_load_row 26 _ _ rfl _ _ _ b4 Tryd.underlying26 rfl Tryd.ibinfo rfl ?_))
      refine (eqBoard_same y M v19 v3 _ _ _ own19 own3 hm).mono ?_
      rintro e w22 ⟨rfl, g22⟩
      have own7 := g22.row own7
      have b7 := g22.blk b7
      have gg := gg.trans g22
      go_wp2_with (refine r_load_row 26 _ _ rfl _ _ _ b7 Tryd.underlying26 rfl Tryd.ibinfo rfl ?_)
      refine (heldBoard_any y v7 M.length 1 _ _ own7 hm (by decide)).mono ?_
      rintro e w23 ⟨rfl, g23⟩
      rw [← HN.out]
      have gg := gg.trans g23
      go_wp2
      go_ret
      exact ⟨rfl, gg⟩
set_option maxHeartbeats 4000000 in
set_option maxRecDepth 100000 in
theorem lawMoveHole (z : Int) (v : Value) (L : List Int) (s : ByteArray) (w : World) (hs : Sl w v L) (hbig : L.length ≤ 9223372036854775807) : Calls Tryd.prog 3 #[.agg (bv z v), .string s] w (Ret (.bool true) w) := by
  by_cases hsz : 1048576 < s.size
  · have gg := Gr.refl w
    obtain ⟨p, c, rfl, hr⟩ := hs
    go_enter Tryd.func3, Tryd.ntmps3
    go_wp2_with (refine r_box 24 _ (bv (z) (.slice p L.length c)) rfl rfl ?_; intro w1 B1 N1; have g1 := N1.gr; have b1 : Blk w1 B1 (bv (z) (.slice p L.length c)) 24 := N1.blk; have l1 := N1.lo; have t1 := N1.hi; have z1 := g1.size; have gg := gg.trans g1; clear N1; obtain ⟨b1_0, b1_1⟩ := bcells b1)
    go_ret
    exact ⟨rfl, gg⟩
  · have hsz' : s.size ≤ 1048576 := by omega
    clear hsz
    have gg := Gr.refl w
    obtain ⟨p, c, rfl, hr⟩ := hs
    by_cases hl : 1048576 < L.length
    · have HZ := hidI (show szR L.length = -1 from if_pos hl)
      go_enter Tryd.func3, Tryd.ntmps3
      go_wp2_with (first | (refine r_box 24 _ (bv (z) (.slice p L.length c)) rfl rfl ?_; intro w1 B1 N1; have g1 := N1.gr; have b1 : Blk w1 B1 (bv (z) (.slice p L.length c)) 24 := N1.blk; have l1 := N1.lo; have t1 := N1.hi; have z1 := g1.size; have gg := gg.trans g1; clear N1; obtain ⟨b1_0, b1_1⟩ := bcells b1) | (refine r_load_row 24 _ _ rfl _ _ _ b1 Tryd.underlying24 rfl Tryd.lbinfo rfl ?_) | (go_at_call 7; refine (szBoard_any z p L.length c _ hbig).mono ?_; rintro e w2 ⟨rfl, g2⟩; rw [HZ.out]; have z2 := g2.size; have gg := gg.trans g2))
      go_ret
      exact ⟨rfl, gg⟩
    · have hl : L.length ≤ 1048576 := by omega
      have HZ := hidI (show szR L.length = 1048576 - (L.length : Int) from if_neg (by omega))
      have HR := hidI hr
      have hle := mhL_le z L s
      obtain ⟨ok, hok⟩ : ∃ ok, ok = mhOk z L s := ⟨_, rfl⟩
      obtain ⟨y, hy⟩ : ∃ y, y = mhW z L s := ⟨_, rfl⟩
      obtain ⟨M, hM⟩ : ∃ M, M = mhL z L s := ⟨_, rfl⟩
      have HOK := hidI hok
      have HY := hidI hy
      have HM := hidI hM
      rw [← hM] at hle
      have hm : M.length ≤ 1048576 := by omega
      clear hr hok hy hM
      go_enter Tryd.func3, Tryd.ntmps3
      go_wp2_with (first | (refine r_box 24 _ (bv (z) (.slice p L.length c)) rfl rfl ?_; intro w1 B1 N1; have g1 := N1.gr; have b1 : Blk w1 B1 (bv (z) (.slice p L.length c)) 24 := N1.blk; have l1 := N1.lo; have t1 := N1.hi; have z1 := g1.size; have gg := gg.trans g1; clear N1; obtain ⟨b1_0, b1_1⟩ := bcells b1) | (refine r_load_row 24 _ _ rfl _ _ _ b1 Tryd.underlying24 rfl Tryd.lbinfo rfl ?_) | (go_at_call 7; refine (szBoard_any z p L.length c _ hbig).mono ?_; rintro e w2 ⟨rfl, g2⟩; rw [HZ.out]; have z2 := g2.size; have b1 := g2.blk b1; have gg := gg.trans g2))
      refine (toBoard_any z p c L _ (HR.out.gr gg) hl).mono ?_
      rintro e w2 ⟨g2, v2, rfl, own2⟩
      have b1 := g2.blk b1
      have z2 := g2.size
      have gg := gg.trans g2
      go_wp2_with fail
      refine (sMoveHole z L s v2 _ _ own2 hl).mono ?_
      rintro e w3 ⟨g3, v3, rfl, own3⟩
      rw [← HOK.out, ← HY.out]
      rw [← HM.out] at own3
      have b1 := g3.blk b1
      have z3 := g3.size
      have gg := gg.trans g3
      have hone3 := own_one own3
      go_wp2_with (first | ((refine r_alloc 26 _ Tryd.ibzero rfl ?_; intro w4 B4 N4; have g4 := N4.gr; have b4 : Blk w4 B4 (bv 0 (.slice none 0 0)) 26 := N4.blk; have l4 := N4.lo; have t4 := N4.hi; have z4 := g4.size; have b1 := g4.blk b1; have gg := gg.trans g4; clear N4; obtain ⟨b4_0, b4_1⟩ := bcells b4); have own3 := g4.row own3) | (have hne := own_ne own3 b4 (by decide); (refine r_store_row 26 26 _ _ _ rfl (bv (y) (v3)) _ rfl b4 Tryd.ibsize rfl (bv_one (hone3)) rfl ?_; intro w14 u14 b4'; have z14 := u14.size; have gg := u14.gr gg (by omega); have b1 := u14.blk b1 (by omega); clear b4; have b4 := b4'; clear b4'; obtain ⟨b4_0, b4_1⟩ := bcells b4); have own3 := u14.row own3 hne) | (refine r_load_row 24 _ _ rfl _ _ _ b1 Tryd.underlying24 rfl Tryd.lbinfo rfl ?_))
      refine (toBoard_any z p c L _ (HR.out.gr gg) hl).mono ?_
      rintro e w5 ⟨g5, v5, rfl, own5⟩
      have HA35 := hidI (own_apartB own3 own5 (Nat.le_refl _))
      have own3 := g5.row own3
      have b1 := g5.blk b1
      have b4 := g5.blk b4
      have z5 := g5.size
      have gg := gg.trans g5
      have hone5 := own_one own5
      go_wp2_with (first | ((refine r_alloc 26 _ Tryd.ibzero rfl ?_; intro w6 B6 N6; have g6 := N6.gr; have b6 : Blk w6 B6 (bv 0 (.slice none 0 0)) 26 := N6.blk; have l6 := N6.lo; have t6 := N6.hi; have z6 := g6.size; have b1 := g6.blk b1; have b4 := g6.blk b4; have gg := gg.trans g6; clear N6; obtain ⟨b6_0, b6_1⟩ := bcells b6); have own3 := g6.row own3; have own5 := g6.row own5) | (have hne := own_ne own3 b6 (by decide); have hne5 := own_ne own5 b6 (by decide); (refine r_store_row 26 26 _ _ _ rfl (bv (z) (v5)) _ rfl b6 Tryd.ibsize rfl (bv_one (hone5)) rfl ?_; intro w16 u16 b6'; have z16 := u16.size; have gg := u16.gr gg (by omega); have b1 := u16.blk b1 (by omega); have b4 := u16.blk b4 (by omega); clear b6; have b6 := b6'; clear b6'; obtain ⟨b6_0, b6_1⟩ := bcells b6); have own3 := u16.row own3 hne; have own5 := u16.row own5 hne5) | (refine r_load_row 26 _ _ rfl _ _ _ b6 Tryd.underlying26 rfl Tryd.ibinfo rfl ?_))
      refine (iMoveHole z L s v5 _ _ own5 hl).mono ?_
      rintro e w7 ⟨g7, v7, rfl, own7⟩
      rw [← HOK.out, ← HY.out]
      rw [← HM.out] at own7
      have HA37 := hidI (own_apartB own3 own7 (by omega))
      have HA75 := hidI (apart_symm (own_apartB own5 own7 (by omega)))
      have own3 := g7.row own3
      have own5 := g7.row own5
      have b1 := g7.blk b1
      have b4 := g7.blk b4
      have b6 := g7.blk b6
      have z7 := g7.size
      have gg := gg.trans g7
      have hone7 := own_one own7
      go_wp2_with (first | ((refine r_alloc 26 _ Tryd.ibzero rfl ?_; intro w7 B7 N7; have g7 := N7.gr; have b7 : Blk w7 B7 (bv 0 (.slice none 0 0)) 26 := N7.blk; have l7 := N7.lo; have t7 := N7.hi; have z7 := g7.size; have b1 := g7.blk b1; have b4 := g7.blk b4; have b6 := g7.blk b6; have gg := gg.trans g7; clear N7; obtain ⟨b7_0, b7_1⟩ := bcells b7); have own3 := g7.row own3; have own5 := g7.row own5; have own7 := g7.row own7) | (have hne := own_ne own3 b7 (by decide); have hne5 := own_ne own5 b7 (by decide); have hne7 := own_ne own7 b7 (by decide); (refine r_store_row 26 26 _ _ _ rfl (bv (y) (v7)) _ rfl b7 Tryd.ibsize rfl (bv_one (hone7)) rfl ?_; intro w17 u17 b7'; have z17 := u17.size; have gg := u17.gr gg (by omega); have b1 := u17.blk b1 (by omega); have b4 := u17.blk b4 (by omega); have b6 := u17.blk b6 (by omega); clear b7; have b7 := b7'; clear b7'; obtain ⟨b7_0, b7_1⟩ := bcells b7); have own3 := u17.row own3 hne; have own5 := u17.row own5 hne5; have own7 := u17.row own7 hne7) | (refine r_load_row 26 _ _ rfl _ _ _ b7 Tryd.underlying26 rfl Tryd.ibinfo rfl ?_) | (refine r_load_row 26 _ _ rfl _ _ _ b4 Tryd.underlying26 rfl Tryd.ibinfo rfl ?_))
      refine (eqBoard_same y M v7 v3 _ _ _ own7 own3 hm).mono ?_
      rintro e w8 ⟨rfl, g8⟩
      have own3 := g8.row own3
      have own5 := g8.row own5
      have own7 := g8.row own7
      have b1 := g8.blk b1
      have b4 := g8.blk b4
      have b6 := g8.blk b6
      have b7 := g8.blk b7
      have z8 := g8.size
      have gg := gg.trans g8
      go_wp2
      refine F_begin (fun w => Blk w B6 (bv z v5) 26) 3 5 #[false, false, false, false, false] rfl (by kernel_rfl) (by kernel_rfl) ?_
      have gd := (Gr.refl w8).drew
      have b1 := gd.blk b1
      have b4 := gd.blk b4
      have b6 := gd.blk b6
      have b7 := gd.blk b7
      have own3 := gd.row own3
      have own5 := gd.row own5
      have own7 := gd.row own7
      have gg := gg.trans gd
      have zd := gd.size
      generalize (w8).drew = wd at *
      refine F_take (v := .agg (bv z v5)) 0 #[true, false, false, false, false] rfl (by kernel_rfl) (fun _ _ _ h => h) rfl (fun w hF => e_load_row 26 (.tmp 8) _ _ _ _ rfl hF Tryd.underlying26 rfl Tryd.ibinfo) (b6) ?_; simp only [Act.put, List.setIfInBounds_toArray, List.set_cons_succ, List.set_cons_zero]
      refine F_one 1 #[true, true, false, false, false] rfl (by kernel_rfl) ?_
      (refine r_load_row 24 _ _ rfl _ _ _ b1 Tryd.underlying24 rfl Tryd.lbinfo rfl ?_)
      refine ⟨fun _ => b6, ?_⟩
      simp only [Act.put, List.setIfInBounds_toArray, List.set_cons_succ, List.set_cons_zero]
      refine F_one 2 #[true, true, true, false, false] rfl (by kernel_rfl) ?_
      refine r_callx 9 [.tmp 49] _ [.agg (bv z (.slice p L.length c))] (fun v w' => Gr wd w' ∧ ∃ u, v = .agg (bv z u) ∧ w'.ownsRow wd.heap.size 3 1 u L.length (intsV L)) Tryd.call9 rfl rfl ((toBoard_any z p c L _ (HR.out.gr gg) hl).mono fun e w' h => by obtain ⟨g, v, h1, h2⟩ := h; exact ⟨_, h1, g, v, rfl, h2⟩) ?_
      rintro _ wq8 ⟨gq8, vq8, rfl, ownq8⟩
      have b1 := gq8.blk b1
      have b4 := gq8.blk b4
      have b6 := gq8.blk b6
      have b7 := gq8.blk b7
      have own3 := gq8.row own3
      have own5 := gq8.row own5
      have own7 := gq8.row own7
      have gg := gg.trans gq8
      have zq8 := gq8.size
      refine ⟨fun _ => b6, ?_⟩
      simp only [Act.put, List.setIfInBounds_toArray, List.set_cons_succ, List.set_cons_zero]
      refine F_one 3 #[true, true, true, true, false] rfl (by kernel_rfl) ?_
      refine r_call 11 [.tmp 48, .tmp 50] _ [.agg (bv z v5), .agg (bv z vq8)] (.bool true) (fun w' => Gr wq8 w') Tryd.call11 rfl rfl (eqBoard_same z L v5 vq8 _ _ wq8 own5 ownq8 hl) ?_
      intro wq9 gq9
      have b1 := gq9.blk b1
      have b4 := gq9.blk b4
      have b6 := gq9.blk b6
      have b7 := gq9.blk b7
      have own3 := gq9.row own3
      have own5 := gq9.row own5
      have own7 := gq9.row own7
      have gg := gg.trans gq9
      have zq9 := gq9.size
      refine ⟨fun h => (by cases h), ?_⟩
      simp only [Act.put, List.setIfInBounds_toArray, List.set_cons_succ, List.set_cons_zero]
      refine F_one 4 #[true, true, true, true, true] rfl (by kernel_rfl) ?_
      refine r_val (.bool false) rfl rfl ?_
      refine ⟨fun h => (by cases h), ?_⟩
      simp only [Act.put, List.setIfInBounds_toArray, List.set_cons_succ, List.set_cons_zero]
      refine F_done (by kernel_rfl) ?_
      go_wp2_with (refine r_load_row 26 _ _ rfl _ _ _ b6 Tryd.underlying26 rfl Tryd.ibinfo rfl ?_)
      have hn4 := own_ne own5 b4 (by decide)
      have hn7 := own_ne own5 b7 (by decide)
      have hn1 := own_ne own5 b1 (by decide)
      refine (markBoard_any z L v5 1 _ _ own5 hl (by decide)).mono ?_
      rintro e w10 ⟨rfl, own5', g10⟩
      have own3 := g10.row own3 HA35.out
      have own7 := g10.row own7 HA75.out
      have b1 := g10.blk b1 hn1
      have b4 := g10.blk b4 hn4
      have b7 := g10.blk b7 hn7
      have gg := g10.gr gg (own_gr own5 (by omega))
      have z10 := g10.size
      clear own5' own5
      obtain ⟨n5, hn5⟩ : ∃ n : Nat, n = 1 + L.length := ⟨_, rfl⟩
      rw [← hn5]
      have hn5b : n5 ≤ 1048577 := by omega
      clear hn5
      go_wp2_with (first | (refine r_load_row 26 _ _ rfl _ _ _ b7 Tryd.underlying26 rfl Tryd.ibinfo rfl ?_) | (refine r_load_row 26 _ _ rfl _ _ _ b4 Tryd.underlying26 rfl Tryd.ibinfo rfl ?_) | ((go_at_call 11; refine (eqBoard_same y M v7 v3 _ _ _ own7 own3 hm).mono ?_; rintro e w11 ⟨rfl, g11⟩; have z11 := g11.size; have b1 := g11.blk b1; have b4 := g11.blk b4; have b7 := g11.blk b7; have gg := gg.trans g11); have own3 := g11.row own3; have own7 := g11.row own7))
      have hn4 := own_ne own7 b4 (by decide)
      have hn7 := own_ne own7 b7 (by decide)
      have hn1 := own_ne own7 b1 (by decide)
      refine (markBoard_any y M v7 1 _ _ own7 hm (by decide)).mono ?_
      rintro e w12 ⟨rfl, own7', g12⟩
      have own3 := g12.row own3 HA37.out
      have b1 := g12.blk b1 hn1
      have b4 := g12.blk b4 hn4
      have b7 := g12.blk b7 hn7
      have gg := g12.gr gg (own_gr own7 (by omega))
      have z12 := g12.size
      obtain ⟨n, hn⟩ : ∃ n : Nat, n = 1 + M.length := ⟨_, rfl⟩
      rw [← hn]
      have HN := hidI hn
      have hn2 : n ≤ 20 := by omega
      clear hn own7
      have own7 := own7'
      clear own7'
      go_wp2_with (refine r_load_row 26 _ _ rfl _ _ _ b7 Tryd.underlying26 rfl Tryd.ibinfo rfl ?_)
      refine (heldBoard_any y v7 M.length 1 _ _ own7 hm (by decide)).mono ?_
      rintro e w13 ⟨rfl, g13⟩
      rw [← HN.out]
      have own3 := g13.row own3
      have own7 := g13.row own7
      have b1 := g13.blk b1
      have b4 := g13.blk b4
      have b7 := g13.blk b7
      have gg := gg.trans g13
      have z13 := g13.size
      go_wp2_with (refine r_load_row 24 _ _ rfl _ _ _ b1 Tryd.underlying24 rfl Tryd.lbinfo rfl ?_)
      refine (toBoard_any z p c L _ (HR.out.gr gg) hl).mono ?_
      rintro e w18 ⟨g18, v18, rfl, own18⟩
      have own3 := g18.row own3
      have own7 := g18.row own7
      have b4 := g18.blk b4
      have b7 := g18.blk b7
      have z18 := g18.size
      have gg := gg.trans g18
      go_wp2_with fail
      refine (iMoveHole z L s v18 _ _ own18 hl).mono ?_
      rintro e w19 ⟨g19, v19, rfl, own19⟩
      rw [← HOK.out, ← HY.out]
      rw [← HM.out] at own19
      have own3 := g19.row own3
      have own7 := g19.row own7
      have b4 := g19.blk b4
      have b7 := g19.blk b7
      have z19 := g19.size
      have gg := gg.trans g19
      have hone19 := own_one own19
      go_wp2_with (first | ((refine r_alloc 26 _ Tryd.ibzero rfl ?_; intro w20 B20 N20; have g20 := N20.gr; have b20 : Blk w20 B20 (bv 0 (.slice none 0 0)) 26 := N20.blk; have l20 := N20.lo; have t20 := N20.hi; have z20 := g20.size; have b4 := g20.blk b4; have b7 := g20.blk b7; have gg := gg.trans g20; clear N20; obtain ⟨b20_0, b20_1⟩ := bcells b20); have own3 := g20.row own3; have own7 := g20.row own7; have own19 := g20.row own19) | (have hne := own_ne own3 b20 (by decide); have hne7 := own_ne own7 b20 (by decide); have hne19 := own_ne own19 b20 (by decide); (refine r_store_row 26 26 _ _ _ rfl (bv (y) (v19)) _ rfl b20 Tryd.ibsize rfl (bv_one (hone19)) rfl ?_; intro w21 u21 b20'; have z21 := u21.size; have gg := u21.gr gg (by omega); have b4 := u21.blk b4 (by omega); have b7 := u21.blk b7 (by omega); clear b20; have b20 := b20'; clear b20'; obtain ⟨b20_0, b20_1⟩ := bcells b20); have own3 := u21.row own3 hne; have own7 := u21.row own7 hne7; have own19 := u21.row own19 hne19) | (refine r_load_row 26 _ _ rfl _ _ _ b20 Tryd.underlying26 rfl Tryd.ibinfo rfl ?_) | (refine r_load_row 26 _ _ rfl _ _ _ b4 Tryd.underlying26 rfl Tryd.ibinfo rfl ?_))
      refine (eqBoard_same y M v19 v3 _ _ _ own19 own3 hm).mono ?_
      rintro e w22 ⟨rfl, g22⟩
      have own7 := g22.row own7
      have b7 := g22.blk b7
      have gg := gg.trans g22
      go_wp2_with (refine r_load_row 26 _ _ rfl _ _ _ b7 Tryd.underlying26 rfl Tryd.ibinfo rfl ?_)
      refine (heldBoard_any y v7 M.length 1 _ _ own7 hm (by decide)).mono ?_
      rintro e w23 ⟨rfl, g23⟩
      rw [← HN.out]
      have gg := gg.trans g23
      go_wp2
      go_ret
      exact ⟨rfl, gg⟩
end Go.Proofs.YtgibpcmjfnmkdaaDoor
