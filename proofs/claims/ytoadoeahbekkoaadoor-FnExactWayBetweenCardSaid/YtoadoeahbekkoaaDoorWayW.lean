/-
  The least length of a way between two cells: in the program and in the model, and the law.
-/
import Derived.Test.YtoadoeahbekkoaaDoorWayT
import Derived.Test.YtoadoeahbekkoaaDoorPlace
namespace Go.Proofs.YtoadoeahbekkoaaDoor
open Go.RowKit
def wbOk (l : List UInt8) (a b : Int) : Bool := rdOk l && inB a (nn (rdG l).w (rdG l).h) && inB b (nn (rdG l).w (rdG l).h) && decide (0 ≤ gi (farL (rdG l).w (rdG l).h (rdG l).c a.toNat) b.toNat)
def wbN (l : List UInt8) (a b : Int) : Int := if wbOk l a b then gi (farL (rdG l).w (rdG l).h (rdG l).c a.toNat) b.toNat else 0
theorem wb_no {l : List UInt8} {a b : Int} (h : wbOk l a b = false) : wbN l a b = 0 := by unfold wbN; rw [h]; rfl
theorem fin_ibW {a b : Int} {x y : Bool} (h1 : a = b) (h2 : x = y) : Ending.returned (.tuple #[.int .i64 a, .bool x]) = .returned (.tuple #[.int .i64 b, .bool y]) := by rw [h1, h2]
set_option maxHeartbeats 2000000 in
set_option maxRecDepth 100000 in
theorem iWayBetween (s : ByteArray) (a b : Int) (w : World) (hm : ML w) (hs : s.size ≤ 1048576) : Calls Tryd.prog 28 #[.string s, .int .i64 a, .int .i64 b] w (Ret (.tuple #[.int .i64 (wbN s.data.toList a b), .bool (wbOk s.data.toList a b)]) w) := by
  have gg := Gr.refl w
  rcases rd_cases s.data.toList with ⟨hp, hg, hk⟩ | ⟨g, hp, hg, hk⟩
  · have HK := hidI hk
    have HY := hidI (show wbOk s.data.toList a b = false from by unfold wbOk; rw [hk]; rfl)
    have HN := hidI (wb_no HY.out)
    clear hp hg hk
    go_enter Tryd.func28, Tryd.ntmps28
    go_wp2_with (first | (go_at_call 52; refine (readTray_any s _ hm hs).mono ?_; rintro e w1 ⟨rfl, g1⟩; rw [HK.out]; have z1 := g1.size; have gg := gg.trans g1) | (refine r_alloc 74 _ Tryd.gzero rfl ?_; intro w2 B2 N2; have g2 := N2.gr; have b2 : Blk w2 B2 (gv 0 0 []) 74 := N2.blk; have l2 := N2.lo; have t2 := N2.hi; have z2 := g2.size; have gg := gg.trans g2; clear N2; obtain ⟨b2_0, b2_1, b2_2⟩ := gcells b2) | (refine r_store_row 74 74 _ _ _ rfl (gv _ _ _) _ rfl b2 (Tryd.gsize' _ _ _) (by simp only [gv_size]) (gv_one _ _ _) rfl ?_; intro w3 u3 b2'; have z3 := u3.size; have gg := u3.gr gg (by omega); clear b2; have b2 := b2'; clear b2'; obtain ⟨b2_0, b2_1, b2_2⟩ := gcells b2))
    go_ret2
    exact ⟨fin_ibW HN.out.symm HY.out.symm, gg⟩
  · have HK := hidI hk
    have HG := hidI hg
    have ht := parse_tray hp
    have hw7 := ht.w7
    have hh7 := ht.h7
    have hw1 := ht.w1
    have n36 := ht.n36
    have HYE := hidI (show wbOk s.data.toList a b = (inB a (nn g.w g.h) && inB b (nn g.w g.h) && decide (0 ≤ gi (farL g.w g.h g.c a.toNat) b.toNat)) from by unfold wbOk; rw [hk, hg]; rfl)
    have HNE := hidI (show wbN s.data.toList a b = if wbOk s.data.toList a b then gi (farL g.w g.h g.c a.toNat) b.toNat else 0 from by unfold wbN; rw [hg])
    clear hp hg hk ht
    cases ha : inB a (nn g.w g.h) with
    | false =>
      have HA := hidI ha
      have HY := hidI (show wbOk s.data.toList a b = false from by rw [HYE.out, ha]; rfl)
      have HN := hidI (wb_no HY.out)
      clear ha
      go_enter Tryd.func28, Tryd.ntmps28
      go_wp2_with (first | (go_at_call 52; refine (readTray_any s _ hm hs).mono ?_; rintro e w1 ⟨rfl, g1⟩; rw [HK.out, HG.out, gvG]; have z1 := g1.size; have gg := gg.trans g1) | (refine r_alloc 74 _ Tryd.gzero rfl ?_; intro w2 B2 N2; have g2 := N2.gr; have b2 : Blk w2 B2 (gv 0 0 []) 74 := N2.blk; have l2 := N2.lo; have t2 := N2.hi; have z2 := g2.size; have gg := gg.trans g2; clear N2; obtain ⟨b2_0, b2_1, b2_2⟩ := gcells b2) | (refine r_store_row 74 74 _ _ _ rfl (gv g.w g.h g.c) _ rfl b2 (Tryd.gsize' _ _ _) (by simp only [gv_size]) (gv_one _ _ _) rfl ?_; intro w3 u3 b2'; have z3 := u3.size; have gg := u3.gr gg (by omega); clear b2; have b2 := b2'; clear b2'; obtain ⟨b2_0, b2_1, b2_2⟩ := gcells b2) | (refine r_load_row 74 _ _ rfl _ _ _ b2 Tryd.underlying74 rfl (Tryd.ginfo' _ _ _) rfl ?_) | (go_at_call 45; refine (hasNumber_any g.w g.h g.c _ _ hw7 hh7).mono ?_; rintro e w4 ⟨rfl, g4⟩; rw [HA.out]; have b2 := g4.blk b2; have gg := gg.trans g4))
      go_ret2
      exact ⟨fin_ibW HN.out.symm HY.out.symm, gg⟩
    | true =>
      have HA := hidI ha
      cases hb : inB b (nn g.w g.h) with
      | false =>
        have HB := hidI hb
        have HY := hidI (show wbOk s.data.toList a b = false from by rw [HYE.out, ha, hb]; rfl)
        have HN := hidI (wb_no HY.out)
        clear ha hb
        go_enter Tryd.func28, Tryd.ntmps28
        go_wp2_with (first | (go_at_call 52; refine (readTray_any s _ hm hs).mono ?_; rintro e w1 ⟨rfl, g1⟩; rw [HK.out, HG.out, gvG]; have z1 := g1.size; have gg := gg.trans g1) | (refine r_alloc 74 _ Tryd.gzero rfl ?_; intro w2 B2 N2; have g2 := N2.gr; have b2 : Blk w2 B2 (gv 0 0 []) 74 := N2.blk; have l2 := N2.lo; have t2 := N2.hi; have z2 := g2.size; have gg := gg.trans g2; clear N2; obtain ⟨b2_0, b2_1, b2_2⟩ := gcells b2) | (refine r_store_row 74 74 _ _ _ rfl (gv g.w g.h g.c) _ rfl b2 (Tryd.gsize' _ _ _) (by simp only [gv_size]) (gv_one _ _ _) rfl ?_; intro w3 u3 b2'; have z3 := u3.size; have gg := u3.gr gg (by omega); clear b2; have b2 := b2'; clear b2'; obtain ⟨b2_0, b2_1, b2_2⟩ := gcells b2) | (refine r_load_row 74 _ _ rfl _ _ _ b2 Tryd.underlying74 rfl (Tryd.ginfo' _ _ _) rfl ?_) | (go_at_call 45; refine (hasNumber_any g.w g.h g.c _ _ hw7 hh7).mono ?_; rintro e w4 ⟨rfl, g4⟩; (first | rw [HA.out] | rw [HB.out]); have b2 := g4.blk b2; have gg := gg.trans g4))
        go_ret2
        exact ⟨fin_ibW HN.out.symm HY.out.symm, gg⟩
      | true =>
        have HB := hidI hb
        obtain ⟨x, rfl⟩ : ∃ x : Nat, a = x := ⟨a.toNat, by have := (inB_true.1 ha).1; omega⟩
        obtain ⟨y, rfl⟩ : ∃ y : Nat, b = y := ⟨b.toNat, by have := (inB_true.1 hb).1; omega⟩
        have hx : x < nn g.w g.h := by have := (inB_true.1 ha).2; omega
        have hy : y < nn g.w g.h := by have := (inB_true.1 hb).2; omega
        obtain ⟨R, hR⟩ : ∃ R, R = farL g.w g.h g.c x := ⟨_, rfl⟩
        have HST := hidI (fun (w : World) => show Calls Tryd.prog 74 #[.agg (gv g.w g.h g.c), .int .i64 x] w (RetRow 3 R w) from hR ▸ stepsFrom_any g.w g.h x g.c w hw1 hw7 hh7 hx n36)
        have HRL := hidI (show R.length = nn g.w g.h from by rw [hR]; exact (farL_ok hx).1)
        obtain ⟨z, hz⟩ : ∃ z, z = gi R y := ⟨_, rfl⟩
        have HYZ := hidI (show wbOk s.data.toList x y = decide (0 ≤ z) from by rw [HYE.out, ha, hb, hz, hR]; rfl)
        have HNZ := hidI (show wbN s.data.toList x y = if wbOk s.data.toList x y then z else 0 from by rw [HNE.out, hz, hR]; rfl)
        have HZ := hidI hz
        clear ha hb hR hz
        go_enter Tryd.func28, Tryd.ntmps28
        go_wp2_with (first | (go_at_call 52; refine (readTray_any s _ hm hs).mono ?_; rintro e w1 ⟨rfl, g1⟩; rw [HK.out, HG.out, gvG]; have z1 := g1.size; have gg := gg.trans g1) | (refine r_alloc 74 _ Tryd.gzero rfl ?_; intro w2 B2 N2; have g2 := N2.gr; have b2 : Blk w2 B2 (gv 0 0 []) 74 := N2.blk; have l2 := N2.lo; have t2 := N2.hi; have z2 := g2.size; have gg := gg.trans g2; clear N2; obtain ⟨b2_0, b2_1, b2_2⟩ := gcells b2) | (refine r_store_row 74 74 _ _ _ rfl (gv g.w g.h g.c) _ rfl b2 (Tryd.gsize' _ _ _) (by simp only [gv_size]) (gv_one _ _ _) rfl ?_; intro w3 u3 b2'; have z3 := u3.size; have gg := u3.gr gg (by omega); clear b2; have b2 := b2'; clear b2'; obtain ⟨b2_0, b2_1, b2_2⟩ := gcells b2) | (refine r_load_row 74 _ _ rfl _ _ _ b2 Tryd.underlying74 rfl (Tryd.ginfo' _ _ _) rfl ?_) | (go_at_call 45; refine (hasNumber_any g.w g.h g.c _ _ hw7 hh7).mono ?_; rintro e w4 ⟨rfl, g4⟩; (first | rw [HA.out] | rw [HB.out]); have b2 := g4.blk b2; have gg := gg.trans g4) | (go_at_call 74; refine (HST.out _).mono ?_; rintro e w5 ⟨g5, v5, rfl, own5⟩; have gg := gg.trans g5; rw [HRL.out] at own5; obtain ⟨G5, c5, rfl, -, -⟩ := own_shape own5 (by omega); have hz5 := own_int own5 y hy HRL.out.symm; rw [← HZ.out] at hz5) | (refine r_idx 40 _ _ (.slice (some ⟨G5, 0, none⟩) (nn g.w g.h) c5) (.int .i64 y) _ rfl rfl (Tryd.wix0 G5 (nn g.w g.h) c5 y hy _) rfl ?_) | (refine r_ldc 3 _ ⟨G5, y, none⟩ (.int .i64 z) rfl (Tryd.isAgg3 _) hz5 rfl ?_))
        all_goals go_ret2
        · have HY := hidI (show wbOk s.data.toList x y = false from by rw [HYZ.out]; exact decide_eq_false (by omega))
          exact ⟨fin_ibW (wb_no HY.out).symm HY.out.symm, gg⟩
        · have HY := hidI (show wbOk s.data.toList x y = true from by rw [HYZ.out]; exact decide_eq_true (by omega))
          exact ⟨fin_ibW (by rw [HNZ.out, HY.out]; rfl) HY.out.symm, gg⟩
set_option maxHeartbeats 2000000 in
set_option maxRecDepth 100000 in
theorem sWayBetween (s : ByteArray) (a b : Int) (w : World) (hs : s.size ≤ 1048576) : Calls Tryd.prog 27 #[.string s, .int .i64 a, .int .i64 b] w (Ret (.tuple #[.int .i64 (wbN s.data.toList a b), .bool (wbOk s.data.toList a b)]) w) := by
  have gg := Gr.refl w
  go_enter Tryd.func27, Tryd.ntmps27
  go_wp2_with fail
  refine (tyRead_any s _ hs).mono ?_
  rintro e w1 ⟨g1, ⟨hp, rfl⟩ | ⟨g, sl, hp, rfl, hown⟩⟩
  · have HY := hidI (show wbOk s.data.toList a b = false from by unfold wbOk; rw [(rd_parse_none hp).2]; rfl)
    have HN := hidI (wb_no HY.out)
    have z1 := g1.size
    have gg := gg.trans g1
    clear hp
    go_wp2_with (first | (refine r_alloc 57 _ Tryd.tzero rfl ?_; intro w2 B2 N2; have g2 := N2.gr; have b2 : Blk w2 B2 (tg 0 0 (.slice none 0 0)) 57 := N2.blk; have l2 := N2.lo; have t2 := N2.hi; have z2 := g2.size; have gg := gg.trans g2; clear N2; obtain ⟨b2_0, b2_1, b2_2⟩ := tcells b2) | (refine r_store_row 57 57 _ _ _ rfl (tg _ _ _) _ rfl b2 Tryd.tsize rfl (tg_one rfl) rfl ?_; intro w3 u3 b2'; have z3 := u3.size; have gg := u3.gr gg (by omega); clear b2; have b2 := b2'; clear b2'; obtain ⟨b2_0, b2_1, b2_2⟩ := tcells b2))
    go_ret2
    exact ⟨fin_ibW HN.out.symm HY.out.symm, gg⟩
  · obtain ⟨hg, hk⟩ := rd_parse_some hp
    have ht := parse_tray hp
    have z1 := g1.size
    have gg := gg.trans g1
    have hone := own_one hown
    have hw7 := ht.w7
    have hh7 := ht.h7
    have hw1 := ht.w1
    have n36 := ht.n36
    have hl1 : 0 < g.c.length := by rw [ht.len]; exact Nat.mul_pos ht.w1 ht.h1
    obtain ⟨N, hN⟩ : ∃ N, N = g.c.length := ⟨_, rfl⟩
    have hNn : N = nn g.w g.h := by rw [hN, ht.len]
    have HYE := hidI (show wbOk s.data.toList a b = (inB a N && inB b N && decide (0 ≤ gi (farL g.w g.h g.c a.toNat) b.toNat)) from by unfold wbOk; rw [hk, hg, hNn]; rfl)
    have HNE := hidI (show wbN s.data.toList a b = if wbOk s.data.toList a b then gi (farL g.w g.h g.c a.toNat) b.toNat else 0 from by unfold wbN; rw [hg])
    rw [← hN] at hown hl1
    obtain ⟨G, cap, rfl, -, -⟩ := own_shape hown hl1
    have HNN := hidI hNn
    have HCL := hidI hN
    have hN36 : N ≤ 36 := by omega
    clear hp hg hk ht hN hNn
    cases ha : inB a N with
    | false =>
      have HA := hidI ((btw_inB a N).trans ha)
      have HY := hidI (show wbOk s.data.toList a b = false from by rw [HYE.out, ha]; rfl)
      have HN := hidI (wb_no HY.out)
      clear ha
      go_wp2_with (first | (refine r_alloc 57 _ Tryd.tzero rfl ?_; intro w2 B2 N2; have g2 := N2.gr; have b2 : Blk w2 B2 (tg 0 0 (.slice none 0 0)) 57 := N2.blk; have l2 := N2.lo; have t2 := N2.hi; have z2 := g2.size; have gg := gg.trans g2; clear N2; obtain ⟨b2_0, b2_1, b2_2⟩ := tcells b2) | (refine r_store_row 57 57 _ _ _ rfl (tg _ _ _) _ rfl b2 Tryd.tsize rfl (tg_one hone) rfl ?_; intro w3 u3 b2'; have z3 := u3.size; have gg := u3.gr gg (by omega); clear b2; have b2 := b2'; clear b2'; obtain ⟨b2_0, b2_1, b2_2⟩ := tcells b2) | (go_at_call 73; refine (l1In_any _ _ _ _).mono ?_; rintro e wSame ⟨rfl, rfl⟩; rw [HA.out]))
      go_ret2
      exact ⟨fin_ibW HN.out.symm HY.out.symm, gg⟩
    | true =>
      have HA := hidI ((btw_inB a N).trans ha)
      cases hb : inB b N with
      | false =>
        have HB := hidI ((btw_inB b N).trans hb)
        have HY := hidI (show wbOk s.data.toList a b = false from by rw [HYE.out, ha, hb]; rfl)
        have HN := hidI (wb_no HY.out)
        clear ha hb
        go_wp2_with (first | (refine r_alloc 57 _ Tryd.tzero rfl ?_; intro w2 B2 N2; have g2 := N2.gr; have b2 : Blk w2 B2 (tg 0 0 (.slice none 0 0)) 57 := N2.blk; have l2 := N2.lo; have t2 := N2.hi; have z2 := g2.size; have gg := gg.trans g2; clear N2; obtain ⟨b2_0, b2_1, b2_2⟩ := tcells b2) | (refine r_store_row 57 57 _ _ _ rfl (tg _ _ _) _ rfl b2 Tryd.tsize rfl (tg_one hone) rfl ?_; intro w3 u3 b2'; have z3 := u3.size; have gg := u3.gr gg (by omega); clear b2; have b2 := b2'; clear b2'; obtain ⟨b2_0, b2_1, b2_2⟩ := tcells b2) | (go_at_call 73; refine (l1In_any _ _ _ _).mono ?_; rintro e wSame ⟨rfl, rfl⟩; first | rw [HA.out] | rw [HB.out]))
        go_ret2
        exact ⟨fin_ibW HN.out.symm HY.out.symm, gg⟩
      | true =>
        have HB := hidI ((btw_inB b N).trans hb)
        obtain ⟨x, rfl⟩ : ∃ x : Nat, a = x := ⟨a.toNat, by have := (inB_true.1 ha).1; omega⟩
        obtain ⟨y, rfl⟩ : ∃ y : Nat, b = y := ⟨b.toNat, by have := (inB_true.1 hb).1; omega⟩
        have hx : x < N := by have := (inB_true.1 ha).2; omega
        have hy : y < N := by have := (inB_true.1 hb).2; omega
        obtain ⟨R, hR⟩ : ∃ R, R = farL g.w g.h g.c x := ⟨_, rfl⟩
        have HST := hidI (fun (w' : World) (ho : w'.ownsRow w.heap.size 5 1 (.slice (some ⟨G, 0, none⟩) N cap) N (cellsV g.c)) => show Calls Tryd.prog 67 #[.agg (tg g.w g.h (.slice (some ⟨G, 0, none⟩) N cap)), .int .i64 x] w' (RetRow 3 R w') from hR ▸ tyFar_any g.w g.h x w.heap.size G cap N g.c w' hw1 hw7 hh7 HNN.out hx hN36 HCL.out ho)
        have HRL := hidI (show R.length = N from by rw [hR, HNN.out]; exact (farL_ok (by rw [← HNN.out]; exact hx)).1)
        obtain ⟨z, hz⟩ : ∃ z, z = gi R y := ⟨_, rfl⟩
        have HYZ := hidI (show wbOk s.data.toList x y = decide (0 ≤ z) from by rw [HYE.out, ha, hb, hz, hR]; rfl)
        have HNZ := hidI (show wbN s.data.toList x y = if wbOk s.data.toList x y then z else 0 from by rw [HNE.out, hz, hR]; rfl)
        have HZ := hidI hz
        clear ha hb hR hz
        go_wp2_with (first | (refine r_alloc 57 _ Tryd.tzero rfl ?_; intro w2 B2 N2; have g2 := N2.gr; have b2 : Blk w2 B2 (tg 0 0 (.slice none 0 0)) 57 := N2.blk; have l2 := N2.lo; have t2 := N2.hi; have z2 := g2.size; have gg := gg.trans g2; clear N2; obtain ⟨b2_0, b2_1, b2_2⟩ := tcells b2) | (refine r_store_row 57 57 _ _ _ rfl (tg _ _ _) _ rfl b2 Tryd.tsize rfl (tg_one hone) rfl ?_; intro w3 u3 b2'; have z3 := u3.size; have gg := u3.gr gg (by omega); clear b2; have b2 := b2'; clear b2'; obtain ⟨b2_0, b2_1, b2_2⟩ := tcells b2) | (refine r_load_row 57 _ _ rfl _ _ _ b2 Tryd.underlying57 rfl Tryd.tinfo rfl ?_) | (go_at_call 73; refine (l1In_any _ _ _ _).mono ?_; rintro e wSame ⟨rfl, rfl⟩; first | rw [HA.out] | rw [HB.out]) | (go_at_call 67; refine (HST.out _ (u3.row (g2.row hown) (own_new hown l2))).mono ?_; rintro e w5 ⟨g5, v5, rfl, own5⟩; have gg := gg.trans g5; rw [HRL.out] at own5; obtain ⟨G5, c5, rfl, -, -⟩ := own_shape own5 (by omega); have hz5 := own_int own5 y hy HRL.out.symm; rw [← HZ.out] at hz5) | (refine r_idx 40 _ _ (.slice (some ⟨G5, 0, none⟩) N c5) (.int .i64 y) _ rfl rfl (Tryd.wix0 G5 N c5 y hy _) rfl ?_) | (refine r_ldc 3 _ ⟨G5, y, none⟩ (.int .i64 z) rfl (Tryd.isAgg3 _) hz5 rfl ?_))
        all_goals go_ret2
        · have HY := hidI (show wbOk s.data.toList x y = false from by rw [HYZ.out]; exact decide_eq_false (by omega))
          exact ⟨fin_ibW (wb_no HY.out).symm HY.out.symm, gg⟩
        · have HY := hidI (show wbOk s.data.toList x y = true from by rw [HYZ.out]; exact decide_eq_true (by omega))
          exact ⟨fin_ibW (by rw [HNZ.out, HY.out]; rfl) HY.out.symm, gg⟩
set_option maxHeartbeats 1000000 in
theorem lawWayBetween (s : ByteArray) (a b : Int) (w : World) (hm : ML w) : Calls Tryd.prog 9 #[.string s, .int .i64 a, .int .i64 b] w (Ret (.bool true) w) := by
  have gg := Gr.refl w
  by_cases hs : 1048576 < s.size
  · go_enter Tryd.func9, Tryd.ntmps9
    go_wp2
    go_ret
    exact ⟨rfl, gg⟩
  · have hs' : s.size ≤ 1048576 := by omega
    clear hs
    go_enter Tryd.func9, Tryd.ntmps9
    go_wp2_with (first | (go_at_call 27; refine (sWayBetween s a b _ hs').mono ?_; rintro e w1 ⟨rfl, g1⟩; have z1 := g1.size; have gg := gg.trans g1) | (go_at_call 28; refine (iWayBetween s a b _ (gg.ml hm) hs').mono ?_; rintro e w2 ⟨rfl, g2⟩; have z2 := g2.size; have gg := gg.trans g2))
    go_ret
    exact ⟨rfl, gg⟩
end Go.Proofs.YtoadoeahbekkoaaDoor
