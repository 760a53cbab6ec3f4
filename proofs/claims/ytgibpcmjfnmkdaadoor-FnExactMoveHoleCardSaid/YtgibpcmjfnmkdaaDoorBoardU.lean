/-
  Moves of the hole in the model.
-/
import Derived.Test.YtgibpcmjfnmkdaaDoorBoardV
import Derived.Test.YtgibpcmjfnmkdaaDoorBoardO
import Derived.Test.YtgibpcmjfnmkdaaDoorTiltYF
namespace Go.Proofs.YtgibpcmjfnmkdaaDoor
open Go.RowKit
theorem Tryd.bs0B (w : World) : (Instr.buildSlice 22 0 #[]).run Tryd.prog w = .ok (.slice (some ⟨w.heap.size, 0, none⟩) 0 0) (w.alloc (.cells #[] 3)) := by kernel_rfl
set_option maxHeartbeats 400000 in
set_option maxRecDepth 100000 in
theorem l1Own_any (v : Value) (L : List Int) (base : Nat) (w : World) (hown : w.ownsRow base 3 1 v L.length (intsV L)) (hl : L.length ≤ 1048576) :
    Calls Tryd.prog 29 #[v] w fun e w' => Gr w w' ∧ ∃ u, e = .returned u ∧ w'.ownsRow w.heap.size 3 1 u L.length (intsV L) := by
  have gg := Gr.refl w
  obtain ⟨p, m, q, rfl⟩ := own_slice hown
  obtain rfl := own_len hown
  have HRD := hidI (Rd.of_own hown)
  have HLI := hidI (intsV_one L)
  clear hown
  go_enter Tryd.func29, Tryd.ntmps29
  go_wp2_with (first | (refine r_slice0 22 3 (Tryd.bs0B _) rfl ?_; intro w1 B1 g1 own1; have gg := gg.trans g1; have z1 := g1.size) | (refine r_append_any (.tmp 3) (.tmp 4) 22 3 _ 8 w.heap.size Tryd.intsI _ 0 [] rfl own1 p L.length q (intsV L) rfl (HRD.out.gr gg) HLI.out (by omega) (by decide) (by omega) rfl ?_; intro v2 w2 own2 g2; have gg := g2.gr gg (own_gr own1 (Nat.le_refl _))))
  go_ret
  refine ⟨gg, v2, rfl, ?_⟩
  have e : 0 + L.length = L.length := Nat.zero_add _
  rw [e] at own2
  exact own2
set_option maxHeartbeats 2000000 in
set_option maxRecDepth 100000 in
theorem blMove_any (W H k r : Nat) (L : List Int) (v : Value) (base : Nat) (w : World) (hown : w.ownsRow base 3 1 v L.length (intsV L)) (hW : 1 ≤ W) (hW3 : W ≤ 3) (hH3 : H ≤ 3) (hl : L.length = nn W H) (h0 : (0 : Int) ∈ L) (hk : k < 4) (hr : ahd W H (hI L) k = some r) :
    Calls Tryd.prog 31 #[.agg (bv W v), .int .i64 k] w (RetB 3 W (mvL L (hI L) r) w) := by
  have gg := Gr.refl w
  have h9 : nn W H ≤ 9 := Nat.mul_le_mul hW3 hH3
  have hPl := (hI_spec h0).1
  obtain ⟨P, hP⟩ : ∃ P, P = hI L := ⟨_, rfl⟩
  obtain ⟨n, hn⟩ : ∃ n, n = L.length := ⟨_, rfl⟩
  have hrl := (ahd_lt hW (show P < nn W H by rw [hP]; omega) (by rw [hP]; exact hr)).1
  rw [← hP, ← hn] at hPl
  have hrn : r < n := by omega
  have hn1 : 1 ≤ n := by omega
  have hn9 : n ≤ 9 := by omega
  have hlm : L.length ≤ 1048576 := by omega
  have HAH := hidI (fun w h => ahead_any W H k L v base w h hW hW3 hH3 hl h0 hk)
  have HI := hidI (show ahI W H (hI L) k = (r : Nat) from ahI_some hr)
  have H0 := hidI h0
  have HP := hidI hP.symm
  have HN := hidI hn
  have HS1 := hidI (show (L.set P (gi L r)).set r 0 = mvL L P r from rfl)
  have hown2 := hown
  rw [← hn] at hown2
  obtain ⟨g0, q0, rfl, lg0, hq0⟩ := own_shape hown2 hn1
  obtain ⟨p, hp⟩ : ∃ p, p = (some ⟨g0, 0, none⟩ : Option Addr) := ⟨_, rfl⟩
  have HOW := hidI (fun w' (g : Gr w w') => g.row hown)
  have HOW2 := hidI (fun w' (g : Gr w w') => g.row hown2)
  rw [← hP]
  rw [← hp] at HOW HAH ⊢
  have HPP := hidI hp
  clear hown hown2 hl h0 hr hP hn hp hrl
  go_enter Tryd.func31, Tryd.ntmps31
  go_wp2_with (first | (refine r_box (dst := some 2) 26 _ (bv (W) (.slice p n q0)) rfl rfl ?_; intro w1 B1 N1; have g1 := N1.gr; have b1 : Blk w1 B1 (bv (W) (.slice p n q0)) 26 := N1.blk; have l1 := N1.lo; have t1 := N1.hi; have z1 := g1.size; have gg := gg.trans g1; clear N1; obtain ⟨b1_0, b1_1⟩ := bcells b1) | (refine r_alloc (dst := some 4) 26 _ Tryd.ibzero rfl ?_; intro w2 B2 N2; have g2 := N2.gr; have b2 : Blk w2 B2 (bv 0 (.slice none 0 0)) 26 := N2.blk; have l2 := N2.lo; have t2 := N2.hi; have z2 := g2.size; have b1 := g2.blk b1; have gg := gg.trans g2; clear N2; obtain ⟨b2_0, b2_1⟩ := bcells b2))
  refine F_begin (fun w => Blk w B1 (bv W (.slice p n q0)) 26) 7 8 #[false, false, false, false, false, false, false, false] rfl (by kernel_rfl) (by kernel_rfl) ?_
  have gdr := (Gr.refl w2).drew
  have b1 := gdr.blk b1
  have b2 := gdr.blk b2
  have gg := gg.trans gdr
  have zd := gdr.size
  have zg := gg.size
  generalize (w2).drew = wd at *
  clear gdr
  refine F_take (v := .pointer (some ⟨B1, 0, none⟩)) 0 #[true, false, false, false, false, false, false, false] rfl (by kernel_rfl) (fun _ _ _ h => h) rfl (fun w hF => rfl) (b1) ?_; simp only [Act.put, List.setIfInBounds_toArray, List.set_cons_succ, List.set_cons_zero]
  refine F_take (v := .int .i64 W) 1 #[true, true, false, false, false, false, false, false] rfl (by kernel_rfl) (fun _ _ _ h => h) rfl (fun w hF => e_load 3 (.tmp 8) ⟨B1, 0, none⟩ _ rfl (Tryd.isAgg3 _) ((bcells hF).1)) (b1) ?_; simp only [Act.put, List.setIfInBounds_toArray, List.set_cons_succ, List.set_cons_zero]
  refine F_take (v := .pointer (some ⟨B1, 1, none⟩)) 2 #[true, true, true, false, false, false, false, false] rfl (by kernel_rfl) (fun _ _ _ h => h) rfl (fun w hF => rfl) (b1) ?_; simp only [Act.put, List.setIfInBounds_toArray, List.set_cons_succ, List.set_cons_zero]
  refine F_take (v := .slice p n q0) 3 #[true, true, true, true, false, false, false, false] rfl (by kernel_rfl) (fun _ _ _ h => h) rfl (fun w hF => e_load 22 (.tmp 10) ⟨B1, 1, none⟩ _ rfl (Tryd.isAgg22 _) ((bcells hF).2)) (b1) ?_; simp only [Act.put, List.setIfInBounds_toArray, List.set_cons_succ, List.set_cons_zero]
  refine F_two 4 6 #[true, true, true, true, true, false, false, false] #[true, true, true, true, false, false, true, false] rfl rfl (by kernel_rfl) ?_ ?_
  case' refine_1 =>
    refine r_callx 29 [.tmp 11] _ [.slice p n q0] (fun v w' => Gr wd w' ∧ w'.ownsRow (wd).heap.size 3 1 v L.length (intsV L)) Tryd.call29 rfl rfl ((l1Own_any _ L base wd (HOW.out _ gg) hlm).mono fun e w' h => by obtain ⟨g, v, h1, h2⟩ := h; exact ⟨v, h1, g, h2⟩) ?_
    rintro v5 w5 ⟨g5, own5⟩
    have own5 := own_up own5 (show w.heap.size ≤ (wd).heap.size by omega)
    have b1 := g5.blk b1
    have b2 := g5.blk b2
    have gg := gg.trans g5
    have z5 := g5.size
    rw [← HN.out] at own5
    obtain ⟨g50, c5, rfl, l5, hc5⟩ := own_shape own5 hn1
    refine ⟨fun _ => b1, ?_⟩
    simp only [Act.put, List.setIfInBounds_toArray, List.set_cons_succ, List.set_cons_zero]
    refine F_free (v := .agg (bv W (.slice (some ⟨g50, 0, none⟩) n c5))) 5 #[true, true, true, true, true, true, false, false] rfl (by kernel_rfl) (fun _ _ _ h => h) rfl (fun _ => e_build 26 [(0, .tmp 9), (1, .tmp 12)] [(0, .int .i64 W), (1, .slice (some ⟨g50, 0, none⟩) n c5)] _ (Tryd.ibbuild _ _ _ _ _) rfl) (b1) ?_
    simp only [Act.put, List.setIfInBounds_toArray, List.set_cons_succ, List.set_cons_zero]
    refine F_one 6 #[true, true, true, true, true, true, true, false] rfl (by kernel_rfl) ?_
    (refine r_alloc 26 _ Tryd.ibzero rfl ?_; intro w6 B6 N6; have g6 := N6.gr; have b6 : Blk w6 B6 (bv 0 (.slice none 0 0)) 26 := N6.blk; have l6 := N6.lo; have t6 := N6.hi; have z6 := g6.size; have b1 := g6.blk b1; have b2 := g6.blk b2; have gg := gg.trans g6; clear N6; obtain ⟨b6_0, b6_1⟩ := bcells b6)
    have own5 := g6.row own5
    have hne6 := own_ne own5 b6 (by decide)
    refine ⟨fun _ => b1, ?_⟩
    simp only [Act.put, List.setIfInBounds_toArray, List.set_cons_succ, List.set_cons_zero]
    refine F_one 7 #[true, true, true, true, true, true, true, true] rfl (by kernel_rfl) ?_
    (refine r_store_row 26 26 _ _ _ rfl (bv (W) (.slice (some ⟨g50, 0, none⟩) n c5)) _ rfl b6 Tryd.ibsize rfl (bv_one (rfl)) rfl ?_; intro w7 u7 b6'; have z7 := u7.size; have gg := u7.gr gg (by omega); have b1 := u7.blk b1 (by omega); have b2 := u7.blk b2 (by omega); clear b6; have b6 := b6'; clear b6'; obtain ⟨b6_0, b6_1⟩ := bcells b6)
    have own5 := u7.row own5 hne6
    refine ⟨fun h => (by cases h), ?_⟩
    simp only [Act.put]
    refine F_done (by kernel_rfl) ?_
  case' refine_2 =>
    (refine r_alloc 26 _ Tryd.ibzero rfl ?_; intro w6 B6 N6; have g6 := N6.gr; have b6 : Blk w6 B6 (bv 0 (.slice none 0 0)) 26 := N6.blk; have l6 := N6.lo; have t6 := N6.hi; have z6 := g6.size; have b1 := g6.blk b1; have b2 := g6.blk b2; have gg := gg.trans g6; clear N6; obtain ⟨b6_0, b6_1⟩ := bcells b6)
    refine ⟨fun _ => b1, ?_⟩
    simp only [Act.put, List.setIfInBounds_toArray, List.set_cons_succ, List.set_cons_zero]
    refine F_one 4 #[true, true, true, true, true, false, true, false] rfl (by kernel_rfl) ?_
    refine r_callx 29 [.tmp 11] _ [.slice p n q0] (fun v w' => Gr w6 w' ∧ w'.ownsRow (w6).heap.size 3 1 v L.length (intsV L)) Tryd.call29 rfl rfl ((l1Own_any _ L base w6 (HOW.out _ gg) hlm).mono fun e w' h => by obtain ⟨g, v, h1, h2⟩ := h; exact ⟨v, h1, g, h2⟩) ?_
    rintro v5 w5 ⟨g5, own5⟩
    have own5 := own_up own5 (show w.heap.size ≤ (w6).heap.size by omega)
    have b1 := g5.blk b1
    have b2 := g5.blk b2
    have gg := gg.trans g5
    have z5 := g5.size
    rw [← HN.out] at own5
    obtain ⟨g50, c5, rfl, l5, hc5⟩ := own_shape own5 hn1
    have b6 := g5.blk b6
    refine ⟨fun _ => b1, ?_⟩
    simp only [Act.put, List.setIfInBounds_toArray, List.set_cons_succ, List.set_cons_zero]
    refine F_free (v := .agg (bv W (.slice (some ⟨g50, 0, none⟩) n c5))) 5 #[true, true, true, true, true, true, true, false] rfl (by kernel_rfl) (fun _ _ _ h => h) rfl (fun _ => e_build 26 [(0, .tmp 9), (1, .tmp 12)] [(0, .int .i64 W), (1, .slice (some ⟨g50, 0, none⟩) n c5)] _ (Tryd.ibbuild _ _ _ _ _) rfl) (b1) ?_
    simp only [Act.put, List.setIfInBounds_toArray, List.set_cons_succ, List.set_cons_zero]
    have hne6 := own_ne own5 b6 (by decide)
    refine F_one 7 #[true, true, true, true, true, true, true, true] rfl (by kernel_rfl) ?_
    (refine r_store_row 26 26 _ _ _ rfl (bv (W) (.slice (some ⟨g50, 0, none⟩) n c5)) _ rfl b6 Tryd.ibsize rfl (bv_one (rfl)) rfl ?_; intro w7 u7 b6'; have z7 := u7.size; have gg := u7.gr gg (by omega); have b1 := u7.blk b1 (by omega); have b2 := u7.blk b2 (by omega); clear b6; have b6 := b6'; clear b6'; obtain ⟨b6_0, b6_1⟩ := bcells b6)
    have own5 := u7.row own5 hne6
    refine ⟨fun h => (by cases h), ?_⟩
    simp only [Act.put]
    refine F_done (by kernel_rfl) ?_
  all_goals
    go_wp2
    refine q_whole (by kernel_rfl) (by kernel_rfl) ?_
    refine q_take (.agg (bv W (.slice p n q0))) rfl (fun w' hw' => e_load_row 26 (.tmp 2) _ _ _ _ rfl (hw'.blk b1) Tryd.underlying26 rfl Tryd.ibinfo) ?_; simp only [Act.put, List.setIfInBounds_toArray, List.set_cons_succ, List.set_cons_zero]
    refine q_call 50 [.tmp 14] _ [.agg (bv W (.slice p n q0))] (.int .i64 (P : Nat)) Tryd.call50 rfl rfl (fun w' hw' => ((blHole_any W L _ base w' (HOW.out _ (gg.trans hw')) hlm H0.out).mono fun e w'' h => ⟨by rw [h.1, HP.out], hw'.trans h.2⟩)) ?_; simp only [Act.put, List.setIfInBounds_toArray, List.set_cons_succ, List.set_cons_zero]
    refine q_take (.agg (bv W (.slice p n q0))) rfl (fun w' hw' => e_load_row 26 (.tmp 2) _ _ _ _ rfl (hw'.blk b1) Tryd.underlying26 rfl Tryd.ibinfo) ?_; simp only [Act.put, List.setIfInBounds_toArray, List.set_cons_succ, List.set_cons_zero]
    refine q_move _ (.int .i64 k) rfl rfl ?_; simp only [Act.put, List.setIfInBounds_toArray, List.set_cons_succ, List.set_cons_zero]
    refine q_call 30 [.tmp 16, .tmp 17] _ [.agg (bv W (.slice p n q0)), .int .i64 k] (.int .i64 (r : Nat)) Tryd.call30 rfl rfl (fun w' hw' => ((HAH.out w' (HOW.out _ (gg.trans hw'))).mono fun e w'' h => ⟨by rw [h.1, HI.out], hw'.trans h.2⟩)) ?_; simp only [Act.put, List.setIfInBounds_toArray, List.set_cons_succ, List.set_cons_zero]
    refine q_assign _ (.int .i64 (P : Nat)) rfl rfl ?_; simp only [Act.put, List.setIfInBounds_toArray, List.set_cons_succ, List.set_cons_zero]
    refine q_assign _ (.int .i64 (r : Nat)) rfl rfl ?_; simp only [Act.put, List.setIfInBounds_toArray, List.set_cons_succ, List.set_cons_zero]
    refine wpQuiet_nil ?_; intro w8 g8; have z8 := g8.size; have b1 := g8.blk b1; have b2 := g8.blk b2; have b6 := g8.blk b6; have gg := gg.trans g8
    have own5 := g8.row own5
    have own0 := HOW2.out _ gg
    rw [← HPP.out] at own0
    have hsz := gg.size
    go_wp2
    refine q_begin 9 (by kernel_rfl) (by kernel_rfl) ?_; simp only [List.take_succ_cons, List.take_zero, List.drop_succ_cons, List.drop_zero]
    refine q_take (.pointer (some ⟨B6, 1, none⟩)) rfl (fun w' hw' => rfl) ?_; simp only [Act.put, List.setIfInBounds_toArray, List.set_cons_succ, List.set_cons_zero]
    refine q_take (.slice (some ⟨g50, 0, none⟩) n c5) rfl (fun w' hw' => e_load 22 (.tmp 19) ⟨B6, 1, none⟩ _ rfl (Tryd.isAgg22 _) (hw'.cell (bcells b6).2)) ?_; simp only [Act.put, List.setIfInBounds_toArray, List.set_cons_succ, List.set_cons_zero]
    refine q_move _ (.int .i64 P) rfl rfl ?_; simp only [Act.put, List.setIfInBounds_toArray, List.set_cons_succ, List.set_cons_zero]
    refine q_take (.pointer (some ⟨B1, 1, none⟩)) rfl (fun w' hw' => rfl) ?_; simp only [Act.put, List.setIfInBounds_toArray, List.set_cons_succ, List.set_cons_zero]
    refine q_take (.slice p n q0) rfl (fun w' hw' => e_load 22 (.tmp 22) ⟨B1, 1, none⟩ _ rfl (Tryd.isAgg22 _) (hw'.cell (bcells b1).2)) ?_; simp only [Act.put, List.setIfInBounds_toArray, List.set_cons_succ, List.set_cons_zero]
    refine q_move _ (.int .i64 r) rfl rfl ?_; simp only [Act.put, List.setIfInBounds_toArray, List.set_cons_succ, List.set_cons_zero]
    refine q_take (.pointer (some ⟨g0, r, none⟩)) rfl (fun w' hw' => e_val _ _ ((by rw [HPP.out]; exact Tryd.isix g0 n q0 r hrn _))) ?_; simp only [Act.put, List.setIfInBounds_toArray, List.set_cons_succ, List.set_cons_zero]
    refine q_take (.int .i64 (gi L r)) rfl (fun w' hw' => e_load 3 (.tmp 25) ⟨g0, r, none⟩ _ rfl (Tryd.isAgg3 _) (hw'.cell (own_int (by rw [HPP.out] at own0; exact own0) r hrn HN.out))) ?_; simp only [Act.put, List.setIfInBounds_toArray, List.set_cons_succ, List.set_cons_zero]
    refine q_take (.pointer (some ⟨g50, P, none⟩)) rfl (fun w' hw' => e_val _ _ (Tryd.isix g50 n c5 P hPl _)) ?_; simp only [Act.put, List.setIfInBounds_toArray, List.set_cons_succ, List.set_cons_zero]
    refine wpQuiet_nil ?_; intro w11 g11; have z11 := g11.size; have b1 := g11.blk b1; have b2 := g11.blk b2; have b6 := g11.blk b6; have gg := gg.trans g11
    have own5 := g11.row own5
    refine r_store_own 3 3 _ _ g50 P n c5 w.heap.size (intsV L) rfl (.int .i64 (gi L r)) rfl own5 hPl Tryd.sizeOf3 rfl rfl ?_
    intro w12 u12 own12
    rw [intsV_set] at own12
    have hn1' := own_neB own5 b1 (by decide)
    have hn2' := own_neB own5 b2 (by decide)
    have hn6' := own_neB own5 b6 (by decide)
    have b1 := u12.blk b1 hn1'
    have b2 := u12.blk b2 hn2'
    have b6 := u12.blk b6 hn6'
    have gg := u12.gr gg l5
    obtain ⟨b6_0, b6_1⟩ := bcells b6
    go_wp2_with (first | (refine r_store_own 3 3 _ _ g50 r n c5 w.heap.size (intsV (L.set P (gi L r))) rfl (.int .i64 0) rfl own12 hrn Tryd.sizeOf3 rfl rfl ?_; intro w13 u13 own13; rw [intsV_set, HS1.out] at own13; have b2 := u13.blk b2 hn2'; have b6 := u13.blk b6 hn6'; have gg := u13.gr gg l5) | (refine r_load_row 26 _ _ rfl _ _ _ b6 Tryd.underlying26 rfl Tryd.ibinfo rfl ?_) | (have hne2 := own_ne own13 b2 (by decide); (refine r_store_row 26 26 _ _ _ rfl (bv (W) (.slice (some ⟨g50, 0, none⟩) n c5)) _ rfl b2 Tryd.ibsize rfl (bv_one (rfl)) rfl ?_; intro w14 u14 b2'; have z14 := u14.size; have gg := u14.gr gg (by omega); clear b2; have b2 := b2'; clear b2'; obtain ⟨b2_0, b2_1⟩ := bcells b2); have own13 := u14.row own13 hne2))
    refine bodyPost_ret (results_row rfl _ _ _ _ _ _ rfl b2 Tryd.underlying26 rfl Tryd.ibinfo) rfl ?_
    refine ⟨gg, _, rfl, ?_⟩
    rw [mvL_length, ← HN.out]
    exact own13
end Go.Proofs.YtgibpcmjfnmkdaaDoor
