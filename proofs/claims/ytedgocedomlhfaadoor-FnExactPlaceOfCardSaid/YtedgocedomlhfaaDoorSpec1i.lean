/-
  What the model's functions that look for balls return, and the law on the numbers of balls.
-/
import Derived.Test.YtedgocedomlhfaaDoorSpec1h
import Derived.Test.YtedgocedomlhfaaDoorImpl1j
namespace Go.Proofs.YtedgocedomlhfaaDoor
open Go.RowKit
set_option maxHeartbeats 2000000 in
set_option maxRecDepth 100000 in
theorem tyBalls_any (W H base : Nat) (c : List UInt8) (G cap : Nat) (w : World) (h36 : c.length ≤ 36) (hown : w.ownsRow base 5 1 (.slice (some ⟨G, 0, none⟩) c.length cap) c.length (cellsV c)) :
    Calls Tryd.prog 44 #[.agg (tg W H (.slice (some ⟨G, 0, none⟩) c.length cap))] w fun e w' => Gr w w' ∧ ∃ v, e = .returned v ∧ w'.ownsRow w.heap.size 3 1 v (ballsTo isBallB c c.length).length (intsV (ballsTo isBallB c c.length)) := by
  have gg := Gr.refl w
  go_enter Tryd.func44, Tryd.ntmps44
  go_wp2_with (refine r_box 41 _ (tg (W) (H) (.slice (some ⟨G, 0, none⟩) c.length cap)) rfl rfl ?_; intro w1 B1 N1; have g1 := N1.gr; have b1 : Blk w1 B1 (tg (W) (H) (.slice (some ⟨G, 0, none⟩) c.length cap)) 41 := N1.blk; have l1 := N1.lo; have t1 := N1.hi; have z1 := g1.size; have gg := gg.trans g1; clear N1; obtain ⟨b1_0, b1_1, b1_2⟩ := tcells b1)
  have own0 : w1.ownsRow w.heap.size 3 1 (.slice none 0 0) (ballsTo isBallB c 0).length (intsV (ballsTo isBallB c 0)) := World.ownsRow_nil _ _ _ _
  go_loopw [3, 4, 5, 9] (fun bv _ _ i wr => ∃ k : Nat, k ≤ c.length ∧ i = .int .i64 k ∧ wr.ownsRow w.heap.size 3 1 bv (ballsTo isBallB c k).length (intsV (ballsTo isBallB c k)) ∧ Gr w wr) (fun _ _ _ i _ => c.length - (intOf i).toNat)
  case atStart => exact ⟨0, Nat.zero_le _, rfl, own0, gg⟩
  case round =>
    obtain ⟨k, hk, rfl, own, gg⟩ := hrel
    by_cases hlt : k < c.length
    · have hc := own_cell (gg.row hown) k hlt rfl
      have hle := ballsTo_le isBallB c k
      by_cases hb : isBallB (at0 c k) = true
      · have HS := hidI (show ballsTo isBallB c k ++ [(k : Int)] = ballsTo isBallB c (k + 1) from by rw [ballsTo, if_pos hb])
        have HB := hidI hb
        clear hb
        go_wp2_with (first | (go_at_call 65; refine (tyBall_any _ _).mono ?_; rintro e wSame ⟨rfl, rfl⟩; rw [HB.out]) | (refine r_slice1 30 3 (.tmp 17) (.int .i64 k) rfl (Tryd.bsi1 _ _) rfl ?_; intro w5 B5 N5; have g5 := N5.gr; have own5 := g5.row own; have gg5 := gg.trans g5; have z5 := g5.size) | (refine r_append (.tmp 16) (.tmp 18) 30 3 _ 1 8 w.heap.size Tryd.intsI _ _ (intsV (ballsTo isBallB c k)) rfl own5 ⟨B5, 0, none⟩ 1 1 [.int .i64 k] rfl rfl N5.cell1 (intsV_one [(k : Int)]) (by omega) (by decide) (by have := gg5.size; omega) rfl ?_; intro v6 w6 own6 g6))
        have gg6 := g6.gr gg5 (own_gr own5 (Nat.le_refl _))
        have own7 : w6.ownsRow w.heap.size 3 1 v6 (ballsTo isBallB c (k + 1)).length (intsV (ballsTo isBallB c (k + 1))) := by
          rw [← HS.out, ← intsV_append, List.length_append]
          exact own6
        go_roundw
        case rel => exact ⟨k + 1, by omega, by go_num, own7, gg6⟩
        case measure => simp [intOf]; omega
      · have HS := hidI (show ballsTo isBallB c k = ballsTo isBallB c (k + 1) from by rw [ballsTo, if_neg hb])
        have HB := hidI (show isBallB (at0 c k) = false from by simpa using hb)
        clear hb
        go_wp2_with (go_at_call 65; refine (tyBall_any _ _).mono ?_; rintro e wSame ⟨rfl, rfl⟩; rw [HB.out])
        go_roundw
        case rel => exact ⟨k + 1, by omega, by go_num, by rw [← HS.out]; exact own, gg⟩
        case measure => simp [intOf]; omega
    · obtain rfl : k = c.length := by omega
      clear hlt
      go_wp2
      go_ret
      exact ⟨gg, _, rfl, own⟩
set_option maxHeartbeats 2000000 in
set_option maxRecDepth 100000 in
theorem sBallsOf (s : ByteArray) (w : World) (hs : s.size ≤ 1048576) : Calls Tryd.prog 18 #[.string s] w (RetInts 3 (blL s.data.toList) (rdOk s.data.toList) w) := by
  have gg := Gr.refl w
  go_enter Tryd.func18, Tryd.ntmps18
  go_wp2_with fail
  refine (tyRead_any s _ hs).mono ?_
  rintro e w1 ⟨g1, ⟨hp, rfl⟩ | ⟨g, sl, hp, rfl, hown⟩⟩
  · have HV := hidI (show blL s.data.toList = [] ∧ rdOk s.data.toList = false from by unfold blL; rw [(rd_parse_none hp).1]; exact ⟨rfl, (rd_parse_none hp).2⟩)
    have z1 := g1.size
    have gg := gg.trans g1
    clear hp
    go_wp2_with (first | (refine r_alloc 41 _ Tryd.tzero rfl ?_; intro w2 B2 N2; have g2 := N2.gr; have b2 : Blk w2 B2 (tg 0 0 (.slice none 0 0)) 41 := N2.blk; have l2 := N2.lo; have t2 := N2.hi; have z2 := g2.size; have gg := gg.trans g2; clear N2; obtain ⟨b2_0, b2_1, b2_2⟩ := tcells b2) | (refine r_store_row 41 41 _ _ _ rfl (tg _ _ _) _ rfl b2 Tryd.tsize rfl (tg_one rfl) rfl ?_; intro w3 u3 b2'; have z3 := u3.size; have gg := u3.gr gg (by omega); clear b2; have b2 := b2'; clear b2'; obtain ⟨b2_0, b2_1, b2_2⟩ := tcells b2))
    go_ret2
    exact ⟨gg, _, fin_vb HV.out.2.symm, by rw [HV.out.1]; exact World.ownsRow_nil _ _ _ _⟩
  · obtain ⟨hg, hk⟩ := rd_parse_some hp
    have ht := parse_tray hp
    have z1 := g1.size
    have gg := gg.trans g1
    have hone := own_one hown
    have n36 := ht.n36
    have hlen := ht.len
    have hl1 : 0 < g.c.length := by rw [hlen]; exact Nat.mul_pos ht.w1 ht.h1
    have h36 : g.c.length ≤ 36 := by omega
    obtain ⟨G, cap, rfl, hG, hcap⟩ := own_shape hown hl1
    have HV := hidI (show ballsTo isBallB g.c g.c.length = blL s.data.toList from by unfold blL; rw [hg, hlen])
    have HK := hidI hk
    clear hp hg hk ht hlen
    go_wp2_with (first | (refine r_alloc 41 _ Tryd.tzero rfl ?_; intro w2 B2 N2; have g2 := N2.gr; have b2 : Blk w2 B2 (tg 0 0 (.slice none 0 0)) 41 := N2.blk; have l2 := N2.lo; have t2 := N2.hi; have z2 := g2.size; have gg := gg.trans g2; clear N2; obtain ⟨b2_0, b2_1, b2_2⟩ := tcells b2) | (refine r_store_row 41 41 _ _ _ rfl (tg _ _ _) _ rfl b2 Tryd.tsize rfl (tg_one hone) rfl ?_; intro w3 u3 b2'; have z3 := u3.size; have gg := u3.gr gg (by omega); clear b2; have b2 := b2'; clear b2'; obtain ⟨b2_0, b2_1, b2_2⟩ := tcells b2) | (refine r_load_row 41 _ _ rfl _ _ _ b2 Tryd.underlying41 rfl Tryd.tinfo rfl ?_))
    refine (tyBalls_any g.w g.h w.heap.size g.c G cap _ h36 (u3.row (g2.row hown) (own_new hown l2))).mono ?_
    rintro e w4 ⟨g4, v4, rfl, own4⟩
    rw [HV.out] at own4
    have gg := gg.trans g4
    have z3 := u3.size
    go_wp2
    go_ret2
    exact ⟨gg, _, fin_vb HK.out.symm, own_up own4 (by have := g1.size; have := g2.size; omega)⟩
theorem own_apart {w1 w2 : World} {b1 b2 : Nat} {e1 e2 : TypeId} {s1 s2 : Nat} {v1 v2 : Value} {n1 n2 : Nat} {x1 x2 : List Value} (h1 : w1.ownsRow b1 e1 s1 v1 n1 x1) (h2 : w2.ownsRow b2 e2 s2 v2 n2 x2) (hb : w1.heap.size ≤ b2) : v1.ownBlock = none ∨ v1.ownBlock ≠ v2.ownBlock := by
  cases h : v1.ownBlock with
  | none => exact .inl rfl
  | some k =>
    refine .inr fun e => ?_
    have a := (h1.lt k h).2
    have b := (h2.lt k e.symm).1
    omega
theorem blL_le (l : List UInt8) : (blL l).length ≤ 36 := by
  have h := ballsTo_le isBallB (rdG l).c (nn (rdG l).w (rdG l).h)
  have := (rd_small l).n36
  unfold blL; omega
set_option maxHeartbeats 4000000 in
set_option maxRecDepth 100000 in
theorem lawBallsOf (s : ByteArray) (w : World) (hm : ML w) : Calls Tryd.prog 6 #[.string s] w (Ret (.bool true) w) := by
  have gg := Gr.refl w
  by_cases hs : 1048576 < s.size
  · go_enter Tryd.func6, Tryd.ntmps6
    go_wp2
    go_ret
    exact ⟨rfl, gg⟩
  · have hs' : s.size ≤ 1048576 := by omega
    have hle := blL_le s.data.toList
    clear hs
    obtain ⟨L, hL⟩ : ∃ L, L = blL s.data.toList := ⟨_, rfl⟩
    obtain ⟨ok, hok⟩ : ∃ ok, ok = rdOk s.data.toList := ⟨_, rfl⟩
    have HL := hidI hL
    have HOK := hidI hok
    rw [← hL] at hle
    clear hL hok
    go_enter Tryd.func6, Tryd.ntmps6
    go_wp2_with fail
    refine (sBallsOf s _ hs').mono ?_
    rintro e w1 ⟨g1, v1, rfl, own1⟩
    rw [← HL.out] at own1
    have gg := gg.trans g1
    rw [← HOK.out]
    go_wp2_with fail
    refine (iBallsOf s _ (gg.ml hm) hs').mono ?_
    rintro e w2 ⟨g2, v2, rfl, own2⟩
    rw [← HL.out] at own2
    rw [← HOK.out]
    have gg := gg.trans g2
    have HAP := hidI (own_apart own1 own2 (Nat.le_refl _))
    have own1 := g2.row own1
    go_wp2_with fail
    refine (eqIntS_any v2 v1 L L _ _ _ own2 own1 (by omega)).mono ?_
    rintro e w3 ⟨rfl, g3⟩
    rw [decide_eq_true rfl]
    have own1 := g3.row own1
    have own2 := g3.row own2
    have gg := gg.trans g3
    go_wp2_with fail
    refine (markIntS_any v2 L 1 _ _ own2 (by omega) (by decide)).mono ?_
    rintro e w4 ⟨rfl, own2', g4, z4⟩
    have own1 := g4.row own1 HAP.out
    have gg := g4.gr gg (own_gr own2 (by have := g1.size; omega))
    obtain ⟨n, hn⟩ : ∃ n : Nat, n = 1 + L.length := ⟨_, rfl⟩
    rw [← hn]
    have HN := hidI hn
    have hn2 : n ≤ 37 := by omega
    clear hn
    have own2 := own2'
    clear own2'
    go_wp2_with fail
    refine (heldIntS_any v2 L.length 1 _ _ own2 (by omega) (by decide)).mono ?_
    rintro e w5 ⟨rfl, g5⟩
    rw [← HN.out]
    have own1 := g5.row own1
    have own2 := g5.row own2
    have gg := gg.trans g5
    go_wp2_with fail
    refine (iBallsOf s _ (gg.ml hm) hs').mono ?_
    rintro e w6 ⟨g6, v6, rfl, own6⟩
    rw [← HL.out] at own6
    rw [← HOK.out]
    have gg := gg.trans g6
    have own1 := g6.row own1
    have own2 := g6.row own2
    go_wp2_with fail
    refine (eqIntS_any v6 v1 L L _ _ _ own6 own1 (by omega)).mono ?_
    rintro e w7 ⟨rfl, g7⟩
    rw [decide_eq_true rfl]
    have own2 := g7.row own2
    have gg := gg.trans g7
    go_wp2_with fail
    refine (heldIntS_any v2 L.length 1 _ _ own2 (by omega) (by decide)).mono ?_
    rintro e w8 ⟨rfl, g8⟩
    rw [← HN.out]
    have gg := gg.trans g8
    go_wp2
    go_ret
    exact ⟨rfl, gg⟩
end Go.Proofs.YtedgocedomlhfaaDoor
