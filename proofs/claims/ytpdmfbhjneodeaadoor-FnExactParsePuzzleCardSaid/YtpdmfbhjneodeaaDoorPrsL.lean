/-
  The law of ParsePuzzle.
-/
import Derived.Test.YtpdmfbhjneodeaaDoorPrsU
namespace Go.Proofs.YtpdmfbhjneodeaaDoor
open Go.RowKit
set_option maxHeartbeats 1000000 in
set_option maxRecDepth 100000 in
theorem sParsePuzzle (s : ByteArray) (w : World) : Calls Tryd.prog 5 #[.string s] w (Ret (.tuple #[.agg (ppA s.data.toList), .bool (ppL s.data.toList).isSome]) w) := by
  have gg := Gr.refl w
  have HA := hidI (puParse_any s)
  obtain ⟨p, n, k, hp⟩ : ∃ p n k, ppA s.data.toList = pv p n k := by
    unfold ppA
    split
    · exact ⟨_, _, _, rfl⟩
    · exact ⟨_, _, _, rfl⟩
  obtain ⟨b, hb⟩ : ∃ b, b = (ppL s.data.toList).isSome := ⟨_, rfl⟩
  rw [hp, ← hb] at HA
  rw [hp, ← hb]
  clear hp hb
  go_enter Tryd.func5, Tryd.ntmps5
  go_wp2_with (first | (refine r_alloc (dst := some 2) 23 _ Tryd.ipzero rfl ?_; intro w1 B1 N1; have g1 := N1.gr; have b1 : Blk w1 B1 (pv ByteArray.empty ByteArray.empty 0) 23 := N1.blk; have l1 := N1.lo; have t1 := N1.hi; have z1 := g1.size; have gg := gg.trans g1; clear N1; obtain ⟨b1_0, b1_1, b1_2⟩ := pcells b1) | (go_at_call 13; refine (HA.out _).mono ?_; rintro e w2 ⟨rfl, g2⟩; have z2 := g2.size; have b1 := g2.blk b1; have gg := gg.trans g2) | (refine r_store_row 23 23 _ _ _ rfl (pv (p) (n) (k)) _ rfl b1 Tryd.ipsize rfl (pv_one _ _ _) rfl ?_; intro w3 u3 b1'; have z3 := u3.size; have gg := u3.gr gg (by omega); clear b1; have b1 := b1'; clear b1'; obtain ⟨b1_0, b1_1, b1_2⟩ := pcells b1))
  refine bodyPost_ret (results_row_bool rfl _ _ _ _ _ _ rfl b1 Tryd.underlying23 rfl Tryd.ipinfo) rfl ?_
  exact ⟨rfl, gg⟩
set_option maxHeartbeats 2000000 in
set_option maxRecDepth 100000 in
theorem lawParsePuzzle (s : ByteArray) (w : World) (hm : ML w) (he : EV w) : Calls Tryd.prog 3 #[.string s] w (Ret (.bool true) w) := by
  have gg := Gr.refl w
  by_cases hs : s.size ≤ 1048576
  · have HA := hidI (sParsePuzzle s)
    have HB := hidI (fun w' (hm : ML w') (he : EV w') => iParsePuzzle s w' hm he hs)
    obtain ⟨p, n, k, hp⟩ : ∃ p n k, ppA s.data.toList = pv p n k := by
      unfold ppA
      split
      · exact ⟨_, _, _, rfl⟩
      · exact ⟨_, _, _, rfl⟩
    obtain ⟨b, hb⟩ : ∃ b, b = (ppL s.data.toList).isSome := ⟨_, rfl⟩
    rw [hp, ← hb] at HA HB
    clear hp hb
    have HE := hidI (eqPuzzle_same p n k)
    cases b with
    | false =>
      go_enter Tryd.func3, Tryd.ntmps3
      go_wp2_with (first | (go_at_call 5; refine (HA.out _).mono ?_; rintro e w1 ⟨rfl, g1⟩; have z1 := g1.size; have gg := gg.trans g1) | (refine r_alloc (dst := some 3) 23 _ Tryd.ipzero rfl ?_; intro w2 B2 N2; have g2 := N2.gr; have b2 : Blk w2 B2 (pv ByteArray.empty ByteArray.empty 0) 23 := N2.blk; have l2 := N2.lo; have t2 := N2.hi; have z2 := g2.size; have gg := gg.trans g2; clear N2; obtain ⟨b2_0, b2_1, b2_2⟩ := pcells b2) | (refine r_store_row 23 23 _ _ _ rfl (pv (p) (n) (k)) _ rfl b2 Tryd.ipsize rfl (pv_one _ _ _) rfl ?_; intro w3 u3 b2'; have z3 := u3.size; have gg := u3.gr gg (by omega); clear b2; have b2 := b2'; clear b2'; obtain ⟨b2_0, b2_1, b2_2⟩ := pcells b2) | (go_at_call 6; refine (HB.out _ (gg.ml hm) (gg.ev he)).mono ?_; rintro e w4 ⟨rfl, g4⟩; have z4 := g4.size; have b2 := g4.blk b2; have gg := gg.trans g4) | (refine r_alloc (dst := some 5) 23 _ Tryd.ipzero rfl ?_; intro w5 B5 N5; have g5 := N5.gr; have b5 : Blk w5 B5 (pv ByteArray.empty ByteArray.empty 0) 23 := N5.blk; have l5 := N5.lo; have t5 := N5.hi; have z5 := g5.size; have b2 := g5.blk b2; have gg := gg.trans g5; clear N5; obtain ⟨b5_0, b5_1, b5_2⟩ := pcells b5) | (refine r_store_row 23 23 _ _ _ rfl (pv (p) (n) (k)) _ rfl b5 Tryd.ipsize rfl (pv_one _ _ _) rfl ?_; intro w6 u6 b5'; have z6 := u6.size; have gg := u6.gr gg (by omega); have b2 := u6.blk b2 (by omega); clear b5; have b5 := b5'; clear b5'; obtain ⟨b5_0, b5_1, b5_2⟩ := pcells b5) | (refine r_load_row 23 _ _ rfl _ _ _ b5 Tryd.underlying23 rfl Tryd.ipinfo rfl ?_) | (refine r_load_row 23 _ _ rfl _ _ _ b2 Tryd.underlying23 rfl Tryd.ipinfo rfl ?_) | (go_at_call 7; refine (HE.out _).mono ?_; rintro e w7 ⟨rfl, g7⟩; have z7 := g7.size; have gg := gg.trans g7))
      go_ret
      exact ⟨rfl, gg⟩
    | true =>
      go_enter Tryd.func3, Tryd.ntmps3
      go_wp2_with (first | (go_at_call 5; refine (HA.out _).mono ?_; rintro e w1 ⟨rfl, g1⟩; have z1 := g1.size; have gg := gg.trans g1) | (refine r_alloc (dst := some 3) 23 _ Tryd.ipzero rfl ?_; intro w2 B2 N2; have g2 := N2.gr; have b2 : Blk w2 B2 (pv ByteArray.empty ByteArray.empty 0) 23 := N2.blk; have l2 := N2.lo; have t2 := N2.hi; have z2 := g2.size; have gg := gg.trans g2; clear N2; obtain ⟨b2_0, b2_1, b2_2⟩ := pcells b2) | (refine r_store_row 23 23 _ _ _ rfl (pv (p) (n) (k)) _ rfl b2 Tryd.ipsize rfl (pv_one _ _ _) rfl ?_; intro w3 u3 b2'; have z3 := u3.size; have gg := u3.gr gg (by omega); clear b2; have b2 := b2'; clear b2'; obtain ⟨b2_0, b2_1, b2_2⟩ := pcells b2) | (go_at_call 6; refine (HB.out _ (gg.ml hm) (gg.ev he)).mono ?_; rintro e w4 ⟨rfl, g4⟩; have z4 := g4.size; have b2 := g4.blk b2; have gg := gg.trans g4) | (refine r_alloc (dst := some 5) 23 _ Tryd.ipzero rfl ?_; intro w5 B5 N5; have g5 := N5.gr; have b5 : Blk w5 B5 (pv ByteArray.empty ByteArray.empty 0) 23 := N5.blk; have l5 := N5.lo; have t5 := N5.hi; have z5 := g5.size; have b2 := g5.blk b2; have gg := gg.trans g5; clear N5; obtain ⟨b5_0, b5_1, b5_2⟩ := pcells b5) | (refine r_store_row 23 23 _ _ _ rfl (pv (p) (n) (k)) _ rfl b5 Tryd.ipsize rfl (pv_one _ _ _) rfl ?_; intro w6 u6 b5'; have z6 := u6.size; have gg := u6.gr gg (by omega); have b2 := u6.blk b2 (by omega); clear b5; have b5 := b5'; clear b5'; obtain ⟨b5_0, b5_1, b5_2⟩ := pcells b5) | (refine r_load_row 23 _ _ rfl _ _ _ b5 Tryd.underlying23 rfl Tryd.ipinfo rfl ?_) | (refine r_load_row 23 _ _ rfl _ _ _ b2 Tryd.underlying23 rfl Tryd.ipinfo rfl ?_) | (go_at_call 7; refine (HE.out _).mono ?_; rintro e w7 ⟨rfl, g7⟩; have z7 := g7.size; have gg := gg.trans g7))
      go_ret
      exact ⟨rfl, gg⟩
  · go_enter Tryd.func3, Tryd.ntmps3
    go_wp2
    go_ret
    exact ⟨rfl, gg⟩
end Go.Proofs.YtpdmfbhjneodeaaDoor
