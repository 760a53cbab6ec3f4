/-
  What the model's functions that return texts of cells return: one cell, and the text of a whole grid.
-/
import Derived.Test.YtedgocedomlhfaaDoorSpec1c
import Derived.Test.YtedgocedomlhfaaDoorImpl1g
namespace Go.Proofs.YtedgocedomlhfaaDoor
open Go.RowKit
def btw (x lo h : Int) : Bool := decide (lo ≤ x) && decide (x ≤ h)
theorem btw_inB (x : Int) (n : Nat) : btw x 0 ((n : Int) - 1) = inB x n := by
  unfold btw inB
  congr 1
  apply decide_eq_decide.2
  omega
set_option maxHeartbeats 400000 in
theorem l1In_any (x lo h : Int) (w : World) : Calls Tryd.prog 57 #[.int .i64 x, .int .i64 lo, .int .i64 h] w fun e w' => e = .returned (.bool (btw x lo h)) ∧ w = w' := by
  by_cases h1 : lo ≤ x
  · have HV := hidI (show btw x lo h = decide (x ≤ h) from by unfold btw; rw [decide_eq_true h1]; rfl)
    go_enter Tryd.func57, Tryd.ntmps57
    go_wp2
    go_ret
    exact ⟨ret_bool HV.out.symm, rfl⟩
  · have HV := hidI (show btw x lo h = false from by unfold btw; rw [decide_eq_false h1]; rfl)
    have h1' : x < lo := by omega
    clear h1
    go_enter Tryd.func57, Tryd.ntmps57
    go_wp2
    go_ret
    exact ⟨ret_bool HV.out.symm, rfl⟩
set_option maxHeartbeats 1000000 in
theorem tyCell_any (W H : Nat) (sl : Value) (x y : Int) (w : World) (hW : W ≤ 7) (hH : H ≤ 7) : Calls Tryd.prog 34 #[.agg (tg W H sl), .int .i64 x, .int .i64 y] w (Ret (.bool (inB x W && inB y H)) w) := by
  have gg := Gr.refl w
  by_cases h1 : inB x W = true
  · have HX := hidI (btw_inB x W)
    have HY := hidI (btw_inB y H)
    have HB := hidI h1
    clear h1
    go_enter Tryd.func34, Tryd.ntmps34
    go_wp2_with (first | (refine r_box 41 _ (tg (W) (H) (sl)) rfl rfl ?_; intro w1 B1 N1; have g1 := N1.gr; have b1 : Blk w1 B1 (tg (W) (H) (sl)) 41 := N1.blk; have l1 := N1.lo; have t1 := N1.hi; have z1 := g1.size; have gg := gg.trans g1; clear N1; obtain ⟨b1_0, b1_1, b1_2⟩ := tcells b1) | (go_at_call 57; refine (l1In_any _ _ _ _).mono ?_; rintro e wSame ⟨rfl, rfl⟩; first | rw [HX.out, HB.out] | rw [HY.out]))
    go_ret
    exact ⟨ret_bool (by rw [HB.out]; rfl), gg⟩
  · have HX := hidI (btw_inB x W)
    have HB := hidI (show inB x W = false from by simpa using h1)
    clear h1
    go_enter Tryd.func34, Tryd.ntmps34
    go_wp2_with (first | (refine r_box 41 _ (tg (W) (H) (sl)) rfl rfl ?_; intro w1 B1 N1; have g1 := N1.gr; have b1 : Blk w1 B1 (tg (W) (H) (sl)) 41 := N1.blk; have l1 := N1.lo; have t1 := N1.hi; have z1 := g1.size; have gg := gg.trans g1; clear N1; obtain ⟨b1_0, b1_1, b1_2⟩ := tcells b1) | (go_at_call 57; refine (l1In_any _ _ _ _).mono ?_; rintro e wSame ⟨rfl, rfl⟩; rw [HX.out, HB.out]))
    go_ret
    exact ⟨ret_bool (by rw [HB.out]; rfl), gg⟩
set_option maxHeartbeats 1000000 in
set_option maxRecDepth 100000 in
theorem sCellAt (s : ByteArray) (x y : Int) (w : World) (hs : s.size ≤ 1048576) : Calls Tryd.prog 12 #[.string s, .int .i64 x, .int .i64 y] w (Ret (.tuple #[.string (caB s.data.toList x y), .bool (caOk s.data.toList x y)]) w) := by
  have gg := Gr.refl w
  go_enter Tryd.func12, Tryd.ntmps12
  go_wp2_with fail
  refine (tyRead_any s _ hs).mono ?_
  rintro e w1 ⟨g1, ⟨hp, rfl⟩ | ⟨g, sl, hp, rfl, hown⟩⟩
  · have HV := hidI (show caOk s.data.toList x y = false from by unfold caOk; rw [(rd_parse_none hp).2]; rfl)
    have z1 := g1.size
    have gg := gg.trans g1
    clear hp
    go_wp2_with (first | (refine r_alloc 41 _ Tryd.tzero rfl ?_; intro w2 B2 N2; have g2 := N2.gr; have b2 : Blk w2 B2 (tg 0 0 (.slice none 0 0)) 41 := N2.blk; have l2 := N2.lo; have t2 := N2.hi; have z2 := g2.size; have gg := gg.trans g2; clear N2; obtain ⟨b2_0, b2_1, b2_2⟩ := tcells b2) | (refine r_store_row 41 41 _ _ _ rfl (tg _ _ _) _ rfl b2 Tryd.tsize rfl (tg_one rfl) rfl ?_; intro w3 u3 b2'; have z3 := u3.size; have gg := u3.gr gg (by omega); clear b2; have b2 := b2'; clear b2'; obtain ⟨b2_0, b2_1, b2_2⟩ := tcells b2))
    go_ret2
    exact ⟨fin_sb (by unfold caB; rw [HV.out]; rfl) (by rw [HV.out]), gg⟩
  · obtain ⟨hg, hk⟩ := rd_parse_some hp
    have ht := parse_tray hp
    have z1 := g1.size
    have gg := gg.trans g1
    have hone := own_one hown
    have hw7 := ht.w7
    have hh7 := ht.h7
    by_cases h1 : (inB x g.w && inB y g.h) = true
    · have HV := hidI (show caOk s.data.toList x y = true from by unfold caOk; rw [hk, hg, h1]; rfl)
      have HO := hidI h1
      rw [Bool.and_eq_true, inB_true, inB_true] at h1
      obtain ⟨⟨x0, x1⟩, y0, y1⟩ := h1
      obtain ⟨x, rfl⟩ : ∃ n : Nat, x = n := ⟨x.toNat, by omega⟩
      obtain ⟨y, rfl⟩ : ∃ n : Nat, y = n := ⟨y.toNat, by omega⟩
      have HC := hidI (show caB s.data.toList x y = ⟨#[at0 g.c (nn g.w y + x)]⟩ from by
        unfold caB; rw [HV.out, hg]; rfl)
      have n36 := ht.n36
      have hxw : x < g.w := by omega
      have hyh : y < g.h := by omega
      have hle := nn_row (W := g.w) hyh
      have hlen := ht.len
      have hl1 : 0 < g.c.length := by omega
      obtain ⟨G, cap, rfl, hG, hcap⟩ := own_shape hown hl1
      obtain ⟨f, hf⟩ : ∃ f, f = nn g.w y := ⟨_, rfl⟩
      rw [← hf] at hle HC
      have hf36 : f ≤ 36 := by omega
      have hfx : f + x < g.c.length := by omega
      have e1 : (y : Int) * (g.w : Int) = f := by rw [hf, nn_int, Int.mul_comm]
      have hsl : ∀ w, _ := fun w => by
        have h := Tryd.sl1 G 0 g.c.length cap (f + x) (by omega) w
        rw [Int.natCast_add, Nat.zero_add] at h
        exact h
      have HF := hidI hf
      have HLEN := hidI hlen
      clear hp hg hk ht x0 y0 x1 y1 hf hlen
      go_wp2_with (first | (refine r_alloc 41 _ Tryd.tzero rfl ?_; intro w2 B2 N2; have g2 := N2.gr; have b2 : Blk w2 B2 (tg 0 0 (.slice none 0 0)) 41 := N2.blk; have l2 := N2.lo; have t2 := N2.hi; have z2 := g2.size; have gg := gg.trans g2; clear N2; obtain ⟨b2_0, b2_1, b2_2⟩ := tcells b2) | (refine r_store_row 41 41 _ _ _ rfl (tg _ _ _) _ rfl b2 Tryd.tsize rfl (tg_one hone) rfl ?_; intro w3 u3 b2'; have z3 := u3.size; have gg := u3.gr gg (by omega); clear b2; have b2 := b2'; clear b2'; obtain ⟨b2_0, b2_1, b2_2⟩ := tcells b2) | (refine r_load_row 41 _ _ rfl _ _ _ b2 Tryd.underlying41 rfl Tryd.tinfo rfl ?_) | (go_at_call 34; refine (tyCell_any g.w g.h _ x y _ hw7 hh7).mono ?_; rintro e w4 ⟨rfl, g4⟩; rw [HO.out]; have z4 := g4.size; have b2 := g4.blk b2; obtain ⟨b2_0, b2_1, b2_2⟩ := tcells b2; have gg := gg.trans g4) | (refine r_conv 39 9 _ _ (.string ⟨#[at0 g.c (f + x)]⟩) rfl (Tryd.conv G (f + x) _ _ _ (bytes_one (own_cell (g4.row (u3.row (g2.row hown) (own_new hown l2))) (f + x) hfx rfl)) 1 rfl) rfl ?_))
      go_ret2
      exact ⟨fin_sb (by rw [HC.out]) (by rw [HV.out]), gg⟩
    · have HO := hidI (show (inB x g.w && inB y g.h) = false from by simpa using h1)
      have HV := hidI (show caOk s.data.toList x y = false from by unfold caOk; rw [hg, HO.out, Bool.and_false])
      clear hp hg hk h1
      go_wp2_with (first | (refine r_alloc 41 _ Tryd.tzero rfl ?_; intro w2 B2 N2; have g2 := N2.gr; have b2 : Blk w2 B2 (tg 0 0 (.slice none 0 0)) 41 := N2.blk; have l2 := N2.lo; have t2 := N2.hi; have z2 := g2.size; have gg := gg.trans g2; clear N2; obtain ⟨b2_0, b2_1, b2_2⟩ := tcells b2) | (refine r_store_row 41 41 _ _ _ rfl (tg _ _ _) _ rfl b2 Tryd.tsize rfl (tg_one hone) rfl ?_; intro w3 u3 b2'; have z3 := u3.size; have gg := u3.gr gg (by omega); clear b2; have b2 := b2'; clear b2'; obtain ⟨b2_0, b2_1, b2_2⟩ := tcells b2) | (refine r_load_row 41 _ _ rfl _ _ _ b2 Tryd.underlying41 rfl Tryd.tinfo rfl ?_) | (go_at_call 34; refine (tyCell_any g.w g.h _ x y _ hw7 hh7).mono ?_; rintro e w4 ⟨rfl, g4⟩; rw [HO.out]; have z4 := g4.size; have b2 := g4.blk b2; obtain ⟨b2_0, b2_1, b2_2⟩ := tcells b2; have gg := gg.trans g4))
      go_ret2
      exact ⟨fin_sb (by unfold caB; rw [HV.out]; rfl) (by rw [HV.out]), gg⟩
end Go.Proofs.YtedgocedomlhfaaDoor
