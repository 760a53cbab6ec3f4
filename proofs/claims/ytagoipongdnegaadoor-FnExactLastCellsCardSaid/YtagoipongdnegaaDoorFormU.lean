/-
  Forms: cells added and taken in the model, and the laws.
-/
import Derived.Test.YtagoipongdnegaaDoorFormV
namespace Go.Proofs.YtagoipongdnegaaDoor
open Go.RowKit
set_option maxHeartbeats 4000000 in
set_option maxRecDepth 100000 in
theorem sAddCell (s : ByteArray) (x : Int) (w : World) (hs : s.size ≤ 1048576) : Calls Tryd.prog 37 #[.string s, .int .i64 x] w (Ret (.tuple #[.string (acB s.data.toList x), .bool (acOk s.data.toList x)]) w) := by
  have gg := Gr.refl w
  go_enter Tryd.func37, Tryd.ntmps37
  go_wp2_with fail
  refine (buCell_any s x _ hs).mono ?_
  rintro e w1 ⟨g1, ⟨hc, xa, xb, sl, hone, rfl⟩ | ⟨g, G, cap, i, hg, hf, F, rfl, hi, rfl, own⟩⟩
  · have HV := hidI (show acOk s.data.toList x = false ∧ acB s.data.toList x = ⟨#[]⟩ from by
      have e : acOk s.data.toList x = false := by unfold acOk; rw [c_no hc 46]; rfl
      exact ⟨e, by unfold acB; rw [e]; rfl⟩)
    have z1 := g1.size
    have gg := gg.trans g1
    clear hc
    go_wp2_with (first | (refine r_alloc 45 _ Tryd.tzero rfl ?_; intro w2 B2 N2; have g2 := N2.gr; have b2 : Blk w2 B2 (tg 0 0 (.slice none 0 0)) 45 := N2.blk; have l2 := N2.lo; have t2 := N2.hi; have z2 := g2.size; have gg := gg.trans g2; clear N2; obtain ⟨b2_0, b2_1, b2_2⟩ := tcells b2) | (refine r_store_row 45 45 _ _ _ rfl (tg _ _ _) _ rfl b2 Tryd.tsize rfl (tg_one hone) rfl ?_; intro w3 u3 b2'; have z3 := u3.size; have gg := u3.gr gg (by omega); clear b2; have b2 := b2'; clear b2'; obtain ⟨b2_0, b2_1, b2_2⟩ := tcells b2))
    go_ret2
    exact ⟨fin_sb HV.out.2.symm HV.out.1.symm, gg⟩
  · have HT := hidI F.ty
    have HT2 := hidI (F.ty_set i 111)
    have HK := hidI (ac_of hg hf hi F)
    have HBE := hidI (show acB s.data.toList i = if acOk s.data.toList i then txtB g.w g.h (g.c.set i 111) else ⟨#[]⟩ from by unfold acB; rw [hg]; rfl)
    obtain ⟨N, hN⟩ : ∃ N, N = nn g.w g.h := ⟨_, rfl⟩
    rw [← hN] at own HT HT2 hi
    rw [← hN]
    have z1 := g1.size
    have gg := gg.trans g1
    have hone := own_one own
    have HWY := hidI (fun (b : Nat) w ho => buWay_any g.w g.h b G cap N i g.c w HT.out hi ho)
    have HIS := hidI (fun (b : Nat) w ho => buIs_any g.w g.h b G cap N (g.c.set i 111) w HT2.out.w1 HT2.out.w7 HT2.out.h7 HT2.out.hN HT2.out.pos HT2.out.n36 HT2.out.len ho)
    have HCW := hidI (bwN_can (W := g.w) (H := g.h) (c := g.c) (i := i))
    have hbl := bwN_le (W := g.w) (H := g.h) (c := g.c) (i := i)
    obtain ⟨q, hq⟩ : ∃ q, q = bwN g.w g.h g.c i := ⟨_, rfl⟩
    rw [← hq] at HWY HCW hbl
    have hgk := fun w => Tryd.six0 G N cap i hi w
    have HG := hidI hgk
    clear hg hf F hN hq
    by_cases hq0 : q < 0
    · have HV := hidI (show acOk s.data.toList i = false from by
        rw [HK.out]
        cases h : canB g.w g.h g.c i with
        | false => rfl
        | true => have := HCW.out.1 h; omega)
      go_wp2_with (first | (refine r_alloc 45 _ Tryd.tzero rfl ?_; intro w2 B2 N2; have g2 := N2.gr; have b2 : Blk w2 B2 (tg 0 0 (.slice none 0 0)) 45 := N2.blk; have l2 := N2.lo; have t2 := N2.hi; have z2 := g2.size; have gg := gg.trans g2; clear N2; obtain ⟨b2_0, b2_1, b2_2⟩ := tcells b2) | (refine r_store_row 45 45 _ _ _ rfl (tg _ _ _) _ rfl b2 Tryd.tsize rfl (tg_one hone) rfl ?_; intro w3 u3 b2'; have z3 := u3.size; have gg := u3.gr gg (by omega); clear b2; have b2 := b2'; clear b2'; obtain ⟨b2_0, b2_1, b2_2⟩ := tcells b2) | (refine r_load_row 45 _ _ rfl _ _ _ b2 Tryd.underlying45 rfl Tryd.tinfo rfl ?_) | (go_at_call 75; refine (HWY.out _ _ (u3.row (g2.row own) (own_new own l2))).mono ?_; rintro e w4 ⟨rfl, g4⟩; have z4 := g4.size; have gg := gg.trans g4))
      go_ret2
      exact ⟨fin_sb (by rw [HBE.out, HV.out]; rfl) HV.out.symm, gg⟩
    · have hq1 : 0 ≤ q := by omega
      have HV := hidI (show acOk s.data.toList i = isFo g.w g.h (g.c.set i 111) from by rw [HK.out, HCW.out.2 hq1]; rfl)
      have HSV := hidI (cellsV_set g.c i 111)
      obtain ⟨c2, hc2⟩ : ∃ c2, c2 = g.c.set i 111 := ⟨_, rfl⟩
      rw [← hc2] at HT2 HBE HIS HV HSV
      obtain ⟨B, hB⟩ : ∃ B, B = isFo g.w g.h c2 := ⟨_, rfl⟩
      rw [← hB] at HIS HV
      have HTX := hidI (fun (b : Nat) w ho => tyText_n g.w g.h b N c2 (.slice (some ⟨G, 0, none⟩) N cap) w HT2.out.w1 HT2.out.h1 HT2.out.w7 HT2.out.h7 (by rw [← HT2.out.hN]; exact HT2.out.n36) (by rw [← HT2.out.len]; exact HT2.out.hN) HT2.out.len.symm ho)
      clear hc2 hB hq0
      cases B with
      | false =>
        go_wp2_with (first | (refine r_alloc 45 _ Tryd.tzero rfl ?_; intro w2 B2 N2; have g2 := N2.gr; have b2 : Blk w2 B2 (tg 0 0 (.slice none 0 0)) 45 := N2.blk; have l2 := N2.lo; have t2 := N2.hi; have z2 := g2.size; have gg := gg.trans g2; clear N2; obtain ⟨b2_0, b2_1, b2_2⟩ := tcells b2) | (refine r_store_row 45 45 _ _ _ rfl (tg _ _ _) _ rfl b2 Tryd.tsize rfl (tg_one hone) rfl ?_; intro w3 u3 b2'; have z3 := u3.size; have gg := u3.gr gg (by omega); clear b2; have b2 := b2'; clear b2'; obtain ⟨b2_0, b2_1, b2_2⟩ := tcells b2) | (refine r_load_row 45 _ _ rfl _ _ _ b2 Tryd.underlying45 rfl Tryd.tinfo rfl ?_) | (go_at_call 75; refine (HWY.out _ _ (u3.row (g2.row own) (own_new own l2))).mono ?_; rintro e w4 ⟨rfl, g4⟩; have own4 := g4.row (u3.row (g2.row own) (own_new own l2)); have b2 := g4.blk b2; obtain ⟨b2_0, b2_1, b2_2⟩ := tcells b2; have hck := own_cell own4 i (by rw [← HT.out.len]; exact hi) HT.out.len; have gg := gg.trans g4; have z4 := g4.size; have tb2 := b2.lt) | (refine r_store_own 5 5 _ _ G i N cap w.heap.size (cellsV g.c) rfl (byteV 111) rfl own4 hi Tryd.sizeOf5 rfl rfl ?_; intro w5 u5 own5; rw [HSV.out] at own5; have hGl := (own4.lt G rfl).1; have b2 := u5.blk b2 (fun e => own_ne own4 b2 (by decide) (by rw [e]; rfl)); obtain ⟨b2_0, b2_1, b2_2⟩ := tcells b2; have z5 := u5.size; have gg := u5.gr gg hGl) | (go_at_call 76; refine (HIS.out _ _ own5).mono ?_; rintro e w6 ⟨rfl, g6⟩; have z6 := g6.size; have gg := gg.trans g6))
        go_ret2
        exact ⟨fin_sb (by rw [HBE.out, HV.out]; rfl) HV.out.symm, gg⟩
      | true =>
        go_wp2_with (first | (refine r_alloc 45 _ Tryd.tzero rfl ?_; intro w2 B2 N2; have g2 := N2.gr; have b2 : Blk w2 B2 (tg 0 0 (.slice none 0 0)) 45 := N2.blk; have l2 := N2.lo; have t2 := N2.hi; have z2 := g2.size; have gg := gg.trans g2; clear N2; obtain ⟨b2_0, b2_1, b2_2⟩ := tcells b2) | (refine r_store_row 45 45 _ _ _ rfl (tg _ _ _) _ rfl b2 Tryd.tsize rfl (tg_one hone) rfl ?_; intro w3 u3 b2'; have z3 := u3.size; have gg := u3.gr gg (by omega); clear b2; have b2 := b2'; clear b2'; obtain ⟨b2_0, b2_1, b2_2⟩ := tcells b2) | (refine r_load_row 45 _ _ rfl _ _ _ b2 Tryd.underlying45 rfl Tryd.tinfo rfl ?_) | (go_at_call 75; refine (HWY.out _ _ (u3.row (g2.row own) (own_new own l2))).mono ?_; rintro e w4 ⟨rfl, g4⟩; have own4 := g4.row (u3.row (g2.row own) (own_new own l2)); have b2 := g4.blk b2; obtain ⟨b2_0, b2_1, b2_2⟩ := tcells b2; have hck := own_cell own4 i (by rw [← HT.out.len]; exact hi) HT.out.len; have gg := gg.trans g4; have z4 := g4.size; have tb2 := b2.lt) | (refine r_store_own 5 5 _ _ G i N cap w.heap.size (cellsV g.c) rfl (byteV 111) rfl own4 hi Tryd.sizeOf5 rfl rfl ?_; intro w5 u5 own5; rw [HSV.out] at own5; have hGl := (own4.lt G rfl).1; have b2 := u5.blk b2 (fun e => own_ne own4 b2 (by decide) (by rw [e]; rfl)); obtain ⟨b2_0, b2_1, b2_2⟩ := tcells b2; have z5 := u5.size; have gg := u5.gr gg hGl) | (go_at_call 76; refine (HIS.out _ _ own5).mono ?_; rintro e w6 ⟨rfl, g6⟩; have z6 := g6.size; have b2 := g6.blk b2; obtain ⟨b2_0, b2_1, b2_2⟩ := tcells b2; have gg := gg.trans g6) | (go_at_call 77; refine (HTX.out _ _ (g6.row own5)).mono ?_; rintro e w7 ⟨rfl, g7⟩; have z7 := g7.size; have gg := gg.trans g7))
        go_ret2
        exact ⟨fin_sb (by rw [HBE.out, HV.out]; rfl) HV.out.symm, gg⟩
end Go.Proofs.YtagoipongdnegaaDoor
