/-
  Forms: the program's functions that tell free ways and add and take cells.
-/
import Derived.Test.YtagoipongdnegaaDoorFormW
namespace Go.Proofs.YtagoipongdnegaaDoor
open Go.RowKit
set_option maxHeartbeats 4000000 in
set_option maxRecDepth 100000 in
theorem readFormWith_any (s : ByteArray) (x : Int) (b : UInt8) (w : World) (hm : ML w) (hs : s.size ≤ 1048576) : Calls Tryd.prog 68 #[.string s, .int .i64 x, .int .u8 b.toNat] w (Ret (.tuple #[.agg (gvG (fwG s.data.toList x b)), .bool (fwOk s.data.toList x b)]) w) := by
  have gg := Gr.refl w
  have HR := hidI (fun w => readForm_any s w)
  have HZ := hidI (fun (h : fwOk s.data.toList x b = false) => show Ending.returned (.tuple #[.agg (gv 0 0 []), .bool false]) = Ending.returned (.tuple #[.agg (gvG (fwG s.data.toList x b)), .bool (fwOk s.data.toList x b)]) from by
    have e : fwG s.data.toList x b = ⟨0, 0, []⟩ := by unfold fwG; rw [h]; rfl
    rw [e, h]
    rfl)
  rcases fm_cases s.data.toList with ⟨hf, hfg⟩ | ⟨g, hp, hg, hk, hf, hfg, F⟩
  · have HF := hidI hf
    have HN := hidI (show fwOk s.data.toList x b = false from by unfold fwOk; rw [hf]; rfl)
    rw [hf, hfg] at HR
    clear hf hfg
    go_enter Tryd.func68, Tryd.ntmps68
    go_wp2_with (first | (refine r_alloc (dst := some 6) 62 _ Tryd.gzero rfl ?_; intro w1 B1 N1; have g1 := N1.gr; have b1 : Blk w1 B1 (gv 0 0 []) 62 := N1.blk; have l1 := N1.lo; have t1 := N1.hi; have z1 := g1.size; have gg := gg.trans g1; clear N1; obtain ⟨b1_0, b1_1, b1_2⟩ := gcells b1) | (go_at_call 64; refine (HR.out _ (gg.ml hm) hs).mono ?_; rintro e w2 ⟨rfl, g2⟩; rw [gvG]; have z2 := g2.size; have b1 := g2.blk b1; obtain ⟨b1_0, b1_1, b1_2⟩ := gcells b1; have gg := gg.trans g2) | (refine r_alloc (dst := some 8) 62 _ Tryd.gzero rfl ?_; intro w4 B4 N4; have g4 := N4.gr; have b4 : Blk w4 B4 (gv 0 0 []) 62 := N4.blk; have l4 := N4.lo; have t4 := N4.hi; have z4 := g4.size; have b1 := g4.blk b1; obtain ⟨b1_0, b1_1, b1_2⟩ := gcells b1; have gg := gg.trans g4; clear N4; obtain ⟨b4_0, b4_1, b4_2⟩ := gcells b4) | (refine r_store_row 62 62 _ _ _ rfl (gv _ _ _) _ rfl b4 (Tryd.gsize' _ _ _) (by simp only [gv_size]) (gv_one _ _ _) rfl ?_; intro w3 u3 b4'; have z3 := u3.size; have gg := u3.gr gg (by omega); have b1 := u3.blk b1 (by omega); obtain ⟨b1_0, b1_1, b1_2⟩ := gcells b1; clear b4; have b4 := b4'; clear b4'; obtain ⟨b4_0, b4_1, b4_2⟩ := gcells b4) | (refine r_build 62 [] [] _ (Tryd.gbuild0 _) rfl rfl ?_) | (refine r_store_row 62 62 _ _ _ rfl (gv _ _ _) _ rfl b1 (Tryd.gsize' _ _ _) (by simp only [gv_size]) (gv_one _ _ _) rfl ?_; intro w5 u5 b1'; have z5 := u5.size; have gg := u5.gr gg (by omega); have b4 := u5.blk b4 (by omega); obtain ⟨b4_0, b4_1, b4_2⟩ := gcells b4; clear b1; have b1 := b1'; clear b1'; obtain ⟨b1_0, b1_1, b1_2⟩ := gcells b1))
    refine bodyPost_ret (results_row_bool rfl _ _ _ _ _ _ rfl b1 Tryd.underlying62 rfl (Tryd.ginfo' _ _ _)) rfl ⟨?_, gg⟩
    exact HZ.out HN.out
  · rw [hf, hfg] at HR
    have hw7 := F.t.w7
    have hh7 := F.t.h7
    have n36 := F.t.n36
    have HFW := hidI (show fwOk s.data.toList x b = (inB x (nn g.w g.h) && decide (at0 g.c x.toNat = b)) from by unfold fwOk; rw [hf, hg]; rfl)
    have HHN := hidI (fun w => hasNumber_any g.w g.h g.c x w hw7 hh7)
    cases hin : inB x (nn g.w g.h) with
    | false =>
      rw [hin] at HFW HHN
      clear hin hp hg hk hf hfg F
      go_enter Tryd.func68, Tryd.ntmps68
      go_wp2_with (first | (refine r_alloc (dst := some 6) 62 _ Tryd.gzero rfl ?_; intro w1 B1 N1; have g1 := N1.gr; have b1 : Blk w1 B1 (gv 0 0 []) 62 := N1.blk; have l1 := N1.lo; have t1 := N1.hi; have z1 := g1.size; have gg := gg.trans g1; clear N1; obtain ⟨b1_0, b1_1, b1_2⟩ := gcells b1) | (go_at_call 64; refine (HR.out _ (gg.ml hm) hs).mono ?_; rintro e w2 ⟨rfl, g2⟩; rw [gvG]; have z2 := g2.size; have b1 := g2.blk b1; obtain ⟨b1_0, b1_1, b1_2⟩ := gcells b1; have gg := gg.trans g2) | (refine r_alloc (dst := some 8) 62 _ Tryd.gzero rfl ?_; intro w4 B4 N4; have g4 := N4.gr; have b4 : Blk w4 B4 (gv 0 0 []) 62 := N4.blk; have l4 := N4.lo; have t4 := N4.hi; have z4 := g4.size; have b1 := g4.blk b1; obtain ⟨b1_0, b1_1, b1_2⟩ := gcells b1; have gg := gg.trans g4; clear N4; obtain ⟨b4_0, b4_1, b4_2⟩ := gcells b4) | (refine r_store_row 62 62 _ _ _ rfl (gv g.w g.h g.c) _ rfl b4 (Tryd.gsize' _ _ _) (by simp only [gv_size]) (gv_one _ _ _) rfl ?_; intro w3 u3 b4'; have z3 := u3.size; have gg := u3.gr gg (by omega); have b1 := u3.blk b1 (by omega); obtain ⟨b1_0, b1_1, b1_2⟩ := gcells b1; clear b4; have b4 := b4'; clear b4'; obtain ⟨b4_0, b4_1, b4_2⟩ := gcells b4) | (refine r_load_row 62 _ _ rfl _ _ _ b4 Tryd.underlying62 rfl (Tryd.ginfo' _ _ _) rfl ?_) | (go_at_call 52; refine (HHN.out _).mono ?_; rintro e w6 ⟨rfl, g6⟩; have z6 := g6.size; have b1 := g6.blk b1; obtain ⟨b1_0, b1_1, b1_2⟩ := gcells b1; have b4 := g6.blk b4; obtain ⟨b4_0, b4_1, b4_2⟩ := gcells b4; have gg := gg.trans g6) | (refine r_build 62 [] [] _ (Tryd.gbuild0 _) rfl rfl ?_) | (refine r_store_row 62 62 _ _ _ rfl (gv _ _ _) _ rfl b1 (Tryd.gsize' _ _ _) (by simp only [gv_size]) (gv_one _ _ _) rfl ?_; intro w5 u5 b1'; have z5 := u5.size; have gg := u5.gr gg (by omega); have b4 := u5.blk b4 (by omega); obtain ⟨b4_0, b4_1, b4_2⟩ := gcells b4; clear b1; have b1 := b1'; clear b1'; obtain ⟨b1_0, b1_1, b1_2⟩ := gcells b1))
      refine bodyPost_ret (results_row_bool rfl _ _ _ _ _ _ rfl b1 Tryd.underlying62 rfl (Tryd.ginfo' _ _ _)) rfl ⟨?_, gg⟩
      exact HZ.out HFW.out
    | true =>
      obtain ⟨hx0, hxN⟩ := inB_true.1 hin
      obtain ⟨i, rfl⟩ : ∃ i : Nat, x = i := ⟨x.toNat, by omega⟩
      have hiN : i < nn g.w g.h := by omega
      rw [hin, Int.toNat_natCast] at HFW
      rw [hin] at HHN
      have hix := fun B w => Tryd.gix B i (by omega) w
      by_cases hb : at0 g.c i = b
      · have HF := hidI (show fwOk s.data.toList i b = true ∧ fwG s.data.toList i b = g from by
          have e : fwOk s.data.toList i b = true := by rw [HFW.out, decide_eq_true hb]; rfl
          exact ⟨e, by unfold fwG; rw [e, hg]; rfl⟩)
        have e1 : (((at0 g.c i).toNat : Int) == (b.toNat : Int)) = true := by rw [hb]; simp
        have e2 : (((at0 g.c i).toNat : Int) != (b.toNat : Int)) = false := by rw [bne, e1]; rfl
        clear hin hp hg hk hf hfg F hb hx0 hxN HFW HZ
        go_enter Tryd.func68, Tryd.ntmps68
        go_wp2_with (first | (refine r_alloc (dst := some 6) 62 _ Tryd.gzero rfl ?_; intro w1 B1 N1; have g1 := N1.gr; have b1 : Blk w1 B1 (gv 0 0 []) 62 := N1.blk; have l1 := N1.lo; have t1 := N1.hi; have z1 := g1.size; have gg := gg.trans g1; clear N1; obtain ⟨b1_0, b1_1, b1_2⟩ := gcells b1) | (go_at_call 64; refine (HR.out _ (gg.ml hm) hs).mono ?_; rintro e w2 ⟨rfl, g2⟩; rw [gvG]; have z2 := g2.size; have b1 := g2.blk b1; obtain ⟨b1_0, b1_1, b1_2⟩ := gcells b1; have gg := gg.trans g2) | (refine r_alloc (dst := some 8) 62 _ Tryd.gzero rfl ?_; intro w4 B4 N4; have g4 := N4.gr; have b4 : Blk w4 B4 (gv 0 0 []) 62 := N4.blk; have l4 := N4.lo; have t4 := N4.hi; have z4 := g4.size; have b1 := g4.blk b1; obtain ⟨b1_0, b1_1, b1_2⟩ := gcells b1; have gg := gg.trans g4; clear N4; obtain ⟨b4_0, b4_1, b4_2⟩ := gcells b4) | (refine r_store_row 62 62 _ _ _ rfl (gv g.w g.h g.c) _ rfl b4 (Tryd.gsize' _ _ _) (by simp only [gv_size]) (gv_one _ _ _) rfl ?_; intro w3 u3 b4'; have z3 := u3.size; have gg := u3.gr gg (by omega); have b1 := u3.blk b1 (by omega); obtain ⟨b1_0, b1_1, b1_2⟩ := gcells b1; clear b4; have b4 := b4'; clear b4'; obtain ⟨b4_0, b4_1, b4_2⟩ := gcells b4) | (refine r_load_row 62 _ _ rfl _ _ _ b4 Tryd.underlying62 rfl (Tryd.ginfo' _ _ _) rfl ?_) | (go_at_call 52; refine (HHN.out _).mono ?_; rintro e w6 ⟨rfl, g6⟩; have b1 := g6.blk b1; have b4 := g6.blk b4; obtain ⟨b4_0, b4_1, b4_2⟩ := gcells b4; have hcc := b4_2 i (by omega); have gg := gg.trans g6; have z6 := g6.size) | (refine r_store_row 62 62 _ _ _ rfl (gv g.w g.h g.c) _ rfl b1 (Tryd.gsize' _ _ _) (by simp only [gv_size]) (gv_one _ _ _) rfl ?_; intro w5 u5 b1'; have z5 := u5.size; have gg := u5.gr gg (by omega); have b4 := u5.blk b4 (by omega); obtain ⟨b4_0, b4_1, b4_2⟩ := gcells b4; clear b1; have b1 := b1'; clear b1'; obtain ⟨b1_0, b1_1, b1_2⟩ := gcells b1))
        refine bodyPost_ret (results_row_bool rfl _ _ _ _ _ _ rfl b1 Tryd.underlying62 rfl (Tryd.ginfo' _ _ _)) rfl ⟨?_, gg⟩
        exact fin2 (by rw [HF.out.2]; rfl) (by rw [HF.out.1])
      · have HN := hidI (show fwOk s.data.toList i b = false from by rw [HFW.out, decide_eq_false hb]; rfl)
        have e1 : (((at0 g.c i).toNat : Int) == (b.toNat : Int)) = false := bne_byte hb
        have e2 : (((at0 g.c i).toNat : Int) != (b.toNat : Int)) = true := by rw [bne, e1]; rfl
        clear hin hp hg hk hf hfg F hb hx0 hxN HFW
        go_enter Tryd.func68, Tryd.ntmps68
        go_wp2_with (first | (refine r_alloc (dst := some 6) 62 _ Tryd.gzero rfl ?_; intro w1 B1 N1; have g1 := N1.gr; have b1 : Blk w1 B1 (gv 0 0 []) 62 := N1.blk; have l1 := N1.lo; have t1 := N1.hi; have z1 := g1.size; have gg := gg.trans g1; clear N1; obtain ⟨b1_0, b1_1, b1_2⟩ := gcells b1) | (go_at_call 64; refine (HR.out _ (gg.ml hm) hs).mono ?_; rintro e w2 ⟨rfl, g2⟩; rw [gvG]; have z2 := g2.size; have b1 := g2.blk b1; obtain ⟨b1_0, b1_1, b1_2⟩ := gcells b1; have gg := gg.trans g2) | (refine r_alloc (dst := some 8) 62 _ Tryd.gzero rfl ?_; intro w4 B4 N4; have g4 := N4.gr; have b4 : Blk w4 B4 (gv 0 0 []) 62 := N4.blk; have l4 := N4.lo; have t4 := N4.hi; have z4 := g4.size; have b1 := g4.blk b1; obtain ⟨b1_0, b1_1, b1_2⟩ := gcells b1; have gg := gg.trans g4; clear N4; obtain ⟨b4_0, b4_1, b4_2⟩ := gcells b4) | (refine r_store_row 62 62 _ _ _ rfl (gv g.w g.h g.c) _ rfl b4 (Tryd.gsize' _ _ _) (by simp only [gv_size]) (gv_one _ _ _) rfl ?_; intro w3 u3 b4'; have z3 := u3.size; have gg := u3.gr gg (by omega); have b1 := u3.blk b1 (by omega); obtain ⟨b1_0, b1_1, b1_2⟩ := gcells b1; clear b4; have b4 := b4'; clear b4'; obtain ⟨b4_0, b4_1, b4_2⟩ := gcells b4) | (refine r_load_row 62 _ _ rfl _ _ _ b4 Tryd.underlying62 rfl (Tryd.ginfo' _ _ _) rfl ?_) | (go_at_call 52; refine (HHN.out _).mono ?_; rintro e w6 ⟨rfl, g6⟩; have b1 := g6.blk b1; have b4 := g6.blk b4; obtain ⟨b4_0, b4_1, b4_2⟩ := gcells b4; have hcc := b4_2 i (by omega); have gg := gg.trans g6; have z6 := g6.size) | (refine r_build 62 [] [] _ (Tryd.gbuild0 _) rfl rfl ?_) | (refine r_store_row 62 62 _ _ _ rfl (gv _ _ _) _ rfl b1 (Tryd.gsize' _ _ _) (by simp only [gv_size]) (gv_one _ _ _) rfl ?_; intro w5 u5 b1'; have z5 := u5.size; have gg := u5.gr gg (by omega); have b4 := u5.blk b4 (by omega); obtain ⟨b4_0, b4_1, b4_2⟩ := gcells b4; clear b1; have b1 := b1'; clear b1'; obtain ⟨b1_0, b1_1, b1_2⟩ := gcells b1))
        refine bodyPost_ret (results_row_bool rfl _ _ _ _ _ _ rfl b1 Tryd.underlying62 rfl (Tryd.ginfo' _ _ _)) rfl ⟨?_, gg⟩
        exact HZ.out HN.out
set_option maxHeartbeats 2000000 in
set_option maxRecDepth 100000 in
theorem withCell_any (W H i : Nat) (c : List UInt8) (b : UInt8) (w : World) (hi : i < nn W H) (h36 : nn W H ≤ 36) (hl : c.length = nn W H) : Calls Tryd.prog 80 #[.agg (gv W H c), .int .i64 i, .int .u8 b.toNat] w (Ret (.agg (gv W H (c.set i b))) w) := by
  have gg := Gr.refl w
  have hix := fun B w => Tryd.gix B i (by omega) w
  have HSET := hidI (gv_set W H c i b (by omega) (by omega))
  clear hl
  go_enter Tryd.func80, Tryd.ntmps80
  go_wp2_with (first | (refine r_box 62 _ (gv W H c) rfl rfl ?_; intro w1 B1 N1; have g1 := N1.gr; have b1 : Blk w1 B1 (gv W H c) 62 := N1.blk; have l1 := N1.lo; have t1 := N1.hi; have z1 := g1.size; have gg := gg.trans g1; clear N1; obtain ⟨b1_0, b1_1, b1_2⟩ := gcells b1) | (refine r_alloc 62 _ Tryd.gzero rfl ?_; intro w2 B2 N2; have g2 := N2.gr; have b2 : Blk w2 B2 (gv 0 0 []) 62 := N2.blk; have l2 := N2.lo; have t2 := N2.hi; have z2 := g2.size; have b1 := g2.blk b1; obtain ⟨b1_0, b1_1, b1_2⟩ := gcells b1; have gg := gg.trans g2; clear N2; obtain ⟨b2_0, b2_1, b2_2⟩ := gcells b2) | (refine r_store_cell 5 62 _ _ B1 (2 + i) rfl (byteV b) rfl _ b1 (by rw [gv_size]; omega) Tryd.sizeOf5 rfl rfl ?_; intro w10 u10 b10; rw [HSET.out] at b10; have z10 := u10.size; have b2 := u10.blk b2 (by omega); have gg := u10.gr gg (by omega)) | (refine r_load_row 62 _ _ rfl _ _ _ b10 Tryd.underlying62 rfl (Tryd.ginfo' _ _ _) rfl ?_) | (refine r_store_row 62 62 _ _ _ rfl (gv _ _ _) _ rfl b2 (Tryd.gsize' _ _ _) (by simp only [gv_size]) (gv_one _ _ _) rfl ?_; intro w6 u6 b2'; have z6 := u6.size; have gg := u6.gr gg (by omega); clear b2; have b2 := b2'; clear b2'; obtain ⟨b2_0, b2_1, b2_2⟩ := gcells b2))
  refine bodyPost_ret (results_row rfl _ _ _ _ _ _ rfl b2 Tryd.underlying62 rfl (Tryd.ginfo' _ _ _)) rfl ⟨?_, gg⟩
  rfl
def ftB (W H : Nat) (c : List UInt8) : ByteArray := if foG W H c then txtB W H c else ⟨#[]⟩
set_option maxHeartbeats 2000000 in
set_option maxRecDepth 100000 in
theorem formText_any (W H : Nat) (c : List UInt8) (w : World) (hw1 : 1 ≤ W) (hw7 : W ≤ 7) (hh7 : H ≤ 7) (h36 : nn W H ≤ 36) (hl : c.length = nn W H) : Calls Tryd.prog 79 #[.agg (gv W H c)] w (Ret (.tuple #[.string (ftB W H c), .bool (foG W H c)]) w) := by
  have gg := Gr.refl w
  have HIS := hidI (fun w => isForm_any W H c w hw1 hw7 hh7 h36 hl)
  cases hb : foG W H c with
  | false =>
    rw [hb] at HIS
    have HV := hidI (show ftB W H c = ⟨#[]⟩ from by unfold ftB; rw [hb]; rfl)
    clear hb hl
    go_enter Tryd.func79, Tryd.ntmps79
    go_wp2_with (first | (refine r_box 62 _ (gv W H c) rfl rfl ?_; intro w1 B1 N1; have g1 := N1.gr; have b1 : Blk w1 B1 (gv W H c) 62 := N1.blk; have l1 := N1.lo; have t1 := N1.hi; have z1 := g1.size; have gg := gg.trans g1; clear N1; obtain ⟨b1_0, b1_1, b1_2⟩ := gcells b1) | (refine r_load_row 62 _ _ rfl _ _ _ b1 Tryd.underlying62 rfl (Tryd.ginfo' _ _ _) rfl ?_) | (go_at_call 114; refine (HIS.out _).mono ?_; rintro e w2 ⟨rfl, g2⟩; have z2 := g2.size; have b1 := g2.blk b1; obtain ⟨b1_0, b1_1, b1_2⟩ := gcells b1; have gg := gg.trans g2))
    go_ret2
    exact ⟨fin_sb HV.out.symm rfl, gg⟩
  | true =>
    rw [hb] at HIS
    have HV := hidI (show ftB W H c = txtB W H c from by unfold ftB; rw [hb]; rfl)
    clear hb hl
    go_enter Tryd.func79, Tryd.ntmps79
    go_wp2_with (first | (refine r_box 62 _ (gv W H c) rfl rfl ?_; intro w1 B1 N1; have g1 := N1.gr; have b1 : Blk w1 B1 (gv W H c) 62 := N1.blk; have l1 := N1.lo; have t1 := N1.hi; have z1 := g1.size; have gg := gg.trans g1; clear N1; obtain ⟨b1_0, b1_1, b1_2⟩ := gcells b1) | (refine r_load_row 62 _ _ rfl _ _ _ b1 Tryd.underlying62 rfl (Tryd.ginfo' _ _ _) rfl ?_) | (go_at_call 114; refine (HIS.out _).mono ?_; rintro e w2 ⟨rfl, g2⟩; have z2 := g2.size; have b1 := g2.blk b1; obtain ⟨b1_0, b1_1, b1_2⟩ := gcells b1; have gg := gg.trans g2) | (go_at_call 83; refine (trayText_any W H c _ (.inl hw1) hw7 hh7 h36).mono ?_; rintro e w3 ⟨rfl, g3⟩; have z3 := g3.size; have gg := gg.trans g3))
    go_ret2
    exact ⟨fin_sb HV.out.symm rfl, gg⟩
set_option maxHeartbeats 2000000 in
set_option maxRecDepth 100000 in
theorem iFreeWays (s : ByteArray) (x : Int) (w : World) (hm : ML w) (hs : s.size ≤ 1048576) : Calls Tryd.prog 34 #[.string s, .int .i64 x] w (Ret (.tuple #[.string (fyB s.data.toList x), .bool (fwOk s.data.toList x 46)]) w) := by
  have gg := Gr.refl w
  have HR := hidI (fun w (hm : ML w) => show Calls Tryd.prog 68 #[.string s, .int .i64 x, .int .u8 46] w (Ret (.tuple #[.agg (gvG (fwG s.data.toList x 46)), .bool (fwOk s.data.toList x 46)]) w) from readFormWith_any s x 46 w hm hs)
  rcases fw_cases s.data.toList x 46 with ⟨hf, hfg⟩ | ⟨g, i, hp, hg, hfm, F, rfl, hi, hb, hf, hfg⟩
  · have HV := hidI (show fyB s.data.toList x = ⟨#[]⟩ from by unfold fyB; rw [hf]; rfl)
    have HF := hidI hf
    rw [hf, hfg] at HR
    clear hf hfg
    go_enter Tryd.func34, Tryd.ntmps34
    go_wp2_with (first | (go_at_call 68; refine (HR.out _ (gg.ml hm)).mono ?_; rintro e w1 ⟨rfl, g1⟩; rw [gvG]; have z1 := g1.size; have gg := gg.trans g1) | (refine r_alloc 62 _ Tryd.gzero rfl ?_; intro w2 B2 N2; have g2 := N2.gr; have b2 : Blk w2 B2 (gv 0 0 []) 62 := N2.blk; have l2 := N2.lo; have t2 := N2.hi; have z2 := g2.size; have gg := gg.trans g2; clear N2; obtain ⟨b2_0, b2_1, b2_2⟩ := gcells b2) | (refine r_store_row 62 62 _ _ _ rfl (gv _ _ _) _ rfl b2 (Tryd.gsize' _ _ _) (by simp only [gv_size]) (gv_one _ _ _) rfl ?_; intro w3 u3 b2'; have z3 := u3.size; have gg := u3.gr gg (by omega); clear b2; have b2 := b2'; clear b2'; obtain ⟨b2_0, b2_1, b2_2⟩ := gcells b2))
    go_ret2
    exact ⟨fin_sb HV.out.symm HF.out.symm, gg⟩
  · have HV := hidI (show fyB s.data.toList i = mkS (wyL g.w g.h g.c i 4) from by unfold fyB; rw [hf, hg]; rfl)
    have HF := hidI hf
    have HFW := hidI (fun w => freeWays_any g.w g.h i g.c w hi F.t.n36)
    rw [hf, hfg] at HR
    clear hf hfg hp hg hfm F hb
    go_enter Tryd.func34, Tryd.ntmps34
    go_wp2_with (first | (go_at_call 68; refine (HR.out _ (gg.ml hm)).mono ?_; rintro e w1 ⟨rfl, g1⟩; rw [gvG]; have z1 := g1.size; have gg := gg.trans g1) | (refine r_alloc 62 _ Tryd.gzero rfl ?_; intro w2 B2 N2; have g2 := N2.gr; have b2 : Blk w2 B2 (gv 0 0 []) 62 := N2.blk; have l2 := N2.lo; have t2 := N2.hi; have z2 := g2.size; have gg := gg.trans g2; clear N2; obtain ⟨b2_0, b2_1, b2_2⟩ := gcells b2) | (refine r_store_row 62 62 _ _ _ rfl (gv g.w g.h g.c) _ rfl b2 (Tryd.gsize' _ _ _) (by simp only [gv_size]) (gv_one _ _ _) rfl ?_; intro w3 u3 b2'; have z3 := u3.size; have gg := u3.gr gg (by omega); clear b2; have b2 := b2'; clear b2'; obtain ⟨b2_0, b2_1, b2_2⟩ := gcells b2) | (refine r_load_row 62 _ _ rfl _ _ _ b2 Tryd.underlying62 rfl (Tryd.ginfo' _ _ _) rfl ?_) | (go_at_call 69; refine (HFW.out _).mono ?_; rintro e w4 ⟨rfl, g4⟩; have z4 := g4.size; have gg := gg.trans g4))
    go_ret2
    exact ⟨fin_sb HV.out.symm HF.out.symm, gg⟩
set_option maxHeartbeats 2000000 in
set_option maxRecDepth 100000 in
theorem iAddCell (s : ByteArray) (x : Int) (w : World) (hm : ML w) (hs : s.size ≤ 1048576) : Calls Tryd.prog 38 #[.string s, .int .i64 x] w (Ret (.tuple #[.string (acB s.data.toList x), .bool (acOk s.data.toList x)]) w) := by
  have gg := Gr.refl w
  have HR := hidI (fun w (hm : ML w) => show Calls Tryd.prog 68 #[.string s, .int .i64 x, .int .u8 46] w (Ret (.tuple #[.agg (gvG (fwG s.data.toList x 46)), .bool (fwOk s.data.toList x 46)]) w) from readFormWith_any s x 46 w hm hs)
  rcases fw_cases s.data.toList x 46 with ⟨hf, hfg⟩ | ⟨g, i, hp, hg, hfm, F, rfl, hi, hb, hf, hfg⟩
  · have HV := hidI (show acOk s.data.toList x = false ∧ acB s.data.toList x = ⟨#[]⟩ from by
      have e : acOk s.data.toList x = false := by unfold acOk; rw [hf]; rfl
      exact ⟨e, by unfold acB; rw [e]; rfl⟩)
    rw [hf, hfg] at HR
    clear hf hfg
    go_enter Tryd.func38, Tryd.ntmps38
    go_wp2_with (first | (go_at_call 68; refine (HR.out _ (gg.ml hm)).mono ?_; rintro e w1 ⟨rfl, g1⟩; rw [gvG]; have z1 := g1.size; have gg := gg.trans g1) | (refine r_alloc 62 _ Tryd.gzero rfl ?_; intro w2 B2 N2; have g2 := N2.gr; have b2 : Blk w2 B2 (gv 0 0 []) 62 := N2.blk; have l2 := N2.lo; have t2 := N2.hi; have z2 := g2.size; have gg := gg.trans g2; clear N2; obtain ⟨b2_0, b2_1, b2_2⟩ := gcells b2) | (refine r_store_row 62 62 _ _ _ rfl (gv _ _ _) _ rfl b2 (Tryd.gsize' _ _ _) (by simp only [gv_size]) (gv_one _ _ _) rfl ?_; intro w3 u3 b2'; have z3 := u3.size; have gg := u3.gr gg (by omega); clear b2; have b2 := b2'; clear b2'; obtain ⟨b2_0, b2_1, b2_2⟩ := gcells b2))
    go_ret2
    exact ⟨fin_sb HV.out.2.symm HV.out.1.symm, gg⟩
  · have hlen := F.t.len
    have HV := hidI (show acOk s.data.toList i = (canB g.w g.h g.c i && foG g.w g.h (g.c.set i 111)) from by unfold acOk; rw [hf, hg]; rfl)
    have HB := hidI (show acB s.data.toList i = if acOk s.data.toList i then txtB g.w g.h (g.c.set i 111) else ⟨#[]⟩ from by unfold acB; rw [hg]; rfl)
    have HCA := hidI (fun w => canBeAdded_any g.w g.h i g.c w F.t.w1 F.t.w7 F.t.h7 hi F.t.n36 hlen F.cells)
    have HWC := hidI (fun w => show Calls Tryd.prog 80 #[.agg (gv g.w g.h g.c), .int .i64 i, .int .u8 111] w (Ret (.agg (gv g.w g.h (g.c.set i 111))) w) from withCell_any g.w g.h i g.c 111 w hi F.t.n36 hlen)
    have HFT := hidI (fun w => formText_any g.w g.h (g.c.set i 111) w F.t.w1 F.t.w7 F.t.h7 F.t.n36 (by rw [List.length_set]; exact hlen))
    rw [hf, hfg] at HR
    cases hc : canB g.w g.h g.c i with
    | false =>
      rw [hc] at HCA HV
      clear hf hfg hp hg hfm F hb hlen hc
      go_enter Tryd.func38, Tryd.ntmps38
      go_wp2_with (first | (go_at_call 68; refine (HR.out _ (gg.ml hm)).mono ?_; rintro e w1 ⟨rfl, g1⟩; rw [gvG]; have z1 := g1.size; have gg := gg.trans g1) | (refine r_alloc 62 _ Tryd.gzero rfl ?_; intro w2 B2 N2; have g2 := N2.gr; have b2 : Blk w2 B2 (gv 0 0 []) 62 := N2.blk; have l2 := N2.lo; have t2 := N2.hi; have z2 := g2.size; have gg := gg.trans g2; clear N2; obtain ⟨b2_0, b2_1, b2_2⟩ := gcells b2) | (refine r_store_row 62 62 _ _ _ rfl (gv g.w g.h g.c) _ rfl b2 (Tryd.gsize' _ _ _) (by simp only [gv_size]) (gv_one _ _ _) rfl ?_; intro w3 u3 b2'; have z3 := u3.size; have gg := u3.gr gg (by omega); clear b2; have b2 := b2'; clear b2'; obtain ⟨b2_0, b2_1, b2_2⟩ := gcells b2) | (refine r_load_row 62 _ _ rfl _ _ _ b2 Tryd.underlying62 rfl (Tryd.ginfo' _ _ _) rfl ?_) | (go_at_call 78; refine (HCA.out _).mono ?_; rintro e w4 ⟨rfl, g4⟩; have z4 := g4.size; have b2 := g4.blk b2; obtain ⟨b2_0, b2_1, b2_2⟩ := gcells b2; have gg := gg.trans g4))
      go_ret2
      exact ⟨fin_sb (by rw [HB.out, HV.out]; rfl) (by rw [HV.out]; rfl), gg⟩
    | true =>
      rw [hc] at HCA HV
      clear hf hfg hp hg hfm F hb hlen hc
      go_enter Tryd.func38, Tryd.ntmps38
      go_wp2_with (first | (go_at_call 68; refine (HR.out _ (gg.ml hm)).mono ?_; rintro e w1 ⟨rfl, g1⟩; rw [gvG]; have z1 := g1.size; have gg := gg.trans g1) | (refine r_alloc 62 _ Tryd.gzero rfl ?_; intro w2 B2 N2; have g2 := N2.gr; have b2 : Blk w2 B2 (gv 0 0 []) 62 := N2.blk; have l2 := N2.lo; have t2 := N2.hi; have z2 := g2.size; have gg := gg.trans g2; clear N2; obtain ⟨b2_0, b2_1, b2_2⟩ := gcells b2) | (refine r_store_row 62 62 _ _ _ rfl (gv g.w g.h g.c) _ rfl b2 (Tryd.gsize' _ _ _) (by simp only [gv_size]) (gv_one _ _ _) rfl ?_; intro w3 u3 b2'; have z3 := u3.size; have gg := u3.gr gg (by omega); clear b2; have b2 := b2'; clear b2'; obtain ⟨b2_0, b2_1, b2_2⟩ := gcells b2) | (refine r_load_row 62 _ _ rfl _ _ _ b2 Tryd.underlying62 rfl (Tryd.ginfo' _ _ _) rfl ?_) | (go_at_call 78; refine (HCA.out _).mono ?_; rintro e w4 ⟨rfl, g4⟩; have z4 := g4.size; have b2 := g4.blk b2; obtain ⟨b2_0, b2_1, b2_2⟩ := gcells b2; have gg := gg.trans g4) | (go_at_call 80; refine (HWC.out _).mono ?_; rintro e w5 ⟨rfl, g5⟩; have z5 := g5.size; have b2 := g5.blk b2; obtain ⟨b2_0, b2_1, b2_2⟩ := gcells b2; have gg := gg.trans g5) | (go_at_call 79; refine (HFT.out _).mono ?_; rintro e w6 ⟨rfl, g6⟩; have z6 := g6.size; have gg := gg.trans g6))
      go_ret2
      exact ⟨fin_sb (by rw [HB.out, HV.out]; rfl) (by rw [HV.out]; rfl), gg⟩
theorem tk_of {g : Grid} {i : Nat} (h : at0 g.c i = 111) : tkC g.w g.h g.c i = (canB g.w g.h (g.c.set i 46) i && foG g.w g.h (g.c.set i 46)) := by
  unfold tkC; rw [decide_eq_true h]; rfl
theorem tk_no {l : List UInt8} {x : Int} (h : fwOk l x 111 = false) : tkOk l x = false := by
  unfold tkOk tkC
  unfold fwOk at h
  generalize fmOk l = a at h ⊢
  generalize inB x (nn (rdG l).w (rdG l).h) = b at h ⊢
  cases a <;> cases b <;> first | rfl | (rw [Bool.true_and, Bool.true_and] at h; rw [h]; rfl)
set_option maxHeartbeats 2000000 in
set_option maxRecDepth 100000 in
theorem iTakeCell (s : ByteArray) (x : Int) (w : World) (hm : ML w) (hs : s.size ≤ 1048576) : Calls Tryd.prog 40 #[.string s, .int .i64 x] w (Ret (.tuple #[.string (tkB s.data.toList x), .bool (tkOk s.data.toList x)]) w) := by
  have gg := Gr.refl w
  have HR := hidI (fun w (hm : ML w) => show Calls Tryd.prog 68 #[.string s, .int .i64 x, .int .u8 111] w (Ret (.tuple #[.agg (gvG (fwG s.data.toList x 111)), .bool (fwOk s.data.toList x 111)]) w) from readFormWith_any s x 111 w hm hs)
  rcases fw_cases s.data.toList x 111 with ⟨hf, hfg⟩ | ⟨g, i, hp, hg, hfm, F, rfl, hi, hb, hf, hfg⟩
  · have HV := hidI (show tkOk s.data.toList x = false ∧ tkB s.data.toList x = ⟨#[]⟩ from by
      have e := tk_no hf
      exact ⟨e, by unfold tkB; rw [e]; rfl⟩)
    rw [hf, hfg] at HR
    clear hf hfg
    go_enter Tryd.func40, Tryd.ntmps40
    go_wp2_with (first | (go_at_call 68; refine (HR.out _ (gg.ml hm)).mono ?_; rintro e w1 ⟨rfl, g1⟩; rw [gvG]; have z1 := g1.size; have gg := gg.trans g1) | (refine r_alloc (dst := some 6) 62 _ Tryd.gzero rfl ?_; intro w2 B2 N2; have g2 := N2.gr; have b2 : Blk w2 B2 (gv 0 0 []) 62 := N2.blk; have l2 := N2.lo; have t2 := N2.hi; have z2 := g2.size; have gg := gg.trans g2; clear N2; obtain ⟨b2_0, b2_1, b2_2⟩ := gcells b2) | (refine r_store_row 62 62 _ _ _ rfl (gv _ _ _) _ rfl b2 (Tryd.gsize' _ _ _) (by simp only [gv_size]) (gv_one _ _ _) rfl ?_; intro w3 u3 b2'; have z3 := u3.size; have gg := u3.gr gg (by omega); clear b2; have b2 := b2'; clear b2'; obtain ⟨b2_0, b2_1, b2_2⟩ := gcells b2))
    go_ret2
    exact ⟨fin_sb HV.out.2.symm HV.out.1.symm, gg⟩
  · have hlen := F.t.len
    have HV := hidI (show tkOk s.data.toList i = (canB g.w g.h (g.c.set i 46) i && foG g.w g.h (g.c.set i 46)) from by
      unfold tkOk
      rw [hfm, hg, inB_true.2 ⟨Int.natCast_nonneg _, Int.ofNat_lt.2 hi⟩, Int.toNat_natCast, tk_of hb]
      rfl)
    have HB := hidI (show tkB s.data.toList i = if tkOk s.data.toList i then txtB g.w g.h (g.c.set i 46) else ⟨#[]⟩ from by unfold tkB; rw [hg]; rfl)
    have hlen2 : (g.c.set i 46).length = nn g.w g.h := by rw [List.length_set]; exact hlen
    have HCA := hidI (fun w => canBeAdded_any g.w g.h i (g.c.set i 46) w F.t.w1 F.t.w7 F.t.h7 hi F.t.n36 hlen2 (fun j hj => foB_cell (fo_set rfl F.all j hj)))
    have HWC := hidI (fun w => show Calls Tryd.prog 80 #[.agg (gv g.w g.h g.c), .int .i64 i, .int .u8 46] w (Ret (.agg (gv g.w g.h (g.c.set i 46))) w) from withCell_any g.w g.h i g.c 46 w hi F.t.n36 hlen)
    have HFT := hidI (fun w => formText_any g.w g.h (g.c.set i 46) w F.t.w1 F.t.w7 F.t.h7 F.t.n36 hlen2)
    rw [hf, hfg] at HR
    obtain ⟨c2, hc2⟩ : ∃ c2, c2 = g.c.set i 46 := ⟨_, rfl⟩
    rw [← hc2] at HCA HWC HFT HV HB
    cases hc : canB g.w g.h c2 i with
    | false =>
      rw [hc] at HCA HV
      clear hf hfg hp hg hfm F hb hlen hc hlen2 hc2
      go_enter Tryd.func40, Tryd.ntmps40
      go_wp2_with (first | (go_at_call 68; refine (HR.out _ (gg.ml hm)).mono ?_; rintro e w1 ⟨rfl, g1⟩; rw [gvG]; have z1 := g1.size; have gg := gg.trans g1) | (refine r_alloc (dst := some 6) 62 _ Tryd.gzero rfl ?_; intro w2 B2 N2; have g2 := N2.gr; have b2 : Blk w2 B2 (gv 0 0 []) 62 := N2.blk; have l2 := N2.lo; have t2 := N2.hi; have z2 := g2.size; have gg := gg.trans g2; clear N2; obtain ⟨b2_0, b2_1, b2_2⟩ := gcells b2) | (refine r_store_row 62 62 _ _ _ rfl (gv g.w g.h g.c) _ rfl b2 (Tryd.gsize' _ _ _) (by simp only [gv_size]) (gv_one _ _ _) rfl ?_; intro w3 u3 b2'; have z3 := u3.size; have gg := u3.gr gg (by omega); clear b2; have b2 := b2'; clear b2'; obtain ⟨b2_0, b2_1, b2_2⟩ := gcells b2) | (refine r_load_row 62 _ _ rfl _ _ _ b2 Tryd.underlying62 rfl (Tryd.ginfo' _ _ _) rfl ?_) | (go_at_call 80; refine (HWC.out _).mono ?_; rintro e w5 ⟨rfl, g5⟩; have z5 := g5.size; have b2 := g5.blk b2; obtain ⟨b2_0, b2_1, b2_2⟩ := gcells b2; have gg := gg.trans g5) | (refine r_alloc (dst := some 8) 62 _ Tryd.gzero rfl ?_; intro w7 B7 N7; have g7 := N7.gr; have b7 : Blk w7 B7 (gv 0 0 []) 62 := N7.blk; have l7 := N7.lo; have t7 := N7.hi; have z7 := g7.size; have b2 := g7.blk b2; obtain ⟨b2_0, b2_1, b2_2⟩ := gcells b2; have gg := gg.trans g7; clear N7; obtain ⟨b7_0, b7_1, b7_2⟩ := gcells b7) | (refine r_store_row 62 62 _ _ _ rfl (gv g.w g.h c2) _ rfl b7 (Tryd.gsize' _ _ _) (by simp only [gv_size]) (gv_one _ _ _) rfl ?_; intro w8 u8 b7'; have z8 := u8.size; have gg := u8.gr gg (by omega); clear b7; have b7 := b7'; clear b7'; obtain ⟨b7_0, b7_1, b7_2⟩ := gcells b7) | (refine r_load_row 62 _ _ rfl _ _ _ b7 Tryd.underlying62 rfl (Tryd.ginfo' _ _ _) rfl ?_) | (go_at_call 78; refine (HCA.out _).mono ?_; rintro e w4 ⟨rfl, g4⟩; have z4 := g4.size; have b7 := g4.blk b7; obtain ⟨b7_0, b7_1, b7_2⟩ := gcells b7; have gg := gg.trans g4))
      go_ret2
      exact ⟨fin_sb (by rw [HB.out, HV.out]; rfl) (by rw [HV.out]; rfl), gg⟩
    | true =>
      rw [hc] at HCA HV
      clear hf hfg hp hg hfm F hb hlen hc hlen2 hc2
      go_enter Tryd.func40, Tryd.ntmps40
      go_wp2_with (first | (go_at_call 68; refine (HR.out _ (gg.ml hm)).mono ?_; rintro e w1 ⟨rfl, g1⟩; rw [gvG]; have z1 := g1.size; have gg := gg.trans g1) | (refine r_alloc (dst := some 6) 62 _ Tryd.gzero rfl ?_; intro w2 B2 N2; have g2 := N2.gr; have b2 : Blk w2 B2 (gv 0 0 []) 62 := N2.blk; have l2 := N2.lo; have t2 := N2.hi; have z2 := g2.size; have gg := gg.trans g2; clear N2; obtain ⟨b2_0, b2_1, b2_2⟩ := gcells b2) | (refine r_store_row 62 62 _ _ _ rfl (gv g.w g.h g.c) _ rfl b2 (Tryd.gsize' _ _ _) (by simp only [gv_size]) (gv_one _ _ _) rfl ?_; intro w3 u3 b2'; have z3 := u3.size; have gg := u3.gr gg (by omega); clear b2; have b2 := b2'; clear b2'; obtain ⟨b2_0, b2_1, b2_2⟩ := gcells b2) | (refine r_load_row 62 _ _ rfl _ _ _ b2 Tryd.underlying62 rfl (Tryd.ginfo' _ _ _) rfl ?_) | (go_at_call 80; refine (HWC.out _).mono ?_; rintro e w5 ⟨rfl, g5⟩; have z5 := g5.size; have b2 := g5.blk b2; obtain ⟨b2_0, b2_1, b2_2⟩ := gcells b2; have gg := gg.trans g5) | (refine r_alloc (dst := some 8) 62 _ Tryd.gzero rfl ?_; intro w7 B7 N7; have g7 := N7.gr; have b7 : Blk w7 B7 (gv 0 0 []) 62 := N7.blk; have l7 := N7.lo; have t7 := N7.hi; have z7 := g7.size; have b2 := g7.blk b2; obtain ⟨b2_0, b2_1, b2_2⟩ := gcells b2; have gg := gg.trans g7; clear N7; obtain ⟨b7_0, b7_1, b7_2⟩ := gcells b7) | (refine r_store_row 62 62 _ _ _ rfl (gv g.w g.h c2) _ rfl b7 (Tryd.gsize' _ _ _) (by simp only [gv_size]) (gv_one _ _ _) rfl ?_; intro w8 u8 b7'; have z8 := u8.size; have gg := u8.gr gg (by omega); clear b7; have b7 := b7'; clear b7'; obtain ⟨b7_0, b7_1, b7_2⟩ := gcells b7) | (refine r_load_row 62 _ _ rfl _ _ _ b7 Tryd.underlying62 rfl (Tryd.ginfo' _ _ _) rfl ?_) | (go_at_call 78; refine (HCA.out _).mono ?_; rintro e w4 ⟨rfl, g4⟩; have z4 := g4.size; have b7 := g4.blk b7; obtain ⟨b7_0, b7_1, b7_2⟩ := gcells b7; have gg := gg.trans g4) | (go_at_call 79; refine (HFT.out _).mono ?_; rintro e w6 ⟨rfl, g6⟩; have z6 := g6.size; have gg := gg.trans g6))
      go_ret2
      exact ⟨fin_sb (by rw [HB.out, HV.out]; rfl) (by rw [HV.out]; rfl), gg⟩
end Go.Proofs.YtagoipongdnegaaDoor
