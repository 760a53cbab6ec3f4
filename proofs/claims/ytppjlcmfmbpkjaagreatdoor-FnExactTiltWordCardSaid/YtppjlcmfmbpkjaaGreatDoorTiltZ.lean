/-
  A tray tilted along a word, with its text: in the program and in the model, and the law.
-/
import Derived.Test.YtppjlcmfmbpkjaaGreatDoorTiltY
namespace Go.Proofs.YtppjlcmfmbpkjaaGreatDoor
open Go.RowKit
def twdOk (l : List UInt8) (v : ByteArray) : Bool := rdOk l && wordB v
def twdB (l : List UInt8) (v : ByteArray) : ByteArray := if twdOk l v then txtG (runG (wds v) (rdG l)) else ⟨#[]⟩
theorem twd_no {l : List UInt8} {v : ByteArray} (h : twdOk l v = false) : twdB l v = ⟨#[]⟩ := by unfold twdB; rw [h]; rfl
set_option maxHeartbeats 1000000 in
set_option maxRecDepth 100000 in
theorem iTiltWord (s v : ByteArray) (w : World) (hm : ML w) (hs : s.size ≤ 1048576) : Calls Tryz.prog 5 #[.string s, .string v] w (Ret (.tuple #[.string (twdB s.data.toList v), .bool (twdOk s.data.toList v)]) w) := by
  have gg := Gr.refl w
  rcases rd_cases s.data.toList with ⟨hg, hp, hk⟩ | ⟨g, hp, hg, hk⟩
  · have HY := hidI (show twdOk s.data.toList v = false from by unfold twdOk; rw [hk]; rfl)
    have HV := hidI (twd_no HY.out)
    have HK := hidI hk
    clear hg hp hk
    go_enter Tryz.func5, Tryz.ntmps5
    go_wp2_with (first | (go_at_call 10; refine (readTray_any s _ (gg.ml hm) hs).mono ?_; rintro e w1 ⟨rfl, g1⟩; rw [HK.out]; have z1 := g1.size; have gg := gg.trans g1) | (refine r_alloc 35 _ Tryz.gzero rfl ?_; intro w2 B2 N2; have g2 := N2.gr; have b2 : Blk w2 B2 (gv 0 0 []) 35 := N2.blk; have l2 := N2.lo; have t2 := N2.hi; have z2 := g2.size; have gg := gg.trans g2; clear N2; obtain ⟨b2_0, b2_1, b2_2⟩ := gcells b2) | (refine r_store_row 35 35 _ _ _ rfl (gv _ _ _) _ rfl b2 (Tryz.gsize' _ _ _) (by simp only [gv_size]) (gv_one _ _ _) rfl ?_; intro w3 u3 b2'; have z3 := u3.size; have gg := u3.gr gg (by omega); clear b2; have b2 := b2'; clear b2'; obtain ⟨b2_0, b2_1, b2_2⟩ := gcells b2))
    go_ret2
    exact ⟨fin_sb HV.out.symm HY.out.symm, gg⟩
  · have HK := hidI hk
    have HG := hidI hg
    cases hv : wordB v
    · have HY := hidI (show twdOk s.data.toList v = false from by unfold twdOk; rw [hv, Bool.and_false])
      have HV := hidI (twd_no HY.out)
      have HWV := hidI hv
      clear hg hp hk hv
      go_enter Tryz.func5, Tryz.ntmps5
      go_wp2_with (first | (go_at_call 10; refine (readTray_any s _ (gg.ml hm) hs).mono ?_; rintro e w1 ⟨rfl, g1⟩; rw [HK.out, HG.out, gvG]; have z1 := g1.size; have gg := gg.trans g1) | (refine r_alloc 35 _ Tryz.gzero rfl ?_; intro w2 B2 N2; have g2 := N2.gr; have b2 : Blk w2 B2 (gv 0 0 []) 35 := N2.blk; have l2 := N2.lo; have t2 := N2.hi; have z2 := g2.size; have gg := gg.trans g2; clear N2; obtain ⟨b2_0, b2_1, b2_2⟩ := gcells b2) | (refine r_store_row 35 35 _ _ _ rfl (gv g.w g.h g.c) _ rfl b2 (Tryz.gsize' _ _ _) (by simp only [gv_size]) (gv_one _ _ _) rfl ?_; intro w3 u3 b2'; have z3 := u3.size; have gg := u3.gr gg (by omega); clear b2; have b2 := b2'; clear b2'; obtain ⟨b2_0, b2_1, b2_2⟩ := gcells b2) | (go_at_call 11; refine (iIsWord v _).mono ?_; rintro e w4 ⟨rfl, g4⟩; rw [HWV.out]; have z4 := g4.size; have gg := gg.trans g4))
      go_ret2
      exact ⟨fin_sb HV.out.symm HY.out.symm, gg⟩
    · have HWV := hidI hv
      have HY := hidI (show twdOk s.data.toList v = true from by unfold twdOk; rw [hk, hv]; rfl)
      obtain ⟨e1, e2⟩ := runG_w (wds v) g
      have HV := hidI (show twdB s.data.toList v = txtB g.w g.h (runG (wds v) g).c from by unfold twdB; rw [HY.out, hg]; show txtB _ _ _ = _; rw [e1, e2])
      obtain ⟨hc, hw1, -, -⟩ := cel_of hp
      have hv40 := (wordB_iff.1 hv).1
      have HTG := hidI (show gvG (runG (wds v) g) = gv g.w g.h (runG (wds v) g).c from by unfold gvG; rw [e1, e2])
      have HRV := hidI (fun (w : World) (wv : Value) (h : WordAt w wv (wds v)) => tilted_any g (wds v) wv w hc (wds_lt hv) h (by rw [wds_length]; omega))
      have w7 := hc.w7
      have h7 := hc.h7
      have n36 := hc.n36
      clear hg hp hk hv hc e1 e2
      go_enter Tryz.func5, Tryz.ntmps5
      go_wp2_with (first | (go_at_call 10; refine (readTray_any s _ (gg.ml hm) hs).mono ?_; rintro e w1 ⟨rfl, g1⟩; rw [HK.out, HG.out, gvG]; have z1 := g1.size; have gg := gg.trans g1) | (refine r_alloc 35 _ Tryz.gzero rfl ?_; intro w2 B2 N2; have g2 := N2.gr; have b2 : Blk w2 B2 (gv 0 0 []) 35 := N2.blk; have l2 := N2.lo; have t2 := N2.hi; have z2 := g2.size; have gg := gg.trans g2; clear N2; obtain ⟨b2_0, b2_1, b2_2⟩ := gcells b2) | (refine r_store_row 35 35 _ _ _ rfl (gv g.w g.h g.c) _ rfl b2 (Tryz.gsize' _ _ _) (by simp only [gv_size]) (gv_one _ _ _) rfl ?_; intro w3 u3 b2'; have z3 := u3.size; have gg := u3.gr gg (by omega); clear b2; have b2 := b2'; clear b2'; obtain ⟨b2_0, b2_1, b2_2⟩ := gcells b2) | (go_at_call 11; refine (iIsWord v _).mono ?_; rintro e w4 ⟨rfl, g4⟩; rw [HWV.out]; have z4 := g4.size; have b2 := g4.blk b2; obtain ⟨b2_0, b2_1, b2_2⟩ := gcells b2; have gg := gg.trans g4) | (refine r_load_row 35 _ _ rfl _ _ _ b2 Tryz.underlying35 rfl (Tryz.ginfo' _ _ _) rfl ?_) | (refine r_bytes 9 25 5 _ v rfl Tryz.underlying9 Tryz.underlying25 Tryz.underlying5 rfl ?_; intro wa Ba capa ga la ba hcapa; have gg := gg.trans ga; have b2 := ga.blk b2) | (go_at_call 13; refine (HRV.out _ _ (word_of_bb ba HWV.out)).mono ?_; rintro e w5 ⟨rfl, g5⟩; rw [HTG.out]; have z5 := g5.size; have gg := gg.trans g5) | (go_at_call 12; refine (trayText_any g.w g.h (runG (wds v) g).c _ (.inl hw1) w7 h7 n36).mono ?_; rintro e w6 ⟨rfl, g6⟩; have z6 := g6.size; have gg := gg.trans g6))
      go_ret2
      exact ⟨fin_sb HV.out.symm HY.out.symm, gg⟩
set_option maxHeartbeats 1000000 in
set_option maxRecDepth 100000 in
theorem sTiltWord (s v : ByteArray) (w : World) (hs : s.size ≤ 1048576) : Calls Tryz.prog 4 #[.string s, .string v] w (Ret (.tuple #[.string (twdB s.data.toList v), .bool (twdOk s.data.toList v)]) w) := by
  have gg := Gr.refl w
  go_enter Tryz.func4, Tryz.ntmps4
  go_wp2_with fail
  refine (tyRead_any s _ hs).mono ?_
  rintro e w1 ⟨g1, ⟨hp, rfl⟩ | ⟨g, sl, hp, rfl, hown⟩⟩
  · have HY := hidI (show twdOk s.data.toList v = false from by unfold twdOk; rw [(rd_parse_none hp).2]; rfl)
    have HV := hidI (twd_no HY.out)
    have z1 := g1.size
    have gg := gg.trans g1
    clear hp
    go_wp2_with (first | (refine r_alloc 27 _ Tryz.tzero rfl ?_; intro w2 B2 N2; have g2 := N2.gr; have b2 : Blk w2 B2 (tg 0 0 (.slice none 0 0)) 27 := N2.blk; have l2 := N2.lo; have t2 := N2.hi; have z2 := g2.size; have gg := gg.trans g2; clear N2; obtain ⟨b2_0, b2_1, b2_2⟩ := tcells b2) | (refine r_store_row 27 27 _ _ _ rfl (tg _ _ _) _ rfl b2 Tryz.tsize rfl (tg_one rfl) rfl ?_; intro w3 u3 b2'; have z3 := u3.size; have gg := u3.gr gg (by omega); clear b2; have b2 := b2'; clear b2'; obtain ⟨b2_0, b2_1, b2_2⟩ := tcells b2))
    go_ret2
    exact ⟨fin_sb HV.out.symm HY.out.symm, gg⟩
  · obtain ⟨hg, hk⟩ := rd_parse_some hp
    obtain ⟨hc, hw1, hh1, hl⟩ := cel_of hp
    have z1 := g1.size
    have gg := gg.trans g1
    have hone := own_one hown
    cases hv : wordB v
    · have HY := hidI (show twdOk s.data.toList v = false from by unfold twdOk; rw [hv, Bool.and_false])
      have HV := hidI (twd_no HY.out)
      have HWV := hidI hv
      clear hg hp hk hv hc
      go_wp2_with (first | (refine r_alloc 27 _ Tryz.tzero rfl ?_; intro w2 B2 N2; have g2 := N2.gr; have b2 : Blk w2 B2 (tg 0 0 (.slice none 0 0)) 27 := N2.blk; have l2 := N2.lo; have t2 := N2.hi; have z2 := g2.size; have gg := gg.trans g2; clear N2; obtain ⟨b2_0, b2_1, b2_2⟩ := tcells b2) | (refine r_store_row 27 27 _ _ _ rfl (tg _ _ _) _ rfl b2 Tryz.tsize rfl (tg_one hone) rfl ?_; intro w3 u3 b2'; have z3 := u3.size; have gg := u3.gr gg (by omega); clear b2; have b2 := b2'; clear b2'; obtain ⟨b2_0, b2_1, b2_2⟩ := tcells b2) | (go_at_call 7; refine (tiWord_any v _).mono ?_; rintro e w4 ⟨rfl, g4⟩; rw [HWV.out]; have z4 := g4.size; have gg := gg.trans g4))
      go_ret2
      exact ⟨fin_sb HV.out.symm HY.out.symm, gg⟩
    · have HWV := hidI hv
      have HY := hidI (show twdOk s.data.toList v = true from by unfold twdOk; rw [hk, hv]; rfl)
      obtain ⟨e1, e2⟩ := runG_w (wds v) g
      have HV := hidI (show twdB s.data.toList v = txtB g.w g.h (runG (wds v) g).c from by unfold twdB; rw [HY.out, hg]; show txtB _ _ _ = _; rw [e1, e2])
      have HRV := hidI (fun (w0 : World) (hb : w.heap.size ≤ w0.heap.size) (h : w0.ownsRow w.heap.size 5 1 sl g.c.length (cellsV g.c)) => tiRun_any g w.heap.size v sl w0 hc hv hl hb h)
      have cv := hc.run (wds v) (wds_lt hv)
      have w7 := hc.w7
      have h7 := hc.h7
      have n36 := hc.n36
      have hlen := hc.len
      have hlv : (runG (wds v) g).c.length = nn g.w g.h := by rw [cv.len, e1, e2]
      have HLV := hidI hlv
      have HLEN := hidI hlen
      clear hg hp hk hv hc e1 e2 cv hlv hlen
      go_wp2_with (first | (refine r_alloc 27 _ Tryz.tzero rfl ?_; intro w2 B2 N2; have g2 := N2.gr; have b2 : Blk w2 B2 (tg 0 0 (.slice none 0 0)) 27 := N2.blk; have l2 := N2.lo; have t2 := N2.hi; have z2 := g2.size; have gg := gg.trans g2; clear N2; obtain ⟨b2_0, b2_1, b2_2⟩ := tcells b2) | (refine r_store_row 27 27 _ _ _ rfl (tg _ _ _) _ rfl b2 Tryz.tsize rfl (tg_one hone) rfl ?_; intro w3 u3 b2'; have z3 := u3.size; have gg := u3.gr gg (by omega); clear b2; have b2 := b2'; clear b2'; obtain ⟨b2_0, b2_1, b2_2⟩ := tcells b2) | (go_at_call 7; refine (tiWord_any v _).mono ?_; rintro e w4 ⟨rfl, g4⟩; rw [HWV.out]; have z4 := g4.size; have b2 := g4.blk b2; obtain ⟨b2_0, b2_1, b2_2⟩ := tcells b2; have gg := gg.trans g4) | (refine r_load_row 27 _ _ rfl _ _ _ b2 Tryz.underlying27 rfl Tryz.tinfo rfl ?_))
      have own := g4.row (u3.row (g2.row hown) (own_new hown l2))
      refine (HRV.out _ (by omega) own).mono ?_
      rintro e w5 ⟨g5, s5, rfl, own5⟩
      have gg := gg.trans g5
      go_wp2_with (go_at_call 8; refine (tyText_n g.w g.h _ _ (runG (wds v) g).c _ _ hw1 hh1 w7 h7 n36 HLV.out (by rw [HLV.out, HLEN.out]) own5).mono ?_; rintro e w6 ⟨rfl, g6⟩; have z6 := g6.size; have gg := gg.trans g6)
      go_ret2
      exact ⟨fin_sb HV.out.symm HY.out.symm, gg⟩
set_option maxHeartbeats 1000000 in
theorem lawTiltWord (s t : ByteArray) (w : World) (hm : ML w) : Calls Tryz.prog 3 #[.string s, .string t] w (Ret (.bool true) w) := by
  have gg := Gr.refl w
  by_cases hs : 1048576 < s.size
  · go_enter Tryz.func3, Tryz.ntmps3
    go_wp2
    go_ret
    exact ⟨rfl, gg⟩
  · have hs' : s.size ≤ 1048576 := by omega
    clear hs
    by_cases hc : 1048576 < t.size
    · go_enter Tryz.func3, Tryz.ntmps3
      go_wp2
      go_ret
      exact ⟨rfl, gg⟩
    · have hc' : t.size ≤ 1048576 := by omega
      clear hc
      go_enter Tryz.func3, Tryz.ntmps3
      go_wp2_with (first | (go_at_call 4; refine (sTiltWord s t _ hs').mono ?_; rintro e w1 ⟨rfl, g1⟩; have z1 := g1.size; have gg := gg.trans g1) | (go_at_call 5; refine (iTiltWord s t _ (gg.ml hm) hs').mono ?_; rintro e w2 ⟨rfl, g2⟩; have z2 := g2.size; have gg := gg.trans g2))
      go_ret
      exact ⟨rfl, gg⟩
end Go.Proofs.YtppjlcmfmbpkjaaGreatDoor
