/-
  Words as closures in the program: what they do to a tray, and whether they come back.
-/
import Derived.Test.YtbppbbkcampglaaGreatDoorMachP
import Derived.Test.YtbppbbkcampglaaGreatDoorCallC
import Derived.Test.YtbppbbkcampglaaGreatDoorOps
import Derived.Test.YtbppbbkcampglaaGreatDoorTiltY
namespace Go.Proofs.YtbppbbkcampglaaGreatDoor
open Go.RowKit
def mcOk (l : List UInt8) (u : ByteArray) : Bool := rdOk l && wordB u
/-- Behind the word balls stand in the same cells. -/
def backB (g : Grid) (ds : List Nat) : Bool := decide (bpos g.c (nn g.w g.h) = bpos (runG ds g).c (nn g.w g.h))
def cbB (l : List UInt8) (u : ByteArray) : Bool := if mcOk l u then backB (rdG l) (wds u) else false
theorem zz_inj {s t : List Nat} (h : zz s = zz t) : s = t := by
  unfold zz at h
  exact (List.map_inj_right (fun a b e => Int.ofNat_inj.1 e)).1 h
theorem back_zz {g : Grid} (ds : List Nat) : decide (ballsTo ballB g.c (nn g.w g.h) = ballsTo ballB (runG ds g).c (nn g.w g.h)) = backB g ds := by
  unfold backB
  rw [decide_eq_decide, ballsTo_bpos, ballsTo_bpos]
  exact ⟨zz_inj, fun e => by rw [e]⟩
theorem equal_any (v1 v2 : Value) (L M : List Int) (b1 b2 : Nat) (w : World) (h1 : w.ownsRow b1 3 1 v1 L.length (intsV L)) (h2 : w.ownsRow b2 3 1 v2 M.length (intsV M)) (hl : L.length ≤ 1048576) (hm : M.length ≤ 1048576) :
    Calls Tryz.prog 74 #[v1, v2] w (Ret (.bool (decide (L = M))) w) := by
  obtain ⟨p1, m1, k1, rfl⟩ := own_slice h1
  obtain ⟨p2, m2, k2, rfl⟩ := own_slice h2
  obtain rfl : m1 = L.length := own_len h1
  obtain rfl : m2 = M.length := own_len h2
  by_cases hne : L.length = M.length
  · rcases Nat.eq_zero_or_pos L.length with h0 | h0
    · have e1 : L = [] := List.eq_nil_of_length_eq_zero h0
      have e2 : M = [] := List.eq_nil_of_length_eq_zero (by omega)
      subst e1 e2
      exact (Tryz.slices_Equal_int_empty p1 p2 k1 0 k2 w (by omega)).mono fun e w' ⟨a, b⟩ => ⟨by rw [a]; rfl, by rw [b]; exact Gr.refl w⟩
    · obtain ⟨g1, c1, e1, -, -⟩ := own_shape h1 h0
      obtain ⟨g2, c2, e2, -, -⟩ := own_shape h2 (by omega)
      cases e1
      cases e2
      refine (Tryz.slices_Equal_int g1 0 L.length k1 g2 0 M.length k2 L M w (Nat.le_refl _) (Nat.le_refl _) (by omega) (by omega) (fun j hj => by rw [Nat.zero_add]; exact own_int h1 j hj rfl) (fun j hj => by rw [Nat.zero_add]; exact own_int h2 j hj rfl)).mono fun e w' ⟨a, q, b⟩ => ⟨?_, by rw [b]; exact (Gr.refl w).drewN q⟩
      rw [a, List.take_length, List.take_length]
      congr 2
      rw [Bool.eq_iff_iff, beq_iff_eq, decide_eq_true_eq]
  · exact (Tryz.slices_Equal_int_lens p1 p2 L.length k1 M.length k2 w hne).mono fun e w' ⟨a, b⟩ => ⟨by rw [a, decide_eq_false (fun e => hne (by rw [e]))], by rw [b]; exact Gr.refl w⟩
def doV (B : Nat) : Value := .func (.func 86) #[] #[.pointer (some ⟨B, 0, none⟩)]
set_option maxHeartbeats 1000000 in
set_option maxRecDepth 100000 in
theorem doingOf_any (u : ByteArray) (w : World) : Calls Tryz.prog 55 #[.string u] w fun e w' => Gr w w' ∧ ∃ B, e = .returned (doV B) ∧ Blk w' B #[.string u] 9 := by
  have gg := Gr.refl w
  go_enter Tryz.func55, Tryz.ntmps55
  go_wp2_with (refine r_box1 9 _ (.string u) rfl (fun _ => rfl) rfl ?_; intro w1 B1 N1; have g1 := N1.gr; have b1 : Blk w1 B1 #[.string u] 9 := N1.blk; have gg := gg.trans g1; clear N1)
  go_ret
  exact ⟨gg, B1, rfl, b1⟩
set_option maxHeartbeats 1000000 in
set_option maxRecDepth 100000 in
theorem doing1_any (g : Grid) (u : ByteArray) (B : Nat) (w : World) (hg : Wal g) (hu : wordB u = true) (hb : Blk w B #[.string u] 9) :
    Calls Tryz.prog 86 #[.agg (gvG g), .pointer (some ⟨B, 0, none⟩)] w (Ret (.agg (gvG (runB (wds u) g))) w) := by
  have gg := Gr.refl w
  have hu40 := (wordB_iff.1 hu).1
  have HW := hidI hu
  have HRV := hidI (fun (w : World) (wv : Value) (h : WordAt w wv (wds u)) => tiltedB_any g (wds u) wv w hg (wds_lt hu) h (by rw [wds_length]; omega))
  obtain ⟨q, hq⟩ : ∃ q, q = runB (wds u) g := ⟨_, rfl⟩
  rw [← hq] at HRV ⊢
  clear hg hu hq
  have h36 : gvG g = gv g.w g.h g.c := rfl
  have h37 : gvG q = gv q.w q.h q.c := rfl
  rw [h36]
  rw [h36] at HRV
  go_enter Tryz.func86, Tryz.ntmps86
  go_wp2_with (first | (refine r_box 56 _ (gv g.w g.h g.c) rfl rfl ?_; intro w1 B1 N1; have g1 := N1.gr; have b1 : Blk w1 B1 (gv g.w g.h g.c) 56 := N1.blk; have l1 := N1.lo; have t1 := N1.hi; have z1 := g1.size; have hb := g1.blk hb; have gg := gg.trans g1; clear N1; obtain ⟨b1_0, b1_1, b1_2⟩ := gcells b1) | (refine r_alloc (dst := some 3) 56 _ Tryz.gzero rfl ?_; intro w2 B2 N2; have g2 := N2.gr; have b2 : Blk w2 B2 (gv 0 0 []) 56 := N2.blk; have l2 := N2.lo; have t2 := N2.hi; have z2 := g2.size; have b1 := g2.blk b1; obtain ⟨b1_0, b1_1, b1_2⟩ := gcells b1; have hb := g2.blk hb; have gg := gg.trans g2; clear N2; obtain ⟨b2_0, b2_1, b2_2⟩ := gcells b2) | (refine r_load_row 56 _ _ rfl _ _ _ b1 Tryz.underlying56 rfl (Tryz.ginfo' _ _ _) rfl ?_) | (refine r_ldc 9 (.tmp 1) ⟨B, 0, none⟩ (.string u) rfl (Tryz.isAgg9 _) (box_cell hb) rfl ?_) | (refine r_bytes 9 48 5 _ u rfl Tryz.underlying9 Tryz.underlying48 Tryz.underlying5 rfl ?_; intro wa Ba capa ga la ba hcapa; have gg := gg.trans ga; have b2 := ga.blk b2) | (go_at_call 87; refine (HRV.out _ _ (word_of_bb ba HW.out)).mono ?_; rintro e w5 ⟨rfl, g5⟩; rw [h37]; have z5 := g5.size; have b2 := g5.blk b2; obtain ⟨b2_0, b2_1, b2_2⟩ := gcells b2; have gg := gg.trans g5) | (refine r_store_row 56 56 _ _ _ rfl (gv q.w q.h q.c) _ rfl b2 (Tryz.gsize' _ _ _) (by simp only [gv_size]) (gv_one _ _ _) rfl ?_; intro w6 u6 b2'; have z6 := u6.size; have gg := u6.gr gg (by omega); clear b2; have b2 := b2'; clear b2'; obtain ⟨b2_0, b2_1, b2_2⟩ := gcells b2))
  refine bodyPost_ret (results_row rfl _ _ _ _ _ _ rfl b2 Tryz.underlying56 rfl (Tryz.ginfo' _ _ _)) rfl ⟨?_, gg⟩
  rfl
set_option maxHeartbeats 2000000 in
set_option maxRecDepth 100000 in
theorem comesBack_any (g : Grid) (u : ByteArray) (B : Nat) (w : World) (hg : Cel g) (hu : wordB u = true) (hb : Blk w B #[.string u] 9) :
    Calls Tryz.prog 43 #[.agg (gvG g), doV B] w (Ret (.bool (backB g (wds u))) w) := by
  have gg := Gr.refl w
  have w7 := hg.w7
  have h7 := hg.h7
  have n36 := hg.n36
  have HDO := hidI (fun (w : World) (hb : Blk w B #[.string u] 9) => (runB_eq hg (wds u) (wds_lt hu)) ▸ doing1_any g u B w hg.wal hu hb)
  obtain ⟨e1, e2⟩ := runG_w (wds u) g
  have HBK := hidI (back_zz (g := g) (wds u))
  obtain ⟨q, hq⟩ : ∃ q, q = runG (wds u) g := ⟨_, rfl⟩
  rw [← hq] at HDO HBK e1 e2
  have HQ := hidI (show gvG q = gv g.w g.h q.c from by unfold gvG; rw [e1, e2])
  have hl1 := ballsTo_le ballB g.c (nn g.w g.h)
  have hl2 := ballsTo_le ballB q.c (nn g.w g.h)
  have h36 : gvG g = gv g.w g.h g.c := rfl
  rw [HQ.out, h36] at HDO
  rw [h36]
  clear hg hu hq e1 e2
  go_enter Tryz.func43, Tryz.ntmps43
  go_wp2_with (refine r_box 56 _ (gv g.w g.h g.c) rfl rfl ?_; intro w1 B1 N1; have g1 := N1.gr; have b1 : Blk w1 B1 (gv g.w g.h g.c) 56 := N1.blk; have l1 := N1.lo; have t1 := N1.hi; have z1 := g1.size; have hb := g1.blk hb; have gg := gg.trans g1; clear N1; obtain ⟨b1_0, b1_1, b1_2⟩ := gcells b1)
  have gd := (Gr.refl w1).drew
  have b1 := gd.blk b1
  have hb := gd.blk hb
  have gg := gg.trans gd
  have zd := gd.size
  refine F_begin (fun w => Blk w B1 (gv g.w g.h g.c) 56) 7 8 #[false, false, false, false, false, false, false, false] rfl (by kernel_rfl) (by kernel_rfl) ?_
  generalize w1.drew = wd at *
  refine F_take (v := .agg (gv g.w g.h g.c)) 0 #[true, false, false, false, false, false, false, false] rfl (by kernel_rfl) (fun _ _ _ h => h) rfl (fun w hF => e_load_row 56 (.tmp 2) B1 _ _ _ rfl hF Tryz.underlying56 rfl (Tryz.ginfo' _ _ _)) (b1) ?_; simp only [Act.put, List.setIfInBounds_toArray, List.set_cons_succ, List.set_cons_zero]
  refine F_free (v := doV B) 2 #[true, false, true, false, false, false, false, false] rfl (by kernel_rfl) (fun _ _ _ h => h) rfl (fun _ => rfl) (b1) ?_; simp only [Act.put, List.setIfInBounds_toArray, List.set_cons_succ, List.set_cons_zero]
  refine F_take (v := .agg (gv g.w g.h g.c)) 3 #[true, false, true, true, false, false, false, false] rfl (by kernel_rfl) (fun _ _ _ h => h) rfl (fun w hF => e_load_row 56 (.tmp 2) B1 _ _ _ rfl hF Tryz.underlying56 rfl (Tryz.ginfo' _ _ _)) (b1) ?_; simp only [Act.put, List.setIfInBounds_toArray, List.set_cons_succ, List.set_cons_zero]
  refine F_one 1 #[true, true, true, true, false, false, false, false] rfl (by kernel_rfl) ?_
  refine r_callx 75 [.tmp 5] _ [.agg (gv g.w g.h g.c)] (fun v w' => Gr wd w' ∧ w'.ownsRow wd.heap.size 3 1 v (ballsTo ballB g.c (nn g.w g.h)).length (intsV (ballsTo ballB g.c (nn g.w g.h)))) Tryz.call75 rfl rfl ((ballsIn_any g.w g.h g.c wd w7 h7 n36).mono fun e w' ⟨a, v, b, c⟩ => ⟨v, b, a, c⟩) ?_
  rintro v3 w3 ⟨g3, own3⟩
  have b1 := g3.blk b1
  have hb := g3.blk hb
  have gg := gg.trans g3
  refine ⟨fun _ => b1, ?_⟩
  simp only [Act.put, List.setIfInBounds_toArray, List.set_cons_succ, List.set_cons_zero]
  refine F_one 4 #[true, true, true, true, true, false, false, false] rfl (by kernel_rfl) ?_
  refine r_callc 86 (.tmp 7) [.tmp 8] _ [.agg (gv g.w g.h g.c)] [.pointer (some ⟨B, 0, none⟩)] (.agg (gv g.w g.h q.c)) (fun w' => Gr w3 w') Tryz.call86 rfl rfl rfl (HDO.out w3 hb) ?_
  intro w4 g4
  have b1 := g4.blk b1
  have own3 := g4.row own3
  have gg := gg.trans g4
  refine ⟨fun _ => b1, ?_⟩
  simp only [Act.put, List.setIfInBounds_toArray, List.set_cons_succ, List.set_cons_zero]
  refine F_one 5 #[true, true, true, true, true, true, false, false] rfl (by kernel_rfl) ?_
  refine r_callx 75 [.tmp 9] _ [.agg (gv g.w g.h q.c)] (fun v w' => Gr w4 w' ∧ w'.ownsRow w4.heap.size 3 1 v (ballsTo ballB q.c (nn g.w g.h)).length (intsV (ballsTo ballB q.c (nn g.w g.h)))) Tryz.call75 rfl rfl ((ballsIn_any g.w g.h q.c w4 w7 h7 n36).mono fun e w' ⟨a, v, b, c⟩ => ⟨v, b, a, c⟩) ?_
  rintro v5 w5 ⟨g5, own5⟩
  have b1 := g5.blk b1
  have own3 := g5.row own3
  have gg := gg.trans g5
  refine ⟨fun _ => b1, ?_⟩
  simp only [Act.put, List.setIfInBounds_toArray, List.set_cons_succ, List.set_cons_zero]
  refine F_one 6 #[true, true, true, true, true, true, true, false] rfl (by kernel_rfl) ?_
  refine r_call 74 [.tmp 6, .tmp 10] _ [v3, v5] (.bool (backB g (wds u))) (fun w' => Gr w5 w') Tryz.call74 rfl rfl (HBK.out ▸ equal_any v3 v5 _ _ _ _ w5 own3 own5 (by omega) (by omega)) ?_
  intro w6 g6
  have b1 := g6.blk b1
  have gg := gg.trans g6
  refine ⟨fun _ => b1, ?_⟩
  simp only [Act.put, List.setIfInBounds_toArray, List.set_cons_succ, List.set_cons_zero]
  refine F_one 7 #[true, true, true, true, true, true, true, true] rfl (by kernel_rfl) ?_
  refine r_val (.bool (backB g (wds u))) rfl rfl ?_
  simp only [Act.put, List.setIfInBounds_toArray, List.set_cons_succ, List.set_cons_zero]
  refine ⟨fun h => (by cases h), ?_⟩
  refine F_done (by kernel_rfl) ?_
  go_wp2
  go_ret
  exact ⟨rfl, gg⟩
set_option maxHeartbeats 2000000 in
set_option maxRecDepth 100000 in
theorem readDoing_no (s u : ByteArray) (w : World) (hm : ML w) (hs : s.size ≤ 1048576) (h : mcOk s.data.toList u = false) : Calls Tryz.prog 42 #[.string s, .string u] w (Ret (.tuple #[.agg (gv 0 0 []), .nilFunc, .bool false]) w) := by
  have gg := Gr.refl w
  rcases rd_cases s.data.toList with ⟨hg, hp, hk⟩ | ⟨g, hp, hg, hk⟩
  · have HK := hidI hk
    clear hg hp hk h
    go_enter Tryz.func42, Tryz.ntmps42
    go_wp2_with (first | (refine r_alloc (dst := some 4) 56 _ Tryz.gzero rfl ?_; intro w1 B1 N1; have g1 := N1.gr; have b1 : Blk w1 B1 (gv 0 0 []) 56 := N1.blk; have l1 := N1.lo; have t1 := N1.hi; have z1 := g1.size; have gg := gg.trans g1; clear N1; obtain ⟨b1_0, b1_1, b1_2⟩ := gcells b1) | (go_at_call 73; refine (readTray_any s _ (gg.ml hm) hs).mono ?_; rintro e w2 ⟨rfl, g2⟩; rw [HK.out]; have z2 := g2.size; have b1 := g2.blk b1; obtain ⟨b1_0, b1_1, b1_2⟩ := gcells b1; have gg := gg.trans g2) | (refine r_alloc (dst := some 7) 56 _ Tryz.gzero rfl ?_; intro w3 B3 N3; have g3 := N3.gr; have b3 : Blk w3 B3 (gv 0 0 []) 56 := N3.blk; have l3 := N3.lo; have t3 := N3.hi; have z3 := g3.size; have b1 := g3.blk b1; obtain ⟨b1_0, b1_1, b1_2⟩ := gcells b1; have gg := gg.trans g3; clear N3; obtain ⟨b3_0, b3_1, b3_2⟩ := gcells b3) | (refine r_store_row 56 56 _ _ _ rfl (gv _ _ _) _ rfl b3 (Tryz.gsize' _ _ _) (by simp only [gv_size]) (gv_one _ _ _) rfl ?_; intro w4 u4 b3'; have z4 := u4.size; have gg := u4.gr gg (by omega); have b1 := u4.blk b1 (by omega); obtain ⟨b1_0, b1_1, b1_2⟩ := gcells b1; clear b3; have b3 := b3'; clear b3'; obtain ⟨b3_0, b3_1, b3_2⟩ := gcells b3) | (refine r_build 56 [] [] _ (Tryz.gbuild0 _) rfl rfl ?_) | (refine r_store_row 56 56 _ _ _ rfl (gv 0 0 []) _ rfl b1 (Tryz.gsize' _ _ _) (by simp only [gv_size]) (gv_one _ _ _) rfl ?_; intro w5 u5 b1'; have z5 := u5.size; have gg := u5.gr gg (by omega); have b3 := u5.blk b3 (by omega); obtain ⟨b3_0, b3_1, b3_2⟩ := gcells b3; clear b1; have b1 := b1'; clear b1'; obtain ⟨b1_0, b1_1, b1_2⟩ := gcells b1))
    refine bodyPost_ret (results_row_two rfl _ _ _ _ _ _ rfl b1 Tryz.underlying56 rfl (Tryz.ginfo' _ _ _)) rfl ⟨rfl, gg⟩
  · have hu : wordB u = false := by unfold mcOk at h; rw [hk] at h; simpa using h
    have HK := hidI hk
    have HG := hidI hg
    have HW := hidI hu
    clear hg hp hk h hu
    go_enter Tryz.func42, Tryz.ntmps42
    go_wp2_with (first | (refine r_alloc (dst := some 4) 56 _ Tryz.gzero rfl ?_; intro w1 B1 N1; have g1 := N1.gr; have b1 : Blk w1 B1 (gv 0 0 []) 56 := N1.blk; have l1 := N1.lo; have t1 := N1.hi; have z1 := g1.size; have gg := gg.trans g1; clear N1; obtain ⟨b1_0, b1_1, b1_2⟩ := gcells b1) | (go_at_call 73; refine (readTray_any s _ (gg.ml hm) hs).mono ?_; rintro e w2 ⟨rfl, g2⟩; rw [HK.out, HG.out, gvG]; have z2 := g2.size; have b1 := g2.blk b1; obtain ⟨b1_0, b1_1, b1_2⟩ := gcells b1; have gg := gg.trans g2) | (refine r_alloc (dst := some 7) 56 _ Tryz.gzero rfl ?_; intro w3 B3 N3; have g3 := N3.gr; have b3 : Blk w3 B3 (gv 0 0 []) 56 := N3.blk; have l3 := N3.lo; have t3 := N3.hi; have z3 := g3.size; have b1 := g3.blk b1; obtain ⟨b1_0, b1_1, b1_2⟩ := gcells b1; have gg := gg.trans g3; clear N3; obtain ⟨b3_0, b3_1, b3_2⟩ := gcells b3) | (refine r_store_row 56 56 _ _ _ rfl (gv g.w g.h g.c) _ rfl b3 (Tryz.gsize' _ _ _) (by simp only [gv_size]) (gv_one _ _ _) rfl ?_; intro w4 u4 b3'; have z4 := u4.size; have gg := u4.gr gg (by omega); have b1 := u4.blk b1 (by omega); obtain ⟨b1_0, b1_1, b1_2⟩ := gcells b1; clear b3; have b3 := b3'; clear b3'; obtain ⟨b3_0, b3_1, b3_2⟩ := gcells b3) | (go_at_call 53; refine (iIsWord u _).mono ?_; rintro e w6 ⟨rfl, g6⟩; rw [HW.out]; have z6 := g6.size; have b1 := g6.blk b1; obtain ⟨b1_0, b1_1, b1_2⟩ := gcells b1; have b3 := g6.blk b3; obtain ⟨b3_0, b3_1, b3_2⟩ := gcells b3; have gg := gg.trans g6) | (refine r_build 56 [] [] _ (Tryz.gbuild0 _) rfl rfl ?_) | (refine r_store_row 56 56 _ _ _ rfl (gv 0 0 []) _ rfl b1 (Tryz.gsize' _ _ _) (by simp only [gv_size]) (gv_one _ _ _) rfl ?_; intro w5 u5 b1'; have z5 := u5.size; have gg := u5.gr gg (by omega); have b3 := u5.blk b3 (by omega); obtain ⟨b3_0, b3_1, b3_2⟩ := gcells b3; clear b1; have b1 := b1'; clear b1'; obtain ⟨b1_0, b1_1, b1_2⟩ := gcells b1))
    refine bodyPost_ret (results_row_two rfl _ _ _ _ _ _ rfl b1 Tryz.underlying56 rfl (Tryz.ginfo' _ _ _)) rfl ⟨rfl, gg⟩
set_option maxHeartbeats 2000000 in
set_option maxRecDepth 100000 in
theorem readDoing_yes (s u : ByteArray) (g : Grid) (w : World) (hm : ML w) (hs : s.size ≤ 1048576) (hg : rdG s.data.toList = g) (hk : rdOk s.data.toList = true) (hu : wordB u = true) :
    Calls Tryz.prog 42 #[.string s, .string u] w fun e w' => Gr w w' ∧ ∃ B, e = .returned (.tuple #[.agg (gv g.w g.h g.c), doV B, .bool true]) ∧ Blk w' B #[.string u] 9 := by
  have gg := Gr.refl w
  have HK := hidI hk
  have HG := hidI hg
  have HW := hidI hu
  clear hg hk hu
  go_enter Tryz.func42, Tryz.ntmps42
  go_wp2_with (first | (refine r_alloc (dst := some 4) 56 _ Tryz.gzero rfl ?_; intro w1 B1 N1; have g1 := N1.gr; have b1 : Blk w1 B1 (gv 0 0 []) 56 := N1.blk; have l1 := N1.lo; have t1 := N1.hi; have z1 := g1.size; have gg := gg.trans g1; clear N1; obtain ⟨b1_0, b1_1, b1_2⟩ := gcells b1) | (go_at_call 73; refine (readTray_any s _ (gg.ml hm) hs).mono ?_; rintro e w2 ⟨rfl, g2⟩; rw [HK.out, HG.out, gvG]; have z2 := g2.size; have b1 := g2.blk b1; obtain ⟨b1_0, b1_1, b1_2⟩ := gcells b1; have gg := gg.trans g2) | (refine r_alloc (dst := some 7) 56 _ Tryz.gzero rfl ?_; intro w3 B3 N3; have g3 := N3.gr; have b3 : Blk w3 B3 (gv 0 0 []) 56 := N3.blk; have l3 := N3.lo; have t3 := N3.hi; have z3 := g3.size; have b1 := g3.blk b1; obtain ⟨b1_0, b1_1, b1_2⟩ := gcells b1; have gg := gg.trans g3; clear N3; obtain ⟨b3_0, b3_1, b3_2⟩ := gcells b3) | (refine r_store_row 56 56 _ _ _ rfl (gv g.w g.h g.c) _ rfl b3 (Tryz.gsize' _ _ _) (by simp only [gv_size]) (gv_one _ _ _) rfl ?_; intro w4 u4 b3'; have z4 := u4.size; have gg := u4.gr gg (by omega); have b1 := u4.blk b1 (by omega); obtain ⟨b1_0, b1_1, b1_2⟩ := gcells b1; clear b3; have b3 := b3'; clear b3'; obtain ⟨b3_0, b3_1, b3_2⟩ := gcells b3) | (go_at_call 53; refine (iIsWord u _).mono ?_; rintro e w6 ⟨rfl, g6⟩; rw [HW.out]; have z6 := g6.size; have b1 := g6.blk b1; obtain ⟨b1_0, b1_1, b1_2⟩ := gcells b1; have b3 := g6.blk b3; obtain ⟨b3_0, b3_1, b3_2⟩ := gcells b3; have gg := gg.trans g6))
  have gd := (Gr.refl w6).drew
  have b1 := gd.blk b1
  have b3 := gd.blk b3
  have gg := gg.trans gd
  have zd := gd.size
  have n13 : B1 ≠ B3 := by omega
  have lo1 : w.heap.size ≤ B1 := by omega
  refine F_begin (fun w => Blk w B3 (gv g.w g.h g.c) 56) 3 6 #[false, false, false, false, false, false] rfl (by kernel_rfl) (by kernel_rfl) ?_
  generalize w6.drew = wd at *
  refine F_take (v := .agg (gv g.w g.h g.c)) 0 #[true, false, false, false, false, false] rfl (by kernel_rfl) (fun _ _ _ h => h) rfl (fun w hF => e_load_row 56 (.tmp 7) B3 _ _ _ rfl hF Tryz.underlying56 rfl (Tryz.ginfo' _ _ _)) (b3) ?_; simp only [Act.put, List.setIfInBounds_toArray, List.set_cons_succ, List.set_cons_zero]
  refine F_free (v := .string u) 1 #[true, true, false, false, false, false] rfl (by kernel_rfl) (fun _ _ _ h => h) rfl (fun _ => rfl) (b3) ?_; simp only [Act.put, List.setIfInBounds_toArray, List.set_cons_succ, List.set_cons_zero]
  refine F_one 2 #[true, true, true, false, false, false] rfl (by kernel_rfl) ?_
  refine r_callx 55 [.tmp 23] _ [.string u] (fun v w' => Gr wd w' ∧ ∃ B, v = doV B ∧ Blk w' B #[.string u] 9) Tryz.call55 rfl rfl ((doingOf_any u wd).mono fun e w' ⟨a, B, b, c⟩ => ⟨_, b, a, B, rfl, c⟩) ?_
  rintro v7 w7 ⟨g7, B7, rfl, b7⟩
  have b1 := g7.blk b1
  have b3 := g7.blk b3
  have gg := gg.trans g7
  refine ⟨fun _ => b3, ?_⟩
  simp only [Act.put, List.setIfInBounds_toArray, List.set_cons_succ, List.set_cons_zero]
  refine F_one 3 #[true, true, true, true, false, false] rfl (by kernel_rfl) ?_
  refine r_store_row 56 56 _ _ B1 rfl (gv g.w g.h g.c) _ rfl b1 (Tryz.gsize' _ _ _) (by simp only [gv_size]) (gv_one _ _ _) rfl ?_
  intro w8 u8 b18
  have b7 := u8.blk b7 (blk_ne b7 b1 (by decide))
  have gg := u8.gr gg lo1
  refine ⟨fun h => (by cases h), ?_⟩
  simp only [Act.put]
  refine F_one 4 #[true, true, true, true, true, false] rfl (by kernel_rfl) ?_
  refine r_val (doV B7) rfl rfl ?_
  simp only [Act.put, List.setIfInBounds_toArray, List.set_cons_succ, List.set_cons_zero]
  refine ⟨fun h => (by cases h), ?_⟩
  refine F_one 5 #[true, true, true, true, true, true] rfl (by kernel_rfl) ?_
  refine r_val (.bool true) rfl rfl ?_
  simp only [Act.put, List.setIfInBounds_toArray, List.set_cons_succ, List.set_cons_zero]
  refine ⟨fun h => (by cases h), ?_⟩
  refine F_done (by kernel_rfl) ?_
  go_wp2
  refine bodyPost_ret (results_row_two rfl _ _ _ _ _ _ rfl b18 Tryz.underlying56 rfl (Tryz.ginfo' _ _ _)) rfl ⟨gg, B7, rfl, b7⟩
set_option maxHeartbeats 1000000 in
set_option maxRecDepth 100000 in
theorem iComesBack (s u : ByteArray) (w : World) (hm : ML w) (hs : s.size ≤ 1048576) : Calls Tryz.prog 14 #[.string s, .string u] w (Ret (.tuple #[.bool (cbB s.data.toList u), .bool (mcOk s.data.toList u)]) w) := by
  have gg := Gr.refl w
  cases hok : mcOk s.data.toList u with
  | false =>
    have HV := hidI (show cbB s.data.toList u = false from by unfold cbB; rw [hok]; rfl)
    have HN := hidI hok
    clear hok
    go_enter Tryz.func14, Tryz.ntmps14
    go_wp2_with (first | (go_at_call 42; refine (readDoing_no s u _ hm hs HN.out).mono ?_; rintro e w1 ⟨rfl, g1⟩; have z1 := g1.size; have gg := gg.trans g1) | (refine r_alloc 56 _ Tryz.gzero rfl ?_; intro w2 B2 N2; have g2 := N2.gr; have b2 : Blk w2 B2 (gv 0 0 []) 56 := N2.blk; have l2 := N2.lo; have t2 := N2.hi; have z2 := g2.size; have gg := gg.trans g2; clear N2; obtain ⟨b2_0, b2_1, b2_2⟩ := gcells b2) | (refine r_store_row 56 56 _ _ _ rfl (gv 0 0 []) _ rfl b2 (Tryz.gsize' _ _ _) (by simp only [gv_size]) (gv_one _ _ _) rfl ?_; intro w3 u3 b2'; have z3 := u3.size; have gg := u3.gr gg (by omega); clear b2; have b2 := b2'; clear b2'; obtain ⟨b2_0, b2_1, b2_2⟩ := gcells b2))
    go_ret2
    exact ⟨fin_bb HV.out.symm rfl, gg⟩
  | true =>
    obtain ⟨hk, hu⟩ : rdOk s.data.toList = true ∧ wordB u = true := by unfold mcOk at hok; rwa [Bool.and_eq_true] at hok
    rcases rd_cases s.data.toList with ⟨-, -, hk'⟩ | ⟨g, hp, hg, -⟩
    · rw [hk] at hk'; cases hk'
    · obtain ⟨hc, -, -, -⟩ := cel_of hp
      have HV := hidI (show cbB s.data.toList u = backB g (wds u) from by unfold cbB; rw [hok, hg]; rfl)
      have HRD := hidI (fun (w : World) (hm : ML w) => readDoing_yes s u g w hm hs hg hk hu)
      have HCB := hidI (fun (w : World) (B : Nat) (hb : Blk w B #[.string u] 9) => comesBack_any g u B w hc hu hb)
      have h36 : gvG g = gv g.w g.h g.c := rfl
      rw [h36] at HCB
      clear hk hu hp hg hc hok
      go_enter Tryz.func14, Tryz.ntmps14
      go_wp2_with (first | (go_at_call 42; refine (HRD.out _ hm).mono ?_; rintro e w1 ⟨g1, B, rfl, bu⟩; have z1 := g1.size; have tu := bu.lt; have gg := gg.trans g1) | (refine r_alloc 56 _ Tryz.gzero rfl ?_; intro w2 B2 N2; have g2 := N2.gr; have b2 : Blk w2 B2 (gv 0 0 []) 56 := N2.blk; have l2 := N2.lo; have t2 := N2.hi; have z2 := g2.size; have bu := g2.blk bu; have gg := gg.trans g2; clear N2; obtain ⟨b2_0, b2_1, b2_2⟩ := gcells b2) | (refine r_store_row 56 56 _ _ _ rfl (gv g.w g.h g.c) _ rfl b2 (Tryz.gsize' _ _ _) (by simp only [gv_size]) (gv_one _ _ _) rfl ?_; intro w3 u3 b2'; have z3 := u3.size; have gg := u3.gr gg (by omega); have bu := u3.blk bu (by omega); clear b2; have b2 := b2'; clear b2'; obtain ⟨b2_0, b2_1, b2_2⟩ := gcells b2) | (refine r_load_row 56 _ _ rfl _ _ _ b2 Tryz.underlying56 rfl (Tryz.ginfo' _ _ _) rfl ?_) | (go_at_call 43; refine (HCB.out _ _ bu).mono ?_; rintro e w4 ⟨rfl, g4⟩; have z4 := g4.size; have gg := gg.trans g4))
      go_ret2
      exact ⟨fin_bb HV.out.symm rfl, gg⟩
end Go.Proofs.YtbppbbkcampglaaGreatDoor
