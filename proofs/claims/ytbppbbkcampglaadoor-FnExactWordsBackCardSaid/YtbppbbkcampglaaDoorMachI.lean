/-
  Words as closures in the program: what they do to a tray, and whether they come back.
-/
import Derived.Test.YtbppbbkcampglaaDoorMachP
import Derived.Test.YtbppbbkcampglaaDoorCallC
import Derived.Test.YtbppbbkcampglaaDoorOps
import Derived.Test.YtbppbbkcampglaaDoorTiltY
namespace Go.Proofs.YtbppbbkcampglaaDoor
open Go.RowKit
def mcOk (l : List UInt8) (u : ByteArray) : Bool := rdOk l && wordB u
/-- Behind the word balls stand in the same cells. -/
def backB (g : Grid) (ds : List Nat) : Bool := decide (bpos g.c (nn g.w g.h) = bpos (runG ds g).c (nn g.w g.h))
def cbB (l : List UInt8) (u : ByteArray) : Bool := if mcOk l u then backB (rdG l) (wds u) else false
theorem zz_inj {s t : List Nat} (h : zz s = zz t) : s = t := by
  unfold zz at h
  exact (List.map_inj_right (fun a b e => Int.ofNat_inj.1 e)).1 h
theorem back_zz {g : Grid} (ds : List Nat) : decide (ballsTo ballB g.c (nn g.w g.h) = ballsTo ballB (runG ds g).c (nn g.w g.h)) = backB g ds := by
  unfold backB
  rw [decide_eq_decide, ballsTo_bpos, ballsTo_bpos]
  exact ⟨zz_inj, fun e => by rw [e]⟩
theorem equal_any (v1 v2 : Value) (L M : List Int) (b1 b2 : Nat) (w : World) (h1 : w.ownsRow b1 3 1 v1 L.length (intsV L)) (h2 : w.ownsRow b2 3 1 v2 M.length (intsV M)) (hl : L.length ≤ 1048576) (hm : M.length ≤ 1048576) :
    Calls Tryd.prog 52 #[v1, v2] w (Ret (.bool (decide (L = M))) w) := by
  obtain ⟨p1, m1, k1, rfl⟩ := own_slice h1
  obtain ⟨p2, m2, k2, rfl⟩ := own_slice h2
  obtain rfl : m1 = L.length := own_len h1
  obtain rfl : m2 = M.length := own_len h2
  by_cases hne : L.length = M.length
  · rcases Nat.eq_zero_or_pos L.length with h0 | h0
    · have e1 : L = [] := List.eq_nil_of_length_eq_zero h0
      have e2 : M = [] := List.eq_nil_of_length_eq_zero (by omega)
      subst e1 e2
      exact (Tryd.slices_Equal_int_empty p1 p2 k1 0 k2 w (by omega)).mono fun e w' ⟨a, b⟩ => ⟨by rw [a]; rfl, by rw [b]; exact Gr.refl w⟩
    · obtain ⟨g1, c1, e1, -, -⟩ := own_shape h1 h0
      obtain ⟨g2, c2, e2, -, -⟩ := own_shape h2 (by omega)
      cases e1
      cases e2
      refine (Tryd.slices_Equal_int g1 0 L.length k1 g2 0 M.length k2 L M w (Nat.le_refl _) (Nat.le_refl _) (by omega) (by omega) (fun j hj => by rw [Nat.zero_add]; exact own_int h1 j hj rfl) (fun j hj => by rw [Nat.zero_add]; exact own_int h2 j hj rfl)).mono fun e w' ⟨a, q, b⟩ => ⟨?_, by rw [b]; exact (Gr.refl w).drewN q⟩
      rw [a, List.take_length, List.take_length]
      congr 2
      rw [Bool.eq_iff_iff, beq_iff_eq, decide_eq_true_eq]
  · exact (Tryd.slices_Equal_int_lens p1 p2 L.length k1 M.length k2 w hne).mono fun e w' ⟨a, b⟩ => ⟨by rw [a, decide_eq_false (fun e => hne (by rw [e]))], by rw [b]; exact Gr.refl w⟩
def doV (B : Nat) : Value := .func (.func 54) #[] #[.pointer (some ⟨B, 0, none⟩)]
set_option maxHeartbeats 1000000 in
set_option maxRecDepth 100000 in
theorem doingOf_any (u : ByteArray) (w : World) : Calls Tryd.prog 28 #[.string u] w fun e w' => Gr w w' ∧ ∃ B, e = .returned (doV B) ∧ Blk w' B #[.string u] 9 := by
  have gg := Gr.refl w
  go_enter Tryd.func28, Tryd.ntmps28
  go_wp2_with (refine r_box1 9 _ (.string u) rfl (fun _ => rfl) rfl ?_; intro w1 B1 N1; have g1 := N1.gr; have b1 : Blk w1 B1 #[.string u] 9 := N1.blk; have gg := gg.trans g1; clear N1)
  go_ret
  exact ⟨gg, B1, rfl, b1⟩
set_option maxHeartbeats 1000000 in
set_option maxRecDepth 100000 in
theorem doing1_any (g : Grid) (u : ByteArray) (B : Nat) (w : World) (hg : Wal g) (hu : wordB u = true) (hb : Blk w B #[.string u] 9) :
    Calls Tryd.prog 54 #[.agg (gvG g), .pointer (some ⟨B, 0, none⟩)] w (Ret (.agg (gvG (runB (wds u) g))) w) := by
  have gg := Gr.refl w
  have hu40 := (wordB_iff.1 hu).1
  have HW := hidI hu
  have HRV := hidI (fun (w : World) (wv : Value) (h : WordAt w wv (wds u)) => tiltedB_any g (wds u) wv w hg (wds_lt hu) h (by rw [wds_length]; omega))
  obtain ⟨q, hq⟩ : ∃ q, q = runB (wds u) g := ⟨_, rfl⟩
  rw [← hq] at HRV ⊢
  clear hg hu hq
  have h36 : gvG g = gv g.w g.h g.c := rfl
  have h37 : gvG q = gv q.w q.h q.c := rfl
  rw [h36]
  rw [h36] at HRV
  go_enter Tryd.func54, Tryd.ntmps54
  go_wp2_with (first | (refine r_box 47 _ (gv g.w g.h g.c) rfl rfl ?_; intro w1 B1 N1; have g1 := N1.gr; have b1 : Blk w1 B1 (gv g.w g.h g.c) 47 := N1.blk; have l1 := N1.lo; have t1 := N1.hi; have z1 := g1.size; have hb := g1.blk hb; have gg := gg.trans g1; clear N1; obtain ⟨b1_0, b1_1, b1_2⟩ := gcells b1) | (refine r_alloc (dst := some 3) 47 _ Tryd.gzero rfl ?_; intro w2 B2 N2; have g2 := N2.gr; have b2 : Blk w2 B2 (gv 0 0 []) 47 := N2.blk; have l2 := N2.lo; have t2 := N2.hi; have z2 := g2.size; have b1 := g2.blk b1; obtain ⟨b1_0, b1_1, b1_2⟩ := gcells b1; have hb := g2.blk hb; have gg := gg.trans g2; clear N2; obtain ⟨b2_0, b2_1, b2_2⟩ := gcells b2) | (refine r_load_row 47 _ _ rfl _ _ _ b1 Tryd.underlying47 rfl (Tryd.ginfo' _ _ _) rfl ?_) | (refine r_ldc 9 (.tmp 1) ⟨B, 0, none⟩ (.string u) rfl (Tryd.isAgg9 _) (box_cell hb) rfl ?_) | (refine r_bytes 9 38 5 _ u rfl Tryd.underlying9 Tryd.underlying38 Tryd.underlying5 rfl ?_; intro wa Ba capa ga la ba hcapa; have gg := gg.trans ga; have b2 := ga.blk b2) | (go_at_call 36; refine (HRV.out _ _ (word_of_bb ba HW.out)).mono ?_; rintro e w5 ⟨rfl, g5⟩; rw [h37]; have z5 := g5.size; have b2 := g5.blk b2; obtain ⟨b2_0, b2_1, b2_2⟩ := gcells b2; have gg := gg.trans g5) | (refine r_store_row 47 47 _ _ _ rfl (gv q.w q.h q.c) _ rfl b2 (Tryd.gsize' _ _ _) (by simp only [gv_size]) (gv_one _ _ _) rfl ?_; intro w6 u6 b2'; have z6 := u6.size; have gg := u6.gr gg (by omega); clear b2; have b2 := b2'; clear b2'; obtain ⟨b2_0, b2_1, b2_2⟩ := gcells b2))
  refine bodyPost_ret (results_row rfl _ _ _ _ _ _ rfl b2 Tryd.underlying47 rfl (Tryd.ginfo' _ _ _)) rfl ⟨?_, gg⟩
  rfl
set_option maxHeartbeats 2000000 in
set_option maxRecDepth 100000 in
theorem comesBack_any (g : Grid) (u : ByteArray) (B : Nat) (w : World) (hg : Cel g) (hu : wordB u = true) (hb : Blk w B #[.string u] 9) :
    Calls Tryd.prog 27 #[.agg (gvG g), doV B] w (Ret (.bool (backB g (wds u))) w) := by
  have gg := Gr.refl w
  have w7 := hg.w7
  have h7 := hg.h7
  have n36 := hg.n36
  have HDO := hidI (fun (w : World) (hb : Blk w B #[.string u] 9) => (runB_eq hg (wds u) (wds_lt hu)) ▸ doing1_any g u B w hg.wal hu hb)
  obtain ⟨e1, e2⟩ := runG_w (wds u) g
  have HBK := hidI (back_zz (g := g) (wds u))
  obtain ⟨q, hq⟩ : ∃ q, q = runG (wds u) g := ⟨_, rfl⟩
  rw [← hq] at HDO HBK e1 e2
  have HQ := hidI (show gvG q = gv g.w g.h q.c from by unfold gvG; rw [e1, e2])
  have hl1 := ballsTo_le ballB g.c (nn g.w g.h)
  have hl2 := ballsTo_le ballB q.c (nn g.w g.h)
  have h36 : gvG g = gv g.w g.h g.c := rfl
  rw [HQ.out, h36] at HDO
  rw [h36]
  clear hg hu hq e1 e2
  go_enter Tryd.func27, Tryd.ntmps27
  go_wp2_with (refine r_box 47 _ (gv g.w g.h g.c) rfl rfl ?_; intro w1 B1 N1; have g1 := N1.gr; have b1 : Blk w1 B1 (gv g.w g.h g.c) 47 := N1.blk; have l1 := N1.lo; have t1 := N1.hi; have z1 := g1.size; have hb := g1.blk hb; have gg := gg.trans g1; clear N1; obtain ⟨b1_0, b1_1, b1_2⟩ := gcells b1)
  have gd := (Gr.refl w1).drew
  have b1 := gd.blk b1
  have hb := gd.blk hb
  have gg := gg.trans gd
  have zd := gd.size
  refine F_begin (fun w => Blk w B1 (gv g.w g.h g.c) 47) 7 8 #[false, false, false, false, false, false, false, false] rfl (by kernel_rfl) (by kernel_rfl) ?_
  generalize w1.drew = wd at *
  refine F_take (v := .agg (gv g.w g.h g.c)) 0 #[true, false, false, false, false, false, false, false] rfl (by kernel_rfl) (fun _ _ _ h => h) rfl (fun w hF => e_load_row 47 (.tmp 2) B1 _ _ _ rfl hF Tryd.underlying47 rfl (Tryd.ginfo' _ _ _)) (b1) ?_; simp only [Act.put, List.setIfInBounds_toArray, List.set_cons_succ, List.set_cons_zero]
  refine F_free (v := doV B) 2 #[true, false, true, false, false, false, false, false] rfl (by kernel_rfl) (fun _ _ _ h => h) rfl (fun _ => rfl) (b1) ?_; simp only [Act.put, List.setIfInBounds_toArray, List.set_cons_succ, List.set_cons_zero]
  refine F_take (v := .agg (gv g.w g.h g.c)) 3 #[true, false, true, true, false, false, false, false] rfl (by kernel_rfl) (fun _ _ _ h => h) rfl (fun w hF => e_load_row 47 (.tmp 2) B1 _ _ _ rfl hF Tryd.underlying47 rfl (Tryd.ginfo' _ _ _)) (b1) ?_; simp only [Act.put, List.setIfInBounds_toArray, List.set_cons_succ, List.set_cons_zero]
  refine F_one 1 #[true, true, true, true, false, false, false, false] rfl (by kernel_rfl) ?_
  refine r_callx 53 [.tmp 5] _ [.agg (gv g.w g.h g.c)] (fun v w' => Gr wd w' ∧ w'.ownsRow wd.heap.size 3 1 v (ballsTo ballB g.c (nn g.w g.h)).length (intsV (ballsTo ballB g.c (nn g.w g.h)))) Tryd.call53 rfl rfl ((ballsIn_any g.w g.h g.c wd w7 h7 n36).mono fun e w' ⟨a, v, b, c⟩ => ⟨v, b, a, c⟩) ?_
  rintro v3 w3 ⟨g3, own3⟩
  have b1 := g3.blk b1
  have hb := g3.blk hb
  have gg := gg.trans g3
  refine ⟨fun _ => b1, ?_⟩
  simp only [Act.put, List.setIfInBounds_toArray, List.set_cons_succ, List.set_cons_zero]
  refine F_one 4 #[true, true, true, true, true, false, false, false] rfl (by kernel_rfl) ?_
  refine r_callc 54 (.tmp 7) [.tmp 8] _ [.agg (gv g.w g.h g.c)] [.pointer (some ⟨B, 0, none⟩)] (.agg (gv g.w g.h q.c)) (fun w' => Gr w3 w') Tryd.call54 rfl rfl rfl (HDO.out w3 hb) ?_
  intro w4 g4
  have b1 := g4.blk b1
  have own3 := g4.row own3
  have gg := gg.trans g4
  refine ⟨fun _ => b1, ?_⟩
  simp only [Act.put, List.setIfInBounds_toArray, List.set_cons_succ, List.set_cons_zero]
  refine F_one 5 #[true, true, true, true, true, true, false, false] rfl (by kernel_rfl) ?_
  refine r_callx 53 [.tmp 9] _ [.agg (gv g.w g.h q.c)] (fun v w' => Gr w4 w' ∧ w'.ownsRow w4.heap.size 3 1 v (ballsTo ballB q.c (nn g.w g.h)).length (intsV (ballsTo ballB q.c (nn g.w g.h)))) Tryd.call53 rfl rfl ((ballsIn_any g.w g.h q.c w4 w7 h7 n36).mono fun e w' ⟨a, v, b, c⟩ => ⟨v, b, a, c⟩) ?_
  rintro v5 w5 ⟨g5, own5⟩
  have b1 := g5.blk b1
  have own3 := g5.row own3
  have gg := gg.trans g5
  refine ⟨fun _ => b1, ?_⟩
  simp only [Act.put, List.setIfInBounds_toArray, List.set_cons_succ, List.set_cons_zero]
  refine F_one 6 #[true, true, true, true, true, true, true, false] rfl (by kernel_rfl) ?_
  refine r_call 52 [.tmp 6, .tmp 10] _ [v3, v5] (.bool (backB g (wds u))) (fun w' => Gr w5 w') Tryd.call52 rfl rfl (HBK.out ▸ equal_any v3 v5 _ _ _ _ w5 own3 own5 (by omega) (by omega)) ?_
  intro w6 g6
  have b1 := g6.blk b1
  have gg := gg.trans g6
  refine ⟨fun _ => b1, ?_⟩
  simp only [Act.put, List.setIfInBounds_toArray, List.set_cons_succ, List.set_cons_zero]
  refine F_one 7 #[true, true, true, true, true, true, true, true] rfl (by kernel_rfl) ?_
  refine r_val (.bool (backB g (wds u))) rfl rfl ?_
  simp only [Act.put, List.setIfInBounds_toArray, List.set_cons_succ, List.set_cons_zero]
  refine ⟨fun h => (by cases h), ?_⟩
  refine F_done (by kernel_rfl) ?_
  go_wp2
  go_ret
  exact ⟨rfl, gg⟩
end Go.Proofs.YtbppbbkcampglaaDoor
