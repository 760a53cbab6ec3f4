/-
  Words as closures in the program: what they do to a tray, and whether they come back.
-/
import Derived.Test.YtcjmikafomlbiaaGreatDoorMachP
import Derived.Test.YtcjmikafomlbiaaGreatDoorCallC
import Derived.Test.YtcjmikafomlbiaaGreatDoorOps
import Derived.Test.YtcjmikafomlbiaaGreatDoorTiltY
namespace Go.Proofs.YtcjmikafomlbiaaGreatDoor
open Go.RowKit
def mcOk (l : List UInt8) (u : ByteArray) : Bool := rdOk l && wordB u
/-- Behind the word balls stand in the same cells. -/
def backB (g : Grid) (ds : List Nat) : Bool := decide (bpos g.c (nn g.w g.h) = bpos (runG ds g).c (nn g.w g.h))
def cbB (l : List UInt8) (u : ByteArray) : Bool := if mcOk l u then backB (rdG l) (wds u) else false
theorem zz_inj {s t : List Nat} (h : zz s = zz t) : s = t := by
  unfold zz at h
  exact (List.map_inj_right (fun a b e => Int.ofNat_inj.1 e)).1 h
theorem back_zz {g : Grid} (ds : List Nat) : decide (ballsTo ballB g.c (nn g.w g.h) = ballsTo ballB (runG ds g).c (nn g.w g.h)) = backB g ds := by
  unfold backB
  rw [decide_eq_decide, ballsTo_bpos, ballsTo_bpos]
  exact ⟨zz_inj, fun e => by rw [e]⟩
def doV (B : Nat) : Value := .func (.func 41) #[] #[.pointer (some ⟨B, 0, none⟩)]
set_option maxHeartbeats 1000000 in
set_option maxRecDepth 100000 in
theorem doingOf_any (u : ByteArray) (w : World) : Calls Tryz.prog 21 #[.string u] w fun e w' => Gr w w' ∧ ∃ B, e = .returned (doV B) ∧ Blk w' B #[.string u] 9 := by
  have gg := Gr.refl w
  go_enter Tryz.func21, Tryz.ntmps21
  go_wp2_with (refine r_box1 9 _ (.string u) rfl (fun _ => rfl) rfl ?_; intro w1 B1 N1; have g1 := N1.gr; have b1 : Blk w1 B1 #[.string u] 9 := N1.blk; have gg := gg.trans g1; clear N1)
  go_ret
  exact ⟨gg, B1, rfl, b1⟩
set_option maxHeartbeats 1000000 in
set_option maxRecDepth 100000 in
theorem doing1_any (g : Grid) (u : ByteArray) (B : Nat) (w : World) (hg : Wal g) (hu : wordB u = true) (hb : Blk w B #[.string u] 9) :
    Calls Tryz.prog 41 #[.agg (gvG g), .pointer (some ⟨B, 0, none⟩)] w (Ret (.agg (gvG (runB (wds u) g))) w) := by
  have gg := Gr.refl w
  have hu40 := (wordB_iff.1 hu).1
  have HW := hidI hu
  have HRV := hidI (fun (w : World) (wv : Value) (h : WordAt w wv (wds u)) => tiltedB_any g (wds u) wv w hg (wds_lt hu) h (by rw [wds_length]; omega))
  obtain ⟨q, hq⟩ : ∃ q, q = runB (wds u) g := ⟨_, rfl⟩
  rw [← hq] at HRV ⊢
  clear hg hu hq
  have h36 : gvG g = gv g.w g.h g.c := rfl
  have h37 : gvG q = gv q.w q.h q.c := rfl
  rw [h36]
  rw [h36] at HRV
  go_enter Tryz.func41, Tryz.ntmps41
  go_wp2_with (first | (refine r_box 42 _ (gv g.w g.h g.c) rfl rfl ?_; intro w1 B1 N1; have g1 := N1.gr; have b1 : Blk w1 B1 (gv g.w g.h g.c) 42 := N1.blk; have l1 := N1.lo; have t1 := N1.hi; have z1 := g1.size; have hb := g1.blk hb; have gg := gg.trans g1; clear N1; obtain ⟨b1_0, b1_1, b1_2⟩ := gcells b1) | (refine r_alloc (dst := some 3) 42 _ Tryz.gzero rfl ?_; intro w2 B2 N2; have g2 := N2.gr; have b2 : Blk w2 B2 (gv 0 0 []) 42 := N2.blk; have l2 := N2.lo; have t2 := N2.hi; have z2 := g2.size; have b1 := g2.blk b1; obtain ⟨b1_0, b1_1, b1_2⟩ := gcells b1; have hb := g2.blk hb; have gg := gg.trans g2; clear N2; obtain ⟨b2_0, b2_1, b2_2⟩ := gcells b2) | (refine r_load_row 42 _ _ rfl _ _ _ b1 Tryz.underlying42 rfl (Tryz.ginfo' _ _ _) rfl ?_) | (refine r_ldc 9 (.tmp 1) ⟨B, 0, none⟩ (.string u) rfl (Tryz.isAgg9 _) (box_cell hb) rfl ?_) | (refine r_bytes 9 34 5 _ u rfl Tryz.underlying9 Tryz.underlying34 Tryz.underlying5 rfl ?_; intro wa Ba capa ga la ba hcapa; have gg := gg.trans ga; have b2 := ga.blk b2) | (go_at_call 42; refine (HRV.out _ _ (word_of_bb ba HW.out)).mono ?_; rintro e w5 ⟨rfl, g5⟩; rw [h37]; have z5 := g5.size; have b2 := g5.blk b2; obtain ⟨b2_0, b2_1, b2_2⟩ := gcells b2; have gg := gg.trans g5) | (refine r_store_row 42 42 _ _ _ rfl (gv q.w q.h q.c) _ rfl b2 (Tryz.gsize' _ _ _) (by simp only [gv_size]) (gv_one _ _ _) rfl ?_; intro w6 u6 b2'; have z6 := u6.size; have gg := u6.gr gg (by omega); clear b2; have b2 := b2'; clear b2'; obtain ⟨b2_0, b2_1, b2_2⟩ := gcells b2))
  refine bodyPost_ret (results_row rfl _ _ _ _ _ _ rfl b2 Tryz.underlying42 rfl (Tryz.ginfo' _ _ _)) rfl ⟨?_, gg⟩
  rfl
end Go.Proofs.YtcjmikafomlbiaaGreatDoor
