/-
  The shape of a piece: in the program.
-/
import Derived.Test.YtagoipongdnegaaDoorFormO
import Derived.Test.YtagoipongdnegaaDoorFnE
import Derived.Test.YtagoipongdnegaaDoorBMv
namespace Go.Proofs.YtagoipongdnegaaDoor
open Go.RowKit
/-- The box around a piece, with free cells beside it. -/
def shG (W H : Nat) (R : List Int) : Grid :=
  ⟨fdR W (posTo R (nn W H)) + 1 - fdL W (posTo R (nn W H)), fdB W (posTo R (nn W H)) + 1 - fdT W H (posTo R (nn W H)),
    bxC W R (fdL W (posTo R (nn W H))) (fdR W (posTo R (nn W H)) + 1 - fdL W (posTo R (nn W H))) (fdT W H (posTo R (nn W H))) (fdB W (posTo R (nn W H)) + 1 - fdT W H (posTo R (nn W H)))⟩
theorem sh_box {W H : Nat} {R : List Int} (hW : 1 ≤ W) (hne : posTo R (nn W H) ≠ []) :
    fdL W (posTo R (nn W H)) ≤ fdR W (posTo R (nn W H)) ∧ fdR W (posTo R (nn W H)) < W ∧ fdT W H (posTo R (nn W H)) ≤ fdB W (posTo R (nn W H)) ∧ fdB W (posTo R (nn W H)) < H ∧ cnt (paC R (nn W H)) 35 (nn W H) < nn W H ∧
      crL W (paC R (nn W H)) (nn W H) = fdL W (posTo R (nn W H)) ∧ crR W (paC R (nn W H)) (nn W H) = fdR W (posTo R (nn W H)) + 1 ∧ crT W H (paC R (nn W H)) (nn W H) = fdT W H (posTo R (nn W H)) ∧ crB W (paC R (nn W H)) (nn W H) = fdB W (posTo R (nn W H)) + 1 := by
  obtain ⟨a1, a2, a3⟩ := cr_fold (W := W) (H := H) (N := nn W H) R (nn W H) (Nat.le_refl _)
  rcases a3 with ⟨h, _, _⟩ | ⟨_, b1, b2⟩
  · exact absurd h hne
  · rcases cr_facts (W := W) (H := H) (c := paC R (nn W H)) hW (nn W H) (Nat.le_refl _) with ⟨_, d, _⟩ | ⟨d1, d2, d3, d4, d5⟩
    · omega
    · rw [a1, b1] at d2
      rw [b1] at d3
      rw [a2, b2] at d4
      rw [b2] at d5
      exact ⟨by omega, by omega, by omega, by omega, d1, a1, b1, a2, b2⟩
theorem bxC_at {W l v t m q : Nat} {R : List Int} (h : q < nn v m) : at0 (bxC W R l v t m) q = 46 ∨ at0 (bxC W R l v t m) q = 111 := by
  unfold bxC
  rw [genC_at, if_pos h]
  split
  · exact .inr rfl
  · exact .inl rfl
theorem sh_tray {W H : Nat} {R : List Int} (hW : 1 ≤ W) (hW7 : W ≤ 7) (hH7 : H ≤ 7) (h36 : nn W H ≤ 36) (hne : posTo R (nn W H) ≠ []) : Tray (shG W H R) := by
  obtain ⟨b1, b2, b3, b4, -⟩ := sh_box hW hne
  have hl : (shG W H R).c.length = nn (shG W H R).w (shG W H R).h := genC_length _ _
  refine ⟨?_, ?_, ?_, ?_, ?_, hl, fun i hi => ?_⟩
  · show 1 ≤ fdR W _ + 1 - fdL W _; omega
  · show 1 ≤ fdB W _ + 1 - fdT W H _; omega
  · show fdR W _ + 1 - fdL W _ ≤ 7; omega
  · show fdB W _ + 1 - fdT W H _ ≤ 7; omega
  · have : nn (fdR W (posTo R (nn W H)) + 1 - fdL W (posTo R (nn W H))) (fdB W (posTo R (nn W H)) + 1 - fdT W H (posTo R (nn W H))) ≤ nn W H := Nat.mul_le_mul (by omega) (by omega)
    exact Nat.le_trans this h36
  · rw [hl] at hi
    rcases bxC_at (R := R) hi with h | h
    · rw [show at0 (shG W H R).c i = 46 from h]; decide
    · rw [show at0 (shG W H R).c i = 111 from h]; decide
theorem sh_parse {W H : Nat} {R : List Int} (hW : 1 ≤ W) (hW7 : W ≤ 7) (hH7 : H ≤ 7) (h36 : nn W H ≤ 36) (hne : posTo R (nn W H) ≠ []) : parse (txtG (shG W H R)).data.toList = some (shG W H R) := by
  have t := sh_tray hW hW7 hH7 h36 hne
  have h := rd_plain (c := (shG W H R).c) t.w1 t.w7 t.h1 t.h7 t.n36 t.len (fun i hi => by
    rw [t.len] at hi
    exact .inr (bxC_at hi))
  exact h
theorem sh_crop {W H : Nat} {R : List Int} (hW : 1 ≤ W) (hW7 : W ≤ 7) (hH1 : 1 ≤ H) (hH7 : H ≤ 7) (h36 : nn W H ≤ 36) (hne : posTo R (nn W H) ≠ []) :
    coOk (txtL W (paC R (nn W H)) H) = true ∧ (⟨((coS (txtL W (paC R (nn W H)) H)).data.toList.map rpB).toArray⟩ : ByteArray) = txtG (shG W H R) ∧ (coS (txtL W (paC R (nn W H)) H)).size ≤ 1048576 := by
  obtain ⟨b1, b2, b3, b4, b5, b6, b7, b8, b9⟩ := sh_box hW hne
  have hlen : (paC R (nn W H)).length = nn W H := genC_length _ _
  obtain ⟨hg, hk⟩ := rd_parse_some (rd_plain hW hW7 hH1 hH7 h36 hlen (fun i hi => by
    rw [hlen] at hi
    rw [paC_at hi]
    split
    · exact .inr (.inr rfl)
    · exact .inl rfl))
  have ho : coOk (txtL W (paC R (nn W H)) H) = true := by
    unfold coOk
    rw [hk, hg, Bool.true_and]
    exact decide_eq_true b5
  have hs : coS (txtL W (paC R (nn W H)) H) = txtB (fdR W (posTo R (nn W H)) + 1 - fdL W (posTo R (nn W H))) (fdB W (posTo R (nn W H)) + 1 - fdT W H (posTo R (nn W H))) (crC W (paC R (nn W H)) (fdL W (posTo R (nn W H))) (fdR W (posTo R (nn W H)) + 1 - fdL W (posTo R (nn W H))) (fdT W H (posTo R (nn W H))) (fdB W (posTo R (nn W H)) + 1 - fdT W H (posTo R (nn W H)))) := by
    unfold coS
    rw [ho, if_pos rfl, hg]
    unfold coG
    dsimp only
    rw [b6, b7, b8, b9]
  have hN : ∀ y x, y < fdB W (posTo R (nn W H)) + 1 - fdT W H (posTo R (nn W H)) → x < fdR W (posTo R (nn W H)) + 1 - fdL W (posTo R (nn W H)) → nn W (fdT W H (posTo R (nn W H)) + y) + (fdL W (posTo R (nn W H)) + x) < nn W H := fun y x hy hx => by
    have := nn_row (W := W) (y := fdT W H (posTo R (nn W H)) + y) (H := H) (by omega)
    omega
  refine ⟨ho, ?_, ?_⟩
  · rw [hs]
    show (⟨((txtL _ _ _).map rpB).toArray⟩ : ByteArray) = _
    rw [txt_rep, bx_crop hN]
    rfl
  · rw [hs]
    exact Nat.le_trans (txtB_le _ _ _ (by omega) (by omega)) (by decide)
theorem posTo_nat {R : List Int} {n : Nat} {x : Int} (h : x ∈ posTo R n) : ∃ i : Nat, x = i := by
  induction n with
  | zero => cases h
  | succ n ih =>
    unfold posTo at h
    split at h
    · rcases List.mem_append.1 h with h | h
      · exact ih h
      · exact ⟨n, by simpa using h⟩
    · exact ih h
/-- ShapeOf. -/
def shR (l : List UInt8) (x : Int) : List Int := farL (rdG l).w (rdG l).h (alC (rdG l).c) x.toNat
def shS (l : List UInt8) (x : Int) : ByteArray := if pceOk l x then leastTo (shG (rdG l).w (rdG l).h (shR l x)) 8 else ⟨#[]⟩
theorem replAll_any (s : ByteArray) (w : World) (hs : s.size ≤ 1048576) (hm : ML w) : Calls Tryd.prog 141 #[.string s, .string ⟨#[35]⟩, .string ⟨#[46]⟩] w (Ret (.string ⟨(s.data.toList.map rpB).toArray⟩) w) := by
  obtain ⟨m, hm⟩ := hm
  have hc : Lib.countB s ⟨#[35]⟩ ≤ 1048577 := by
    have h := Lib.count_le s.data.toList [35]
    have e : s.data.toList.length = s.size := Array.length_toList
    show Lib.count s.data.toList [35] ≤ _
    omega
  refine (Tryd.strings_ReplaceAll s ⟨#[35]⟩ ⟨#[46]⟩ m w (by omega) hm (by decide) (by show s.size + Lib.countB s ⟨#[35]⟩ * 1 ≤ _; omega)).mono ?_
  rintro e w' ⟨rfl, h⟩
  refine ⟨?_, h⟩
  show Ending.returned (.string ⟨(Lib.replaceAll s.data.toList [35] [46]).toArray⟩) = _
  rw [rep_all]
set_option maxHeartbeats 2000000 in
set_option maxRecDepth 100000 in
theorem fill_any (B : Nat) (W H : Int) (c : List UInt8) (L : List Int) (v : Value) (base : Nat) (w : World) (hb : Blk w B (gv W H c) 62) (h36 : c.length ≤ 36) (hL : ∀ x ∈ L, ∃ i : Nat, x = i ∧ i < c.length) (hll : L.length ≤ 36)
    (own : w.ownsRow base 3 1 v L.length (intsV L)) :
    Calls Tryd.prog 139 #[.pointer (some ⟨B, 0, none⟩), v, .int .u8 111] w fun e w' => e = .returned (.tuple #[]) ∧ Blk w' B (gv W H (filL L c)) 62 ∧ Upd B w w' := by
  have uu := Upd.refl B w
  obtain ⟨n, hn⟩ : ∃ n, n = L.length := ⟨_, rfl⟩
  have HNL := hidI hn
  rw [← hn] at own hll
  obtain ⟨p, n', k', rfl⟩ := own_slice own
  obtain rfl : n' = n := own_len own
  have hne := own_ne own hb (by decide)
  have HL := hidI hL
  clear hn hL
  go_enter Tryd.func139, Tryd.ntmps139
  go_wp2
  go_loopw [10] (fun iv wr => ∃ k : Nat, k ≤ n' ∧ iv = .int .i64 k ∧ Blk wr B (gv W H (filL (L.take k) c)) 62 ∧ Upd B w wr) (fun iv _ => n' - (intOf iv).toNat)
  case atStart => exact ⟨0, Nat.zero_le _, rfl, hb, uu⟩
  case round =>
    clear uu
    obtain ⟨k, hk, rfl, b1, uu⟩ := hrel
    have own1 := uu.row own hne
    by_cases hlt : k < n'
    · obtain ⟨G, cp, e, -, -⟩ := own_shape own1 (by omega)
      cases e
      have cx := own_int own1 k hlt HNL.out
      have hgm : gi L k ∈ L := by
        have h1 : k < L.length := by rw [← HNL.out]; exact hlt
        have e : gi L k = L[k] := by unfold gi; simp [List.getD, h1]
        rw [e]; exact List.getElem_mem h1
      obtain ⟨i, hi, hic⟩ := HL.out _ hgm
      rw [hi] at cx
      have HS := hidI (show filL (L.take (k + 1)) c = (filL (L.take k) c).set i 111 from by
        have h1 : k < L.length := by rw [← HNL.out]; exact hlt
        have e : gi L k = L[k] := by unfold gi; simp [List.getD, h1]
        rw [List.take_succ_eq_append_getElem h1, ← e, hi]
        unfold filL
        rw [fd_snoc, Int.toNat_natCast])
      have hfl : (filL (L.take k) c).length = c.length := filL_length _ _
      have hix := fun w => Tryd.gix B i (by omega) w
      have HSET := hidI (gv_set W H (filL (L.take k) c) i 111 (by omega) (by rw [hfl]; exact hic))
      clear hgm hi hfl
      go_wp2_with (first | (refine r_idx 27 _ _ (.slice (some ⟨G, 0, none⟩) n' k') (.int .i64 k) _ rfl rfl (Tryd.wix0 G n' k' k hlt _) rfl ?_) | (refine r_ldc 3 _ ⟨G, k, none⟩ (.int .i64 i) rfl (Tryd.isAgg3 _) cx rfl ?_) | (refine r_store_cell 5 62 _ _ B (2 + i) rfl (byteV 111) rfl _ b1 (by rw [gv_size]; omega) Tryd.sizeOf5 rfl rfl ?_; intro w10 u10 b10; rw [HSET.out] at b10; have uu := uu.trans u10))
      go_roundw
      case rel => exact ⟨k + 1, by omega, by go_num, by rw [HS.out]; exact b10, uu⟩
      case measure => simp [intOf]; omega
    · have hkn : k = L.length := by rw [← HNL.out]; omega
      rw [hkn, List.take_length] at b1
      have hkn2 : k = n' := by omega
      clear hlt hkn
      go_wp2
      go_end0
      exact ⟨rfl, b1, uu⟩
set_option maxHeartbeats 2000000 in
set_option maxRecDepth 100000 in
theorem boxOf_any (W H : Nat) (c : List UInt8) (R : List Int) (v : Value) (base : Nat) (w : World) (hm : ML w) (hW : 1 ≤ W) (hW7 : W ≤ 7) (hH1 : 1 ≤ H) (hH7 : H ≤ 7) (h36 : nn W H ≤ 36) (hne : posTo R (nn W H) ≠ [])
    (own : w.ownsRow base 3 1 v (posTo R (nn W H)).length (intsV (posTo R (nn W H)))) : Calls Tryd.prog 113 #[.agg (gv W H c), v] w (Ret (.string (txtG (shG W H R))) w) := by
  have gg := Gr.refl w
  obtain ⟨s1, s2, s3⟩ := sh_crop hW hW7 hH1 hH7 h36 hne
  obtain ⟨N, hN⟩ : ∃ N, N = nn W H := ⟨_, rfl⟩
  have HFG := hidI (fun w => show Calls Tryd.prog 138 #[.int .i64 W, .int .i64 H, .int .u8 35] w (Ret (.agg (gv W H (genC (nn W H) fun _ => 35))) w) from filledGrid_any W H 35 w hW7 hH7 h36)
  have hgl : (genC (nn W H) fun _ => (35 : UInt8)).length = nn W H := genC_length _ _
  have HFI := hidI (fun (B : Nat) (w : World) hb ho => fill_any B W H (genC (nn W H) fun _ => 35) (posTo R (nn W H)) v base w hb (by rw [hgl]; exact h36) (fun x hx => by
    obtain ⟨i, rfl⟩ := posTo_nat hx
    exact ⟨i, rfl, by rw [hgl]; exact ((mem_posTo R (nn W H) i).1 hx).1⟩) (by have := posTo_le R (nn W H); omega) ho)
  rw [fil_all] at HFI
  have HTT := hidI (fun w => trayText_any W H (paC R (nn W H)) w (.inl hW) hW7 hH7 h36)
  have HCT := hidI (fun w (hm : ML w) => show Calls Tryd.prog 140 #[.string (txtB W H (paC R (nn W H)))] w (Ret (.tuple #[.string (coS (txtL W (paC R (nn W H)) H)), .bool true]) w) from by
    have h := iCropTray (txtB W H (paC R (nn W H))) w hm (Nat.le_trans (txtB_le _ _ _ hW7 hH7) (by decide))
    rw [show (txtB W H (paC R (nn W H))).data.toList = txtL W (paC R (nn W H)) H from rfl, s1] at h
    exact h)
  obtain ⟨k, hk⟩ : ∃ k, k = coS (txtL W (paC R (nn W H)) H) := ⟨_, rfl⟩
  rw [← hk] at s2 s3 HCT
  have HRA := hidI (fun w hm => replAll_any k w s3 hm)
  rw [s2] at HRA
  obtain ⟨u, hu⟩ : ∃ u, u = txtB W H (paC R (nn W H)) := ⟨_, rfl⟩
  rw [← hu] at HTT HCT
  obtain ⟨d, hd⟩ : ∃ d, d = paC R (nn W H) := ⟨_, rfl⟩
  rw [← hd] at HTT HFI
  obtain ⟨d0, hd0⟩ : ∃ d, d = genC (nn W H) fun _ => (35 : UInt8) := ⟨_, rfl⟩
  rw [← hd0] at HFG HFI
  obtain ⟨t, ht⟩ : ∃ t, t = txtG (shG W H R) := ⟨_, rfl⟩
  rw [← ht] at HRA ⊢
  clear s1 s2 hk hu hd hd0 ht hgl hN
  go_enter Tryd.func113, Tryd.ntmps113
  go_wp2_with (first | (refine r_box 62 _ (gv W H c) rfl rfl ?_; intro w1 B1 N1; have g1 := N1.gr; have b1 : Blk w1 B1 (gv W H c) 62 := N1.blk; have l1 := N1.lo; have t1 := N1.hi; have z1 := g1.size; have gg := gg.trans g1; clear N1; obtain ⟨b1_0, b1_1, b1_2⟩ := gcells b1) | (go_at_call 138; refine (HFG.out _).mono ?_; rintro e w2 ⟨rfl, g2⟩; have z2 := g2.size; have b1 := g2.blk b1; obtain ⟨b1_0, b1_1, b1_2⟩ := gcells b1; have gg := gg.trans g2) | (refine r_alloc 62 _ Tryd.gzero rfl ?_; intro w3 B3 N3; have g3 := N3.gr; have b3 : Blk w3 B3 (gv 0 0 []) 62 := N3.blk; have l3 := N3.lo; have t3 := N3.hi; have z3 := g3.size; have b1 := g3.blk b1; obtain ⟨b1_0, b1_1, b1_2⟩ := gcells b1; have gg := gg.trans g3; clear N3; obtain ⟨b3_0, b3_1, b3_2⟩ := gcells b3) | (refine r_store_row 62 62 _ _ _ rfl (gv W H d0) _ rfl b3 (Tryd.gsize' _ _ _) (by simp only [gv_size]) (gv_one _ _ _) rfl ?_; intro w4 u4 b3'; have z4 := u4.size; have gg := u4.gr gg (by omega); have b1 := u4.blk b1 (by omega); obtain ⟨b1_0, b1_1, b1_2⟩ := gcells b1; clear b3; have b3 := b3'; clear b3'; obtain ⟨b3_0, b3_1, b3_2⟩ := gcells b3) | (go_at_call 139; refine (HFI.out _ _ b3 (u4.row (g3.row (g2.row (g1.row own))) (own_new (g2.row (g1.row own)) l3))).mono ?_; rintro e w5 ⟨rfl, b3, u5⟩; have b1 := u5.blk b1 (by omega); have gg := u5.gr gg (by omega); have z5 := u5.size) | (refine r_load_row 62 _ _ rfl _ _ _ b3 Tryd.underlying62 rfl (Tryd.ginfo' _ _ _) rfl ?_) | (go_at_call 83; refine (HTT.out _).mono ?_; rintro e w6 ⟨rfl, g6⟩; have z6 := g6.size; have gg := gg.trans g6) | (go_at_call 140; refine (HCT.out _ (gg.ml hm)).mono ?_; rintro e w7 ⟨rfl, g7⟩; have z7 := g7.size; have gg := gg.trans g7) | (go_at_call 141; refine (HRA.out _ (gg.ml hm)).mono ?_; rintro e w8 ⟨rfl, g8⟩; have z8 := g8.size; have gg := gg.trans g8))
  go_ret
  exact ⟨rfl, gg⟩
set_option maxHeartbeats 2000000 in
set_option maxRecDepth 100000 in
theorem shapeOf_any (W H : Nat) (c : List UInt8) (R : List Int) (v : Value) (base : Nat) (w : World) (hm : ML w) (hW : 1 ≤ W) (hW7 : W ≤ 7) (hH1 : 1 ≤ H) (hH7 : H ≤ 7) (h36 : nn W H ≤ 36) (hne : posTo R (nn W H) ≠ [])
    (own : w.ownsRow base 3 1 v (posTo R (nn W H)).length (intsV (posTo R (nn W H)))) : Calls Tryd.prog 62 #[.agg (gv W H c), v] w (Ret (.string (leastTo (shG W H R) 8)) w) := by
  have gg := Gr.refl w
  have HBO := hidI (fun w hm own => boxOf_any W H c R v base w hm hW hW7 hH1 hH7 h36 hne own)
  obtain ⟨p1, p2⟩ := rd_parse_some (sh_parse hW hW7 hH7 h36 hne)
  have ht := sh_tray hW hW7 hH7 h36 hne
  have HLT := hidI (fun w (hm : ML w) => show Calls Tryd.prog 112 #[.string (txtG (shG W H R))] w (Ret (.tuple #[.string (leastTo (shG W H R) 8), .bool true]) w) from by
    have h := iLeastTray (txtG (shG W H R)) w hm (Nat.le_trans (txtB_le _ _ _ ht.w7 ht.h7) (by decide))
    unfold leB at h
    rw [p1, p2] at h
    exact h)
  obtain ⟨t, htt⟩ : ∃ t, t = txtG (shG W H R) := ⟨_, rfl⟩
  obtain ⟨r, hr⟩ : ∃ r, r = leastTo (shG W H R) 8 := ⟨_, rfl⟩
  rw [← htt] at HBO HLT
  rw [← hr] at HLT ⊢
  clear p1 p2 ht htt hr
  go_enter Tryd.func62, Tryd.ntmps62
  go_wp2_with (first | (refine r_box 62 _ (gv W H c) rfl rfl ?_; intro w1 B1 N1; have g1 := N1.gr; have b1 : Blk w1 B1 (gv W H c) 62 := N1.blk; have l1 := N1.lo; have t1 := N1.hi; have z1 := g1.size; have gg := gg.trans g1; clear N1; obtain ⟨b1_0, b1_1, b1_2⟩ := gcells b1) | (refine r_load_row 62 _ _ rfl _ _ _ b1 Tryd.underlying62 rfl (Tryd.ginfo' _ _ _) rfl ?_) | (go_at_call 113; refine (HBO.out _ (gg.ml hm) (g1.row own)).mono ?_; rintro e w2 ⟨rfl, g2⟩; have z2 := g2.size; have gg := gg.trans g2) | (go_at_call 112; refine (HLT.out _ (gg.ml hm)).mono ?_; rintro e w3 ⟨rfl, g3⟩; have z3 := g3.size; have gg := gg.trans g3))
  go_ret
  exact ⟨rfl, gg⟩
theorem pce_self {l : List UInt8} {x : Int} {g : Grid} {i : Nat} (hp : parse l = some g) (hg : rdG l = g) (hx : x = (i : Nat)) (h : pceOk l x = true) : posTo (shR l x) (nn g.w g.h) ≠ [] ∧ i < nn g.w g.h := by
  have ht := parse_tray hp
  unfold pceOk at h
  rw [hg, Bool.and_eq_true, Bool.and_eq_true] at h
  obtain ⟨⟨_, h2⟩, h3⟩ := h
  obtain ⟨h0, h1⟩ := inB_true.1 h2
  subst hx
  rw [Int.toNat_natCast] at h3
  have hi : i < nn g.w g.h := by omega
  refine ⟨fun e => ?_, hi⟩
  have hf := (far_in ht.len ht.cells hi h3 (j := i) hi).2 (in_self hi)
  have hm := (mem_posTo (shR l i) (nn g.w g.h) i).2 ⟨hi, by unfold shR; rw [hg, Int.toNat_natCast]; exact hf⟩
  rw [e] at hm
  cases hm
set_option maxHeartbeats 1000000 in
set_option maxRecDepth 100000 in
theorem iShapeOf (s : ByteArray) (x : Int) (w : World) (hm : ML w) (hs : s.size ≤ 1048576) : Calls Tryd.prog 28 #[.string s, .int .i64 x] w (Ret (.tuple #[.string (shS s.data.toList x), .bool (pceOk s.data.toList x)]) w) := by
  have gg := Gr.refl w
  have HR := hidI (fun w (hm : ML w) => readPiece_any s x w hm hs)
  unfold RetPce at HR
  cases hk : pceOk s.data.toList x with
  | false =>
    have HV := hidI (show shS s.data.toList x = ⟨#[]⟩ from by unfold shS; rw [hk]; rfl)
    rw [hk] at HR
    obtain ⟨g, hg⟩ : ∃ g, pceG s.data.toList x = g := ⟨_, rfl⟩
    rw [hg] at HR
    clear hg hk
    go_enter Tryd.func28, Tryd.ntmps28
    go_wp2_with (first | (go_at_call 60; refine (HR.out _ hm).mono ?_; rintro e w1 ⟨g1, v1, rfl, own1⟩; rw [gvG]; have gg := gg.trans g1; have z1 := g1.size) | (refine r_alloc 62 _ Tryd.gzero rfl ?_; intro w2 B2 N2; have g2 := N2.gr; have b2 : Blk w2 B2 (gv 0 0 []) 62 := N2.blk; have l2 := N2.lo; have t2 := N2.hi; have z2 := g2.size; have gg := gg.trans g2; clear N2; obtain ⟨b2_0, b2_1, b2_2⟩ := gcells b2) | (refine r_store_row 62 62 _ _ _ rfl (gv g.w g.h g.c) _ rfl b2 (Tryd.gsize' _ _ _) (by simp only [gv_size]) (gv_one _ _ _) rfl ?_; intro w3 u3 b2'; have z3 := u3.size; have gg := u3.gr gg (by omega); clear b2; have b2 := b2'; clear b2'; obtain ⟨b2_0, b2_1, b2_2⟩ := gcells b2))
    go_ret2
    exact ⟨fin_sb HV.out.symm rfl, gg⟩
  | true =>
    have hk' := hk
    unfold pceOk at hk'
    rw [Bool.and_eq_true, Bool.and_eq_true] at hk'
    obtain ⟨⟨k1, k2⟩, k3⟩ := hk'
    obtain ⟨g, hp, hg⟩ : ∃ g, parse s.data.toList = some g ∧ rdG s.data.toList = g := by
      rcases rd_cases s.data.toList with ⟨_, _, h⟩ | ⟨g, hp, hg, _⟩
      · rw [h] at k1; cases k1
      · exact ⟨g, hp, hg⟩
    have ht := parse_tray hp
    obtain ⟨hx0, hx1⟩ := inB_true.1 k2
    obtain ⟨hne, -⟩ := pce_self (i := x.toNat) hp hg (by omega) hk
    have HV := hidI (show shS s.data.toList x = leastTo (shG g.w g.h (shR s.data.toList x)) 8 from by unfold shS; rw [hk, if_pos rfl, hg])
    have HPG := hidI (show pceG s.data.toList x = g ∧ pceL s.data.toList x = posTo (shR s.data.toList x) (nn g.w g.h) from ⟨by unfold pceG; rw [hk, if_pos rfl, hg], by unfold pceL shR; rw [hk, if_pos rfl, hg]⟩)
    rw [hk, HPG.out.1, HPG.out.2] at HR
    have HSO := hidI (fun (v : Value) (b : Nat) w hm own => shapeOf_any g.w g.h g.c (shR s.data.toList x) v b w hm ht.w1 ht.w7 ht.h1 ht.h7 ht.n36 hne own)
    obtain ⟨r, hr⟩ : ∃ r, r = leastTo (shG g.w g.h (shR s.data.toList x)) 8 := ⟨_, rfl⟩
    rw [← hr] at HV HSO
    obtain ⟨L, hL⟩ : ∃ L, L = posTo (shR s.data.toList x) (nn g.w g.h) := ⟨_, rfl⟩
    rw [← hL] at HR HSO
    clear hk k1 k2 k3 hp hg ht hx0 hx1 hne HPG hr hL
    go_enter Tryd.func28, Tryd.ntmps28
    go_wp2_with (first | (go_at_call 60; refine (HR.out _ hm).mono ?_; rintro e w1 ⟨g1, v1, rfl, own1⟩; rw [gvG]; have gg := gg.trans g1; have z1 := g1.size) | (refine r_alloc 62 _ Tryd.gzero rfl ?_; intro w2 B2 N2; have g2 := N2.gr; have b2 : Blk w2 B2 (gv 0 0 []) 62 := N2.blk; have l2 := N2.lo; have t2 := N2.hi; have z2 := g2.size; have gg := gg.trans g2; clear N2; obtain ⟨b2_0, b2_1, b2_2⟩ := gcells b2) | (refine r_store_row 62 62 _ _ _ rfl (gv g.w g.h g.c) _ rfl b2 (Tryd.gsize' _ _ _) (by simp only [gv_size]) (gv_one _ _ _) rfl ?_; intro w3 u3 b2'; have z3 := u3.size; have gg := u3.gr gg (by omega); clear b2; have b2 := b2'; clear b2'; obtain ⟨b2_0, b2_1, b2_2⟩ := gcells b2) | (refine r_load_row 62 _ _ rfl _ _ _ b2 Tryd.underlying62 rfl (Tryd.ginfo' _ _ _) rfl ?_) | (go_at_call 62; refine (HSO.out _ _ _ (gg.ml hm) (u3.row (g2.row own1) (own_new own1 l2))).mono ?_; rintro e w4 ⟨rfl, g4⟩; have z4 := g4.size; have gg := gg.trans g4))
    go_ret2
    exact ⟨fin_sb HV.out.symm rfl, gg⟩
end Go.Proofs.YtagoipongdnegaaDoor
