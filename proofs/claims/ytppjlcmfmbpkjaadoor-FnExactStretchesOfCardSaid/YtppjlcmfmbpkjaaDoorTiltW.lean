/-
  The stretches of a tray as a list of lists: in the program and in the model, and the law.
-/
import Derived.Test.YtppjlcmfmbpkjaaDoorTiltV
namespace Go.Proofs.YtppjlcmfmbpkjaaDoor
open Go.RowKit
def stW (l : List UInt8) (dir : ByteArray) : List (List Int) := if dtOk l dir then zzz (strL (rdG l).w (rdG l).h (rdG l).c (dS dir).toNat) else []
theorem stW_yes {l : List UInt8} {dir : ByteArray} {g : Grid} {d : Nat} (hy : dtOk l dir = true) (hg : rdG l = g) (hd : dS dir = (d : Nat)) : stW l dir = zzz (strL g.w g.h g.c d) := by unfold stW; rw [hy, hg, hd]; rfl
theorem stW_no {l : List UInt8} {dir : ByteArray} (hy : dtOk l dir = false) : stW l dir = [] := by unfold stW; rw [hy]; rfl
theorem total_bound {L : List (List Int)} {b : Nat} (h : ∀ l ∈ L, l.length ≤ b) : total L ≤ b * L.length := by
  induction L with
  | nil => exact Nat.le_refl _
  | cons l L ih =>
    have h1 := ih (fun t ht => h t (by simp [ht]))
    have h2 := h l (by simp)
    have e : total (l :: L) = l.length + total L := by unfold total; simp
    rw [e, List.length_cons, Nat.mul_add]
    omega
theorem stW_le (l : List UInt8) (dir : ByteArray) : (stW l dir).length ≤ 36 ∧ total (stW l dir) ≤ 252 := by
  rcases dt_cases l dir with hn | ⟨g, d, hp, hg, hk, h4, e1, e2, hdo, hy⟩
  · rw [stW_no hn]; decide
  · obtain ⟨hc, -, -, -⟩ := cel_of hp
    rw [stW_yes hy hg e2]
    have hS := hc.strs h4
    have h1 := hS.small
    have h2 := hc.n36
    have h3 := total_bound (L := zzz (strL g.w g.h g.c d)) (b := 7) (fun l hl => by
      unfold zzz at hl
      obtain ⟨s, hs, rfl⟩ := List.mem_map.1 hl
      rw [zz_length]
      exact (hS.len7 s hs).2)
    rw [zzz_length] at h3
    exact ⟨by rw [zzz_length]; omega, by omega⟩
theorem dS_dB' {d : Nat} (h : d < 4) : dS ⟨#[dB d]⟩ = (d : Nat) := by
  rcases dB_cases h with ⟨rfl, e⟩ | ⟨rfl, e⟩ | ⟨rfl, e⟩ | ⟨rfl, e⟩ <;> rfl
set_option maxHeartbeats 1000000 in
set_option maxRecDepth 100000 in
theorem iStretchesOf (s dir : ByteArray) (w : World) (hm : ML w) (hs : s.size ≤ 1048576) : Calls Tryd.prog 23 #[.string s, .string dir] w (RetSS 34 3 (stW s.data.toList dir) (dtOk s.data.toList dir) w) := by
  have gg := Gr.refl w
  rcases dt_cases s.data.toList dir with hn | ⟨g, d, hp, hg, hk, h4, e1, e2, hdo, hy⟩
  · have HN := hidI hn
    have HV := hidI (stW_no hn)
    clear hn
    go_enter Tryd.func23, Tryd.ntmps23
    go_wp2_with (first | (go_at_call 45; refine (readTilt_no s dir _ (gg.ml hm) hs HN.out).mono ?_; rintro e w1 ⟨rfl, g1⟩; have z1 := g1.size; have gg := gg.trans g1) | (refine r_alloc 53 _ Tryd.gzero rfl ?_; intro w2 B2 N2; have g2 := N2.gr; have b2 : Blk w2 B2 (gv 0 0 []) 53 := N2.blk; have l2 := N2.lo; have t2 := N2.hi; have z2 := g2.size; have gg := gg.trans g2; clear N2; obtain ⟨b2_0, b2_1, b2_2⟩ := gcells b2) | (refine r_store_row 53 53 _ _ _ rfl (gv 0 0 []) _ rfl b2 (Tryd.gsize' _ _ _) (by simp only [gv_size]) (gv_one _ _ _) rfl ?_; intro w3 u3 b2'; have z3 := u3.size; have gg := u3.gr gg (by omega); clear b2; have b2 := b2'; clear b2'; obtain ⟨b2_0, b2_1, b2_2⟩ := gcells b2))
    go_ret2
    exact ⟨gg, .slice none 0 0, [], by rw [HN.out]; rfl, by rw [HV.out]; exact World.ownsRow_nil _ _ _ _, by rw [HV.out]; exact RowsK.nil _ _ _ _ _⟩
  · obtain ⟨hc, w1', h1', hl⟩ := cel_of hp
    have HC := hidI hc
    have HV := hidI (stW_yes hy hg e2)
    have HY := hidI hy
    have HRT := hidI (fun w (hm : ML w) => readTilt_yes s dir g d w hm hs hg hk e1 hdo)
    have w7 := hc.w7
    have h7 := hc.h7
    have n36 := hc.n36
    clear hp hg hk e1 e2 hdo hc hl hy
    go_enter Tryd.func23, Tryd.ntmps23
    go_wp2_with (first | (go_at_call 45; refine (HRT.out _ (gg.ml hm)).mono ?_; rintro e w1 ⟨rfl, g1⟩; have z1 := g1.size; have gg := gg.trans g1) | (refine r_alloc 53 _ Tryd.gzero rfl ?_; intro w2 B2 N2; have g2 := N2.gr; have b2 : Blk w2 B2 (gv 0 0 []) 53 := N2.blk; have l2 := N2.lo; have t2 := N2.hi; have z2 := g2.size; have gg := gg.trans g2; clear N2; obtain ⟨b2_0, b2_1, b2_2⟩ := gcells b2) | (refine r_store_row 53 53 _ _ _ rfl (gv g.w g.h g.c) _ rfl b2 (Tryd.gsize' _ _ _) (by simp only [gv_size]) (gv_one _ _ _) rfl ?_; intro w3 u3 b2'; have z3 := u3.size; have gg := u3.gr gg (by omega); clear b2; have b2 := b2'; clear b2'; obtain ⟨b2_0, b2_1, b2_2⟩ := gcells b2) | (refine r_load_row 53 _ _ rfl _ _ _ b2 Tryd.underlying53 rfl (Tryd.ginfo' _ _ _) rfl ?_))
    refine (stretches_any g.w g.h d g.c _ h4 w7 h7 n36 HC.out.len HC.out.cells).mono ?_
    rintro e w4 ⟨g4, v4, vs, rfl, own, R⟩
    have gg := gg.trans g4
    have own := own_up own (show w.heap.size ≤ w3.heap.size by omega)
    have R := R.up (show w.heap.size ≤ w3.heap.size by omega)
    go_wp2
    go_ret2
    exact ⟨gg, v4, vs, by rw [HY.out]; rfl, by rw [HV.out]; exact own, by rw [HV.out]; exact R⟩
set_option maxHeartbeats 1000000 in
set_option maxRecDepth 100000 in
theorem sStretchesOf (s dir : ByteArray) (w : World) (hs : s.size ≤ 1048576) : Calls Tryd.prog 22 #[.string s, .string dir] w (RetSS 34 3 (stW s.data.toList dir) (dtOk s.data.toList dir) w) := by
  have gg := Gr.refl w
  go_enter Tryd.func22, Tryd.ntmps22
  go_wp2_with fail
  refine (tiRead_any s dir _ hs).mono ?_
  rintro e w1 ⟨g1, ⟨hn, W, H, sl, x, hone, rfl⟩ | ⟨g, sl, d, hp, h4, e1, hy, rfl, hown⟩⟩
  · have HN := hidI hn
    have HV := hidI (stW_no hn)
    have gg := gg.trans g1
    have z1 := g1.size
    clear hn
    go_wp2_with (first | (refine r_alloc 46 _ Tryd.tzero rfl ?_; intro w2 B2 N2; have g2 := N2.gr; have b2 : Blk w2 B2 (tg 0 0 (.slice none 0 0)) 46 := N2.blk; have l2 := N2.lo; have t2 := N2.hi; have z2 := g2.size; have gg := gg.trans g2; clear N2; obtain ⟨b2_0, b2_1, b2_2⟩ := tcells b2) | (refine r_store_row 46 46 _ _ _ rfl (tg _ _ _) _ rfl b2 Tryd.tsize rfl (tg_one hone) rfl ?_; intro w3 u3 b2'; have z3 := u3.size; have gg := u3.gr gg (by omega); clear b2; have b2 := b2'; clear b2'; obtain ⟨b2_0, b2_1, b2_2⟩ := tcells b2))
    go_ret2
    exact ⟨gg, .slice none 0 0, [], by rw [HN.out]; rfl, by rw [HV.out]; exact World.ownsRow_nil _ _ _ _, by rw [HV.out]; exact RowsK.nil _ _ _ _ _⟩
  · obtain ⟨hc, w1', h1', hl⟩ := cel_of hp
    have HV := hidI (stW_yes hy (rd_parse_some hp).1 (by rw [e1]; exact dS_dB' h4))
    have HY := hidI hy
    have HC := hidI hc
    have hone := own_one hown
    have w7 := hc.w7
    have h7 := hc.h7
    have n36 := hc.n36
    have h36 : g.c.length ≤ 36 := by have := hc.len; omega
    have gg := gg.trans g1
    have z1 := g1.size
    obtain ⟨G, cap, rfl, -, -⟩ := own_shape hown hl
    clear hp e1 hc hy
    go_wp2_with (first | (refine r_alloc 46 _ Tryd.tzero rfl ?_; intro w2 B2 N2; have g2 := N2.gr; have b2 : Blk w2 B2 (tg 0 0 (.slice none 0 0)) 46 := N2.blk; have l2 := N2.lo; have t2 := N2.hi; have z2 := g2.size; have gg := gg.trans g2; clear N2; obtain ⟨b2_0, b2_1, b2_2⟩ := tcells b2) | (refine r_store_row 46 46 _ _ _ rfl (tg _ _ _) _ rfl b2 Tryd.tsize rfl (tg_one hone) rfl ?_; intro w3 u3 b2'; have z3 := u3.size; have gg := u3.gr gg (by omega); clear b2; have b2 := b2'; clear b2'; obtain ⟨b2_0, b2_1, b2_2⟩ := tcells b2) | (refine r_load_row 46 _ _ rfl _ _ _ b2 Tryd.underlying46 rfl Tryd.tinfo rfl ?_))
    refine (tiStretches_any g.w g.h w.heap.size d g.c G cap _ h4 w7 h7 h36 HC.out.len HC.out.cells (u3.row (g2.row hown) (own_new hown l2))).mono ?_
    rintro e w4 ⟨g4, v4, vs, rfl, own, R⟩
    have gg := gg.trans g4
    have own := own_up own (show w.heap.size ≤ w3.heap.size by omega)
    have R := R.up (show w.heap.size ≤ w3.heap.size by omega)
    go_wp2
    go_ret2
    exact ⟨gg, v4, vs, by rw [HY.out]; rfl, by rw [HV.out]; exact own, by rw [HV.out]; exact R⟩
set_option maxHeartbeats 4000000 in
set_option maxRecDepth 100000 in
theorem lawStretchesOf (s t : ByteArray) (w : World) (hm : ML w) : Calls Tryd.prog 7 #[.string s, .string t] w (Ret (.bool true) w) := by
  have gg := Gr.refl w
  by_cases hs : 1048576 < s.size
  · go_enter Tryd.func7, Tryd.ntmps7
    go_wp2
    go_ret
    exact ⟨rfl, gg⟩
  · have hs' : s.size ≤ 1048576 := by omega
    clear hs
    by_cases hc : 1048576 < t.size
    · go_enter Tryd.func7, Tryd.ntmps7
      go_wp2
      go_ret
      exact ⟨rfl, gg⟩
    · have hc' : t.size ≤ 1048576 := by omega
      clear hc
      obtain ⟨hle, htl⟩ := stW_le s.data.toList t
      obtain ⟨L, hL⟩ : ∃ L, L = stW s.data.toList t := ⟨_, rfl⟩
      obtain ⟨ok, hok⟩ : ∃ ok, ok = dtOk s.data.toList t := ⟨_, rfl⟩
      have HL := hidI hL
      have HOK := hidI hok
      rw [← hL] at hle htl
      clear hL hok
      go_enter Tryd.func7, Tryd.ntmps7
      go_wp2_with fail
      refine (sStretchesOf s t _ hs').mono ?_
      rintro e w1 ⟨g1, v1, us, rfl, own1, R1⟩
      rw [← HL.out] at own1 R1
      have gg := gg.trans g1
      rw [← HOK.out]
      go_wp2_with fail
      refine (iStretchesOf s t _ (gg.ml hm) hs').mono ?_
      rintro e w2 ⟨g2, v2, vs, rfl, own2, R2⟩
      rw [← HL.out] at own2 R2
      rw [← HOK.out]
      have gg := gg.trans g2
      have lo : w.heap.size ≤ w1.heap.size := g1.size
      have own1' := g2.row own1
      have R1' := R1.gr g2
      go_wp2_with fail
      refine (eqIntSS_any v2 v1 L vs us _ _ 1 _ own2 own1' R2 R1' (by omega) (by omega)).mono ?_
      rintro e w3 ⟨rfl, g3⟩
      have own2 := g3.row own2
      have R2 := R2.gr g3
      have gg := gg.trans g3
      have G03 := g2.trans g3
      go_wp2_with fail
      refine (markIntSS_any v2 L vs _ 1 _ own2 R2 (by omega) (by omega) (by decide)).mono ?_
      rintro e w4 ⟨rfl, own2', R2', hG⟩
      have gg := hG _ gg lo
      have G04 := hG _ G03 (Nat.le_refl _)
      clear hG
      obtain ⟨n, hn⟩ : ∃ n : Nat, n = 1 + total L := ⟨_, rfl⟩
      rw [← hn]
      have HN := hidI hn
      have hn2 : n ≤ 260 := by omega
      clear hn
      have own2 := own2'
      have R2 := R2'
      clear own2' R2'
      go_wp2_with fail
      refine (heldIntSS_any v2 L vs _ 1 _ own2 R2 (by omega) (by omega) (by decide)).mono ?_
      rintro e w5 ⟨rfl, g5⟩
      rw [← HN.out]
      have own2 := g5.row own2
      have R2 := R2.gr g5
      have G05 := G04.trans g5
      have gg := gg.trans g5
      go_wp2_with fail
      refine (iStretchesOf s t _ (gg.ml hm) hs').mono ?_
      rintro e w6 ⟨g6, v6, ws, rfl, own6, R6⟩
      rw [← HL.out] at own6 R6
      rw [← HOK.out]
      have gg := gg.trans g6
      have G06 := G05.trans g6
      have own2 := g6.row own2
      have R2 := R2.gr g6
      have own1' := G06.row own1
      have R1' := R1.gr G06
      go_wp2_with fail
      refine (eqIntSS_any v6 v1 L ws us _ _ 1 _ own6 own1' R6 R1' (by omega) (by omega)).mono ?_
      rintro e w7 ⟨rfl, g7⟩
      have own2 := g7.row own2
      have R2 := R2.gr g7
      have gg := gg.trans g7
      go_wp2_with fail
      refine (heldIntSS_any v2 L vs _ 1 _ own2 R2 (by omega) (by omega) (by decide)).mono ?_
      rintro e w8 ⟨rfl, g8⟩
      rw [← HN.out]
      have gg := gg.trans g8
      go_wp2
      go_ret
      exact ⟨rfl, gg⟩
end Go.Proofs.YtppjlcmfmbpkjaaDoor
