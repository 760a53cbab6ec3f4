/-
  The parity of a board in the model; the laws on the parity and on what can be solved.
-/
import Derived.Test.YtgibpcmjfnmkdaaBoardE
namespace Go.Proofs.Ytgibpcmjfnmkdaa
open Go.RowKit
/-- A cell's rank, the hole the greatest. -/
def rk (n : Nat) (x : Int) : Int := (x + n - 1) % n
def innB (L : List Int) (j i : Nat) : Nat := sumTo (fun i => one (decide (rk L.length (gi L j) < rk L.length (gi L i)))) i
def outB (L : List Int) (k : Nat) : Nat := sumTo (fun j => innB L j j) k
theorem innB_le (L : List Int) (j : Nat) : ∀ i, innB L j i ≤ i
  | 0 => Nat.le_refl _
  | i + 1 => by
    have h := innB_le L j i
    unfold innB at h ⊢
    rw [sumTo]
    have : ∀ b, one b ≤ 1 := by decide
    have := this (decide (rk L.length (gi L j) < rk L.length (gi L i)))
    omega
theorem outB_le (L : List Int) : ∀ k, k ≤ 9 → outB L k ≤ 9 * k
  | 0, _ => Nat.le_refl _
  | k + 1, h9 => by
    have h := outB_le L k (by omega)
    have h2 := innB_le L k k
    unfold outB at h ⊢
    rw [sumTo]
    omega
theorem outB_all {L : List Int} (h : hasAll L = true) : outB L L.length = prA L := by
  rw [← pr_same h]
  rfl
theorem rk_tmod {n : Nat} {x : Int} (h0 : 0 ≤ x) (hn : x < n) : Int.tmod (x + (n : Int) - 1) (n : Int) = rk n x := by
  unfold rk
  exact Int.tmod_eq_emod_of_nonneg (by omega)
theorem rk_range {n : Nat} {x : Int} (hn : 0 < n) : 0 ≤ rk n x ∧ rk n x < n := by
  unfold rk
  exact ⟨Int.emod_nonneg _ (by omega), Int.emod_lt_of_pos _ (by omega)⟩
theorem Try.istoK (g n cap q : Nat) (hc : q ≤ cap) (w : World) : (Instr.sliceAt 22 (.slice (some ⟨g, 0, none⟩) n cap) none (some (.int .i64 q)) none).run Try.prog w = .ok (.slice (some ⟨g, 0, none⟩) q cap) w := by
  have he : Try.prog.elem 22 = 3 := by kernel_rfl
  have hu : Try.prog.underlying 22 = some (.slice (Try.prog.elem 22)) := by rw [he]; exact Try.underlying22
  have hs : (sizeOf 3).run Try.prog w = .ok 1 w := by kernel_rfl
  rw [run_sliceAt_slice w 22 _ _ _ _ hu, run_slice_h w 22 (some ⟨g, 0, none⟩) n cap hu .i64 q (by omega) (by omega), he]
  simp [hs, Result.andThen, sliced, add_zero']
set_option maxHeartbeats 2000000 in
set_option maxRecDepth 100000 in
theorem blParity_any (W H : Nat) (L : List Int) (v : Value) (base : Nat) (w : World) (hown : w.ownsRow base 3 1 v L.length (intsV L)) (hW : 1 ≤ W) (hW3 : W ≤ 3) (hH : 1 ≤ H) (hH3 : H ≤ 3) (hl : L.length = nn W H) (hA : hasAll L = true) :
    Calls Try.prog 61 #[.agg (bv W v)] w (Ret (.int .i64 (parN W L)) w) := by
  have gg := Gr.refl w
  have h9 : nn W H ≤ 9 := Nat.mul_le_mul hW3 hH3
  have hn1 : 1 ≤ nn W H := Nat.mul_pos hW hH
  obtain ⟨n, hn⟩ : ∃ n, n = nn W H := ⟨_, rfl⟩
  have hln : L.length = n := by rw [hl, hn]
  have h0 := zero_in hA (by omega)
  have hPl := (hI_spec h0).1
  obtain ⟨P, hP⟩ : ∃ P, P = hI L := ⟨_, rfl⟩
  rw [← hP, hln] at hPl
  have HALL := hidI (show outB L n = prA L from by rw [← hln]; exact outB_all hA)
  have HL := hidI hln
  have HG := hidI (fun i (hi : i < n) => hasAll_lt hA i (by rw [hln]; exact hi))
  have H0 := hidI h0
  have HP := hidI hP.symm
  have HOL := hidI (fun k (hk : k ≤ n) => outB_le L k (by omega))
  have HIL := hidI (innB_le L)
  rw [← hn] at h9 hn1
  have hst := stp_le (W := W) (i := P) (j := n - 1) (by omega) (by omega) hW hW3
  have HPAR := hidI (show parN W L = (stp W P (n - 1) + outB L n) % 2 from by unfold parN; rw [HALL.out, hP, hln])
  rw [HPAR.out]
  obtain ⟨s0, hs0⟩ : ∃ s0, s0 = stp W P (n - 1) := ⟨_, rfl⟩
  rw [← hs0] at hst ⊢
  have HS0 := hidI hs0
  obtain ⟨N1, hN1⟩ : ∃ N1, N1 = n - 1 := ⟨_, rfl⟩
  have e2 : (n : Int) - 1 = (N1 : Int) := by omega
  have hN19 : N1 ≤ 9 := by omega
  rw [← hN1] at HS0
  have HOW := hidI hown
  rw [hln] at hown
  obtain ⟨g, cap, rfl, hgb, hcap⟩ := own_shape hown hn1
  have HOWN := hidI hown
  have hlm : L.length ≤ 1048576 := by omega
  clear hN1
  clear hn hln hl hA h0 hP hs0 hown
  go_enter Try.func61, Try.ntmps61
  go_wp2_with (refine r_box 27 _ (bv (W) (.slice (some ⟨g, 0, none⟩) n cap)) rfl rfl ?_; intro w1 B1 N1; have g1 := N1.gr; have b1 : Blk w1 B1 (bv (W) (.slice (some ⟨g, 0, none⟩) n cap)) 27 := N1.blk; have l1 := N1.lo; have t1 := N1.hi; have z1 := g1.size; have gg := gg.trans g1; clear N1; obtain ⟨b1_0, b1_1⟩ := bcells b1)
  refine q_whole (by kernel_rfl) (by kernel_rfl) ?_
  refine q_take (.agg (bv W (.slice (some ⟨g, 0, none⟩) n cap))) rfl (fun w' hw' => e_load_row 27 (.tmp 1) _ _ _ _ rfl (hw'.blk b1) Try.underlying27 rfl Try.ibinfo) ?_; simp only [Act.put, List.setIfInBounds_toArray, List.set_cons_succ, List.set_cons_zero]
  refine q_take (.agg (bv W (.slice (some ⟨g, 0, none⟩) n cap))) rfl (fun w' hw' => e_load_row 27 (.tmp 1) _ _ _ _ rfl (hw'.blk b1) Try.underlying27 rfl Try.ibinfo) ?_; simp only [Act.put, List.setIfInBounds_toArray, List.set_cons_succ, List.set_cons_zero]
  refine q_call 56 [.tmp 13] _ [.agg (bv W (.slice (some ⟨g, 0, none⟩) n cap))] (.int .i64 (P : Nat)) Try.call56 rfl rfl (fun w' hw' => ((blHole_any W L _ base w' ((gg.trans hw').row HOW.out) hlm H0.out).mono fun e w'' h => ⟨by rw [h.1, HP.out], hw'.trans h.2⟩)) ?_; simp only [Act.put, List.setIfInBounds_toArray, List.set_cons_succ, List.set_cons_zero]
  refine q_move _ (.int .i64 n) rfl rfl ?_; simp only [Act.put, List.setIfInBounds_toArray, List.set_cons_succ, List.set_cons_zero]
  refine q_sub _ _ _ _ (n) (1) (N1) rfl rfl (e2) (by omega) rfl ?_; simp only [Act.put, List.setIfInBounds_toArray, List.set_cons_succ, List.set_cons_zero]
  refine q_call 75 [.tmp 12, .tmp 14, .tmp 16] _ [.agg (bv W (.slice (some ⟨g, 0, none⟩) n cap)), .int .i64 (P : Nat), .int .i64 (N1 : Nat)] (.int .i64 (s0 : Nat)) Try.call75 rfl rfl (fun w' hw' => ((blSteps_any W _ P N1 w' hW hW3 (by omega) hN19 ⟨_, _, _, rfl⟩).mono fun e w'' h => ⟨by rw [h.1, HS0.out], hw'.trans h.2⟩)) ?_; simp only [Act.put, List.setIfInBounds_toArray, List.set_cons_succ, List.set_cons_zero]
  refine q_assign _ (.int .i64 (s0 : Nat)) rfl rfl ?_; simp only [Act.put, List.setIfInBounds_toArray, List.set_cons_succ, List.set_cons_zero]
  refine wpQuiet_nil ?_; intro w6 g6; have z6 := g6.size; have b1 := g6.blk b1; obtain ⟨b1_0, b1_1⟩ := bcells b1; have gg := gg.trans g6
  go_wp2
  go_loopw [4, 5, 6, 8, 21] (fun cv _ _ _ iv wr => ∃ k : Nat, k ≤ n ∧ iv = .int .i64 k ∧ cv = .int .i64 ((s0 : Int) + (outB L k : Nat)) ∧ Blk wr B1 (bv W (.slice (some ⟨g, 0, none⟩) n cap)) 27 ∧ Gr w wr) (fun _ _ _ _ iv _ => n - (intOf iv).toNat)
  case atStart => exact ⟨0, Nat.zero_le _, rfl, by go_num, b1, gg⟩
  case round =>
    obtain ⟨k, hk, rfl, rfl, b1, gg⟩ := hrel
    clear b1_0 b1_1
    obtain ⟨b1_0, b1_1⟩ := bcells b1
    have hol := HOL.out k hk
    have own := gg.row HOWN.out
    by_cases hlt : k < n
    · have hc := own_int own k (by omega) HL.out.symm
      have hsl := Try.istoK g n cap k (by omega)
      have HOS := hidI (show outB L (k + 1) = outB L k + innB L k k from by unfold outB; rw [sumTo])
      obtain ⟨x, hx⟩ : ∃ x, x = gi L k := ⟨_, rfl⟩
      obtain ⟨c0, hc0⟩ : ∃ c0, c0 = outB L k := ⟨_, rfl⟩
      have hxr := HG.out k hlt
      rw [← hx] at hc hxr
      rw [HL.out] at hxr
      rw [← hc0] at hol HOS ⊢
      have HX := hidI hx
      have ex := rk_tmod hxr.1 hxr.2
      have rx := rk_range (n := n) (x := x) hn1
      obtain ⟨rx1, rx2⟩ := rx
      obtain ⟨hx1, hx2⟩ := hxr
      have hn0 : n ≠ 0 := by omega
      obtain ⟨rkx, hrkx⟩ : ∃ r, r = rk n x := ⟨_, rfl⟩
      rw [← hrkx] at ex rx1 rx2
      have HRX := hidI hrkx
      clear hx hc0 hrkx
      go_wp2
      go_loopw [4, 8, 31] (fun cv _ iv wr => ∃ j : Nat, j ≤ k ∧ iv = .int .i64 j ∧ cv = .int .i64 ((s0 : Int) + ((c0 : Int) + (innB L k j : Nat))) ∧ Blk wr B1 (bv W (.slice (some ⟨g, 0, none⟩) n cap)) 27 ∧ Gr w wr) (fun _ _ iv _ => k - (intOf iv).toNat)
      case atStart => exact ⟨0, Nat.zero_le _, rfl, by go_num, b1, gg⟩
      case round =>
        obtain ⟨j, hj, rfl, rfl, b1, gg⟩ := hrel
        have hil := HIL.out k j
        have own := gg.row HOWN.out
        by_cases hjr : j < k
        · have hc2 := own_int own j (by omega) HL.out.symm
          obtain ⟨y, hy⟩ : ∃ y, y = gi L j := ⟨_, rfl⟩
          have hyr := HG.out j (by omega)
          rw [← hy] at hc2 hyr
          rw [HL.out] at hyr
          have ey := rk_tmod hyr.1 hyr.2
          have ry := rk_range (n := n) (x := y) hn1
          obtain ⟨ry1, ry2⟩ := ry
          obtain ⟨hy1, hy2⟩ := hyr
          obtain ⟨rky, hrky⟩ : ∃ r, r = rk n y := ⟨_, rfl⟩
          rw [← hrky] at ey ry1 ry2
          by_cases hb : rkx < rky
          · have HIS := hidI (show innB L k (j + 1) = innB L k j + 1 from by unfold innB; rw [sumTo]; congr 1; unfold one; rw [if_pos (by rw [HL.out, ← HX.out, ← hy, ← HRX.out, ← hrky]; simpa using hb)])
            clear hy hrky
            go_wp2
            go_quiet (fail)
            have gq9 := (Gr.refl wr).drewN nq; have b1 := gq9.blk b1; have gg := gg.trans gq9; have zq9 := gq9.size; generalize wr.drewN nq = w9 at *; clear gq9
            go_wp2
            go_roundw
            case rel => exact ⟨j + 1, by omega, by go_num, by rw [HIS.out]; go_num, b1, gg⟩
            case measure => simp [intOf]; omega
          · have HIS := hidI (show innB L k (j + 1) = innB L k j from by unfold innB; rw [sumTo]; unfold one; rw [if_neg (by rw [HL.out, ← HX.out, ← hy, ← HRX.out, ← hrky]; simpa using hb)]; rfl)
            clear hy hrky
            go_wp2
            go_quiet (fail)
            have gq9 := (Gr.refl wr).drewN nq; have b1 := gq9.blk b1; have gg := gg.trans gq9; have zq9 := gq9.size; generalize wr.drewN nq = w9 at *; clear gq9
            go_wp2
            go_roundw
            case rel => exact ⟨j + 1, by omega, by go_num, by rw [HIS.out], b1, gg⟩
            case measure => simp [intOf]; omega
        · obtain rfl : j = k := by omega
          clear hjr
          go_wp2
          go_roundw
          case rel => exact ⟨j + 1, by omega, by go_num, by rw [HOS.out]; go_num, b1, gg⟩
          case measure => simp [intOf]; omega
    · obtain rfl : k = n := by omega
      clear hlt
      go_wp2
      go_ret
      refine ⟨ret_int ?_, gg⟩
      omega
set_option maxHeartbeats 400000 in
set_option maxRecDepth 100000 in
theorem sParityOf (z : Int) (L : List Int) (v : Value) (base : Nat) (w : World) (hown : w.ownsRow base 3 1 v L.length (intsV L)) (hl : L.length ≤ 1048576) :
    Calls Try.prog 27 #[.agg (bv z v)] w (Ret (.tuple #[.int .i64 (paV z L), .bool (bdOk z L)]) w) := by
  have gg := Gr.refl w
  have HOWN := hidI hown
  obtain ⟨p, m, q, rfl⟩ := own_slice hown
  clear hown
  rcases rdB_cases z L with ⟨h1, h2⟩ | ⟨W, H, rfl, h1, h2, hn, k1, k2, k3, k4, hA⟩
  · have HV := hidI h1
    have HO := hidI (paV_bad h1)
    clear h1 h2
    go_enter Try.func27, Try.ntmps27
    go_wp2_with (first | (refine r_box 27 _ (bv (z) (.slice p m q)) rfl rfl ?_; intro w1 B1 N1; have g1 := N1.gr; have b1 : Blk w1 B1 (bv (z) (.slice p m q)) 27 := N1.blk; have l1 := N1.lo; have t1 := N1.hi; have z1 := g1.size; have gg := gg.trans g1; clear N1; obtain ⟨b1_0, b1_1⟩ := bcells b1) | (refine r_load_row 27 _ _ rfl _ _ _ b1 Try.underlying27 rfl Try.ibinfo rfl ?_) | (go_at_call 45; refine (blGood_any z L _ base _ (gg.row HOWN.out) hl).mono ?_; rintro e w2 ⟨rfl, g2⟩; rw [HV.out]; have z2 := g2.size; have gg := gg.trans g2))
    go_ret2
    exact ⟨fin_ib HO.out.symm HV.out.symm, gg⟩
  · have HV := hidI h1
    have HO := hidI (paV_good h1)
    have HA := hidI hA
    have HN := hidI hn
    clear h1 h2 hn hA
    go_enter Try.func27, Try.ntmps27
    go_wp2_with (first | (refine r_box 27 _ (bv (W) (.slice p m q)) rfl rfl ?_; intro w1 B1 N1; have g1 := N1.gr; have b1 : Blk w1 B1 (bv (W) (.slice p m q)) 27 := N1.blk; have l1 := N1.lo; have t1 := N1.hi; have z1 := g1.size; have gg := gg.trans g1; clear N1; obtain ⟨b1_0, b1_1⟩ := bcells b1) | (refine r_load_row 27 _ _ rfl _ _ _ b1 Try.underlying27 rfl Try.ibinfo rfl ?_) | (go_at_call 45; refine (blGood_any W L _ base _ (gg.row HOWN.out) hl).mono ?_; rintro e w2 ⟨rfl, g2⟩; rw [HV.out]; have z2 := g2.size; have b1 := g2.blk b1; have gg := gg.trans g2) | (go_at_call 61; refine (blParity_any W H L _ base _ (gg.row HOWN.out) k1 k2 k3 k4 HN.out HA.out).mono ?_; rintro e w3 ⟨rfl, g3⟩; have z3 := g3.size; have gg := gg.trans g3))
    go_ret2
    exact ⟨fin_ib HO.out.symm HV.out.symm, gg⟩
set_option maxHeartbeats 1000000 in
set_option maxRecDepth 100000 in
theorem lawParityOf (z : Int) (v : Value) (L : List Int) (w : World) (hs : Sl w v L) (hbig : L.length ≤ 9223372036854775807) : Calls Try.prog 7 #[.agg (bv z v)] w (Ret (.bool true) w) := by
  have gg := Gr.refl w
  obtain ⟨p, c, rfl, hr⟩ := hs
  by_cases hl : 1048576 < L.length
  · have HZ := hidI (show szR L.length = -1 from if_pos hl)
    go_enter Try.func7, Try.ntmps7
    go_wp2_with (first | (refine r_box 24 _ (bv (z) (.slice p L.length c)) rfl rfl ?_; intro w1 B1 N1; have g1 := N1.gr; have b1 : Blk w1 B1 (bv (z) (.slice p L.length c)) 24 := N1.blk; have l1 := N1.lo; have t1 := N1.hi; have z1 := g1.size; have gg := gg.trans g1; clear N1; obtain ⟨b1_0, b1_1⟩ := bcells b1) | (refine r_load_row 24 _ _ rfl _ _ _ b1 Try.underlying24 rfl Try.lbinfo rfl ?_) | (go_at_call 14; refine (szBoard_any z p L.length c _ hbig).mono ?_; rintro e w2 ⟨rfl, g2⟩; rw [HZ.out]; have z2 := g2.size; have gg := gg.trans g2))
    go_ret
    exact ⟨rfl, gg⟩
  · have hl : L.length ≤ 1048576 := by omega
    have HZ := hidI (show szR L.length = 1048576 - (L.length : Int) from if_neg (by omega))
    have HR := hidI hr
    obtain ⟨ok, hok⟩ : ∃ ok, ok = bdOk z L := ⟨_, rfl⟩
    obtain ⟨val, hval⟩ : ∃ val, val = paV z L := ⟨_, rfl⟩
    have HOK := hidI hok
    have HVAL := hidI hval
    clear hr hok hval
    go_enter Try.func7, Try.ntmps7
    go_wp2_with (first | (refine r_box 24 _ (bv (z) (.slice p L.length c)) rfl rfl ?_; intro w1 B1 N1; have g1 := N1.gr; have b1 : Blk w1 B1 (bv (z) (.slice p L.length c)) 24 := N1.blk; have l1 := N1.lo; have t1 := N1.hi; have z1 := g1.size; have gg := gg.trans g1; clear N1; obtain ⟨b1_0, b1_1⟩ := bcells b1) | (refine r_load_row 24 _ _ rfl _ _ _ b1 Try.underlying24 rfl Try.lbinfo rfl ?_) | (go_at_call 14; refine (szBoard_any z p L.length c _ hbig).mono ?_; rintro e w2 ⟨rfl, g2⟩; rw [HZ.out]; have z2 := g2.size; have b1 := g2.blk b1; have gg := gg.trans g2))
    refine (toBoard_any z p c L _ (HR.out.gr gg) hl).mono ?_
    rintro e w3 ⟨g3, v3, rfl, own3⟩
    have b1 := g3.blk b1
    have z3 := g3.size
    have gg := gg.trans g3
    go_wp2_with (first | (go_at_call 27; refine (sParityOf z L v3 _ _ own3 hl).mono ?_; rintro e w4 ⟨rfl, g4⟩; rw [← HOK.out, ← HVAL.out]; have z4 := g4.size; have b1 := g4.blk b1; have gg := gg.trans g4) | (refine r_load_row 24 _ _ rfl _ _ _ b1 Try.underlying24 rfl Try.lbinfo rfl ?_))
    refine (toBoard_any z p c L _ (HR.out.gr gg) hl).mono ?_
    rintro e w5 ⟨g5, v5, rfl, own5⟩
    have b1 := g5.blk b1
    have z5 := g5.size
    have gg := gg.trans g5
    have hone := own_one own5
    go_wp2_with (first | ((refine r_alloc 27 _ Try.ibzero rfl ?_; intro w5 B5 N5; have g5 := N5.gr; have b5 : Blk w5 B5 (bv 0 (.slice none 0 0)) 27 := N5.blk; have l5 := N5.lo; have t5 := N5.hi; have z5 := g5.size; have b1 := g5.blk b1; have gg := gg.trans g5; clear N5; obtain ⟨b5_0, b5_1⟩ := bcells b5); have own5 := g5.row own5) | (have hne5 := own_ne own5 b5 (by decide); (refine r_store_row 27 27 _ _ _ rfl (bv (z) (v5)) _ rfl b5 Try.ibsize rfl (bv_one (hone)) rfl ?_; intro w6 u6 b5'; have z6 := u6.size; have gg := u6.gr gg (by omega); have b1 := u6.blk b1 (by omega); clear b5; have b5 := b5'; clear b5'; obtain ⟨b5_0, b5_1⟩ := bcells b5); have own5 := u6.row own5 hne5) | (refine r_load_row 27 _ _ rfl _ _ _ b5 Try.underlying27 rfl Try.ibinfo rfl ?_) | ((go_at_call 28; refine (iParityOf z L v5 _ _ own5 hl).mono ?_; rintro e w7 ⟨rfl, g7⟩; rw [← HOK.out, ← HVAL.out]; have z7 := g7.size; have b1 := g7.blk b1; have b5 := g7.blk b5; have gg := gg.trans g7); have own5 := g7.row own5))
    refine F_begin (fun w => Blk w B5 (bv z v5) 27) 3 5 #[false, false, false, false, false] rfl (by kernel_rfl) (by kernel_rfl) ?_
    have gd := (Gr.refl w7).drew
    have b1 := gd.blk b1
    have b5 := gd.blk b5
    have own5 := gd.row own5
    have gg := gg.trans gd
    have zd := gd.size
    generalize (w7).drew = wd at *
    refine F_take (v := .agg (bv z v5)) 0 #[true, false, false, false, false] rfl (by kernel_rfl) (fun _ _ _ h => h) rfl (fun w hF => e_load_row 27 (.tmp 6) _ _ _ _ rfl hF Try.underlying27 rfl Try.ibinfo) (b5) ?_; simp only [Act.put, List.setIfInBounds_toArray, List.set_cons_succ, List.set_cons_zero]
    refine F_one 1 #[true, true, false, false, false] rfl (by kernel_rfl) ?_
    (refine r_load_row 24 _ _ rfl _ _ _ b1 Try.underlying24 rfl Try.lbinfo rfl ?_)
    refine ⟨fun _ => b5, ?_⟩
    simp only [Act.put, List.setIfInBounds_toArray, List.set_cons_succ, List.set_cons_zero]
    refine F_one 2 #[true, true, true, false, false] rfl (by kernel_rfl) ?_
    refine r_callx 16 [.tmp 36] _ [.agg (bv z (.slice p L.length c))] (fun v w' => Gr wd w' ∧ ∃ u, v = .agg (bv z u) ∧ w'.ownsRow wd.heap.size 3 1 u L.length (intsV L)) Try.call16 rfl rfl ((toBoard_any z p c L _ (HR.out.gr gg) hl).mono fun e w' h => by obtain ⟨g, v, h1, h2⟩ := h; exact ⟨_, h1, g, v, rfl, h2⟩) ?_
    rintro _ w8 ⟨g8, v8, rfl, own8⟩
    have b5 := g8.blk b5
    have own5 := g8.row own5
    have gg := gg.trans g8
    refine ⟨fun _ => b5, ?_⟩
    simp only [Act.put, List.setIfInBounds_toArray, List.set_cons_succ, List.set_cons_zero]
    refine F_one 3 #[true, true, true, true, false] rfl (by kernel_rfl) ?_
    refine r_call 18 [.tmp 35, .tmp 37] _ [.agg (bv z v5), .agg (bv z v8)] (.bool true) (fun w' => Gr w8 w') Try.call18 rfl rfl (eqBoard_same z L v5 v8 _ _ w8 own5 own8 hl) ?_
    intro w9 g9
    have gg := gg.trans g9
    refine ⟨fun h => (by cases h), ?_⟩
    simp only [Act.put, List.setIfInBounds_toArray, List.set_cons_succ, List.set_cons_zero]
    refine F_one 4 #[true, true, true, true, true] rfl (by kernel_rfl) ?_
    refine r_val (.bool false) rfl rfl ?_
    refine ⟨fun h => (by cases h), ?_⟩
    simp only [Act.put, List.setIfInBounds_toArray, List.set_cons_succ, List.set_cons_zero]
    refine F_done (by kernel_rfl) ?_
    go_wp2
    go_ret
    exact ⟨rfl, gg⟩
end Go.Proofs.Ytgibpcmjfnmkdaa
