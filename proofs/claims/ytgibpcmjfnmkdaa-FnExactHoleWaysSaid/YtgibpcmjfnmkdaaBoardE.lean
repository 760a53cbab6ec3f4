/-
  The parity of a board: in the program and in the model; the laws on the parity and on what can be solved.
-/
import Derived.Test.YtgibpcmjfnmkdaaBoardY
namespace Go.Proofs.Ytgibpcmjfnmkdaa
open Go.RowKit
/-- The numbers with the hole as the greatest. -/
def bigL (L : List Int) : List Int := L.set (hI L) (L.length : Int)
theorem bigL_length (L : List Int) : (bigL L).length = L.length := by simp [bigL]
theorem gi_big {L : List Int} (h : hasAll L = true) (hl : 0 < L.length) (i : Nat) (hi : i < L.length) : gi (bigL L) i = big L.length (gi L i) := by
  obtain ⟨p1, p2, p3⟩ := hole_in h hl
  unfold bigL big
  rw [gi_set _ _ _ _ p1]
  by_cases e : i = hI L
  · rw [if_pos e, if_pos (by rw [e]; exact p2)]
  · rw [if_neg e, if_neg]
    intro h0
    rcases Nat.lt_or_ge i (hI L) with g | g
    · exact p3 i g h0
    · exact hasAll_ne h (hI L) i (by omega) hi (by rw [p2, h0])
def inn (L : List Int) (i j : Nat) : Nat := sumTo (fun t => one (decide (gi (bigL L) (i + t) < gi (bigL L) i))) j
def out (L : List Int) (k : Nat) : Nat := sumTo (fun i => inn L i (L.length - i)) k
theorem inn_le (L : List Int) (i : Nat) : ∀ j, inn L i j ≤ j
  | 0 => Nat.le_refl _
  | j + 1 => by
    have h := inn_le L i j
    unfold inn at h ⊢
    rw [sumTo]
    have : ∀ b, one b ≤ 1 := by decide
    have := this (decide (gi (bigL L) (i + j) < gi (bigL L) i))
    omega
theorem out_le (L : List Int) (h9 : L.length ≤ 9) : ∀ k, out L k ≤ 9 * k
  | 0 => Nat.le_refl _
  | k + 1 => by
    have h := out_le L h9 k
    have h2 := inn_le L k (L.length - k)
    unfold out at h ⊢
    rw [sumTo]
    omega
theorem out_all {L : List Int} (h : hasAll L = true) (hl : 0 < L.length) : out L L.length = prA L := by
  unfold out prA
  apply sumTo_congr
  intro i hi
  unfold inn
  apply sumTo_congr
  intro t ht
  rw [gi_big h hl (i + t) (by omega), gi_big h hl i hi]
def paV (z : Int) (L : List Int) : Int := if bdOk z L = true then (parN z.toNat L : Nat) else 0
theorem paV_bad {z : Int} {L : List Int} (h : bdOk z L = false) : paV z L = 0 := by unfold paV; rw [h]; rfl
theorem paV_good {W : Nat} {L : List Int} (h : bdOk W L = true) : paV W L = (parN W L : Nat) := by unfold paV; rw [h]; rfl
theorem stp_le {W i j : Nat} (hi : i ≤ 9) (hj : j ≤ 9) (hW : 1 ≤ W) (hW3 : W ≤ 3) : stp W i j ≤ 27 := by
  have a1 : i % W < W := Nat.mod_lt _ (by omega)
  have a2 : j % W < W := Nat.mod_lt _ (by omega)
  have a3 : i / W ≤ i := Nat.div_le_self _ _
  have a4 : j / W ≤ j := Nat.div_le_self _ _
  unfold stp
  generalize i % W = a at *
  generalize j % W = b at *
  generalize i / W = c at *
  generalize j / W = d at *
  omega
theorem own_neB {w : World} {base : Nat} {e : TypeId} {size g m cap : Nat} {n : Nat} {xs : List Value} (hr : w.ownsRow base e size (.slice (some ⟨g, 0, none⟩) m cap) n xs) {B : Nat} {cs : Array Value} {T : TypeId} (hB : Blk w B cs T) (hT : T ≠ e) : B ≠ g :=
  fun h => own_ne hr hB hT (by rw [h]; rfl)
theorem Try.isfrom (g n cap q : Nat) (hq : q ≤ n) (hc : q < cap) (w : World) : (Instr.sliceAt 22 (.slice (some ⟨g, 0, none⟩) n cap) (some (.int .i64 q)) none none).run Try.prog w = .ok (.slice (some ⟨g, q, none⟩) (n - q) (cap - q)) w := by
  have he : Try.prog.elem 22 = 3 := by kernel_rfl
  have hu : Try.prog.underlying 22 = some (.slice (Try.prog.elem 22)) := by rw [he]; exact Try.underlying22
  have hs : (sizeOf 3).run Try.prog w = .ok 1 w := by kernel_rfl
  rw [run_sliceAt_slice w 22 _ _ _ _ hu, run_slice_l w 22 (some ⟨g, 0, none⟩) n cap hu .i64 q (by omega) (by omega), he]
  simp [hs, Result.andThen, sliced, show ¬ cap = q by omega, add_flat]
set_option maxHeartbeats 2000000 in
set_option maxRecDepth 100000 in
theorem parityIn_any (W H : Nat) (L : List Int) (w : World) (hW : 1 ≤ W) (hW3 : W ≤ 3) (hH : 1 ≤ H) (hH3 : H ≤ 3) (hl : L.length = nn W H) (hA : hasAll L = true) : Calls Try.prog 62 #[.agg (lv W H L)] w (Ret (.int .i64 (parN W L)) w) := by
  have gg := Gr.refl w
  have h9 : nn W H ≤ 9 := Nat.mul_le_mul hW3 hH3
  have hn1 : 1 ≤ nn W H := Nat.mul_pos hW hH
  obtain ⟨n, hn⟩ : ∃ n, n = nn W H := ⟨_, rfl⟩
  have hln : L.length = n := by rw [hl, hn]
  have h0 := zero_in hA (by omega)
  have hPl := (hI_spec h0).1
  obtain ⟨P, hP⟩ : ∃ P, P = hI L := ⟨_, rfl⟩
  rw [← hP, hln] at hPl
  have HALL := hidI (show out L n = prA L from by rw [← hln]; exact out_all hA (by omega))
  have HBL := hidI (show L.set P (n : Int) = bigL L from by unfold bigL; rw [← hP, hln])
  have HBn := hidI (show (bigL L).length = n from by rw [bigL_length, hln])
  have HL := hidI hln
  have HLW := hidI hl
  have HN := hidI hn
  have H0 := hidI h0
  have HP := hidI hP.symm
  have HOL := hidI (out_le L (by omega))
  have HIL := hidI (inn_le L)
  have h9n : nn W H ≤ 9 := h9
  rw [← hn] at h9 hn1
  have hst := stp_le (W := W) (i := P) (j := n - 1) (by omega) (by omega) hW hW3
  have HPAR := hidI (show parN W L = (stp W P (n - 1) + out L n) % 2 from by unfold parN; rw [HALL.out, hP, hln])
  rw [HPAR.out]
  obtain ⟨s0, hs0⟩ : ∃ s0, s0 = stp W P (n - 1) := ⟨_, rfl⟩
  rw [← hs0] at hst ⊢
  have HS0 := hidI hs0
  obtain ⟨N1, hN1⟩ : ∃ N1, N1 = n - 1 := ⟨_, rfl⟩
  have e2 : (n : Int) - 1 = (N1 : Int) := by omega
  have hN19 : N1 ≤ 9 := by omega
  rw [← hN1] at HS0
  clear hN1
  clear hn hln hl hA h0 hP hs0
  go_enter Try.func62, Try.ntmps62
  go_wp2_with (first | (refine r_box 52 _ (lv (W) (H) (L)) rfl rfl ?_; intro w1 B1 N1; have g1 := N1.gr; have b1 : Blk w1 B1 (lv (W) (H) (L)) 52 := N1.blk; have l1 := N1.lo; have t1 := N1.hi; have z1 := g1.size; have gg := gg.trans g1; clear N1; obtain ⟨b1_0, b1_1, b1_2⟩ := lcells b1) | (refine r_load_row 52 _ _ rfl _ _ _ b1 Try.underlying52 rfl (Try.linfo' _ _ _) rfl ?_) | (go_at_call 76; refine (cellsOf_any W H L _ h9n).mono ?_; rintro e w2 ⟨g2, B2, rfl, b2, l2⟩; have gg := gg.trans g2; have z2 := g2.size; have b1 := g2.blk b1))
  refine (cloneL_any B2 (nn W H) W H L _ b2 HLW.out.symm h9n).mono ?_
  rintro e w3 ⟨g3, v3, rfl, own3⟩
  have b1 := g3.blk b1
  have gg := gg.trans g3
  have z3 := g3.size
  rw [HL.out] at own3
  obtain ⟨g, cap, rfl, hgb, hcap⟩ := own_shape own3 hn1
  go_wp2_with (first | (refine r_load_row 52 _ _ rfl _ _ _ b1 Try.underlying52 rfl (Try.linfo' _ _ _) rfl ?_) | ((go_at_call 57; refine (holeIn_any W H L _ h9n HLW.out H0.out).mono ?_; rintro e w4 ⟨rfl, g4⟩; rw [HP.out]; have z4 := g4.size; have b1 := g4.blk b1; have gg := gg.trans g4); have own3 := g4.row own3) | (refine r_store_own 3 3 _ _ g P n cap _ (intsV L) rfl (.int .i64 (n : Int)) rfl own3 hPl Try.sizeOf3 rfl rfl ?_; intro w5 u5 own5; rw [intsV_set, HBL.out] at own5; have b1 := u5.blk b1 (own_neB own3 b1 (by decide)); have gg := u5.gr gg (by omega); have z5 := u5.size) | ((go_at_call 77; refine (steps_any W H L P N1 _ hW hW3 (by omega) hN19).mono ?_; rintro e w6 ⟨rfl, g6⟩; rw [← HS0.out]; have z6 := g6.size; have gg := gg.trans g6); have own6 := g6.row own5))
  have hcap' := hcap
  go_loopw [6, 7, 8, 10, 30] (fun cv _ _ _ iv wr => ∃ k : Nat, k ≤ n ∧ iv = .int .i64 k ∧ cv = .int .i64 ((s0 : Int) + (out L k : Nat)) ∧ wr.ownsRow w2.heap.size 3 1 (.slice (some ⟨g, 0, none⟩) n cap) n (intsV (bigL L)) ∧ Gr w wr) (fun _ _ _ _ iv _ => n - (intOf iv).toNat)
  case atStart => exact ⟨0, Nat.zero_le _, rfl, by go_num, own6, gg⟩
  case round =>
    obtain ⟨k, hk, rfl, rfl, own, gg⟩ := hrel
    have hol := HOL.out k
    by_cases hlt : k < n
    · have hc := own_int own k (by omega) HBn.out.symm
      have hsl := Try.isfrom g n cap k (by omega) (by omega)
      have HOS := hidI (show out L (k + 1) = out L k + inn L k (n - k) from by unfold out; rw [sumTo, HL.out])
      obtain ⟨x, hx⟩ : ∃ x, x = gi (bigL L) k := ⟨_, rfl⟩
      obtain ⟨c0, hc0⟩ : ∃ c0, c0 = out L k := ⟨_, rfl⟩
      obtain ⟨r, hr⟩ : ∃ r, r = n - k := ⟨_, rfl⟩
      rw [← hx] at hc
      rw [← hc0] at hol HOS ⊢
      rw [← hr] at hsl HOS
      have HX := hidI hx
      have hr9 : r ≤ 9 := by omega
      have HRK := hidI (show r + k = n by omega)
      clear hx hc0 hr
      go_wp2
      go_loop [6, 10, 39] (fun cv _ iv => ∃ j : Nat, j ≤ r ∧ iv = .int .i64 j ∧ cv = .int .i64 ((s0 : Int) + ((c0 : Int) + (inn L k j : Nat)))) (fun _ _ iv => r - (intOf iv).toNat)
      case atStart => exact ⟨0, Nat.zero_le _, rfl, by go_num⟩
      case round =>
        obtain ⟨j, hj, rfl, rfl⟩ := hrel
        have hil := HIL.out k j
        by_cases hjr : j < r
        · have hc2 := own_int own (k + j) (by have := HRK.out; omega) HBn.out.symm
          by_cases hb : gi (bigL L) (k + j) < gi (bigL L) k
          · have HIS := hidI (show inn L k (j + 1) = inn L k j + 1 from by unfold inn; rw [sumTo]; congr 1; unfold one; rw [if_pos (by simpa using hb)])
            rw [← HX.out] at hb
            go_wp2
            go_round
            case rel => exact ⟨j + 1, by omega, by go_num, by rw [HIS.out]; go_num⟩
            case measure => simp [intOf]; omega
          · have HIS := hidI (show inn L k (j + 1) = inn L k j from by unfold inn; rw [sumTo]; unfold one; rw [if_neg (by simpa using hb)]; rfl)
            rw [← HX.out] at hb
            go_wp2
            go_round
            case rel => exact ⟨j + 1, by omega, by go_num, by rw [HIS.out]⟩
            case measure => simp [intOf]; omega
        · obtain rfl : j = r := by omega
          clear hjr
          go_wp2
          go_roundw
          case rel => exact ⟨k + 1, by omega, by go_num, by rw [HOS.out]; go_num, own, gg⟩
          case measure => simp [intOf]; omega
    · obtain rfl : k = n := by omega
      have HOM := hidI (Int.natCast_emod (s0 + out L k) 2)
      clear hlt
      go_wp2
      go_ret
      refine ⟨ret_int ?_, gg⟩
      omega
set_option maxHeartbeats 400000 in
set_option maxRecDepth 100000 in
theorem iParityOf (z : Int) (L : List Int) (v : Value) (base : Nat) (w : World) (hown : w.ownsRow base 3 1 v L.length (intsV L)) (hl : L.length ≤ 1048576) :
    Calls Try.prog 28 #[.agg (bv z v)] w (Ret (.tuple #[.int .i64 (paV z L), .bool (bdOk z L)]) w) := by
  have gg := Gr.refl w
  have HOWN := hidI hown
  obtain ⟨p, m, q, rfl⟩ := own_slice hown
  clear hown
  rcases rdB_cases z L with ⟨h1, h2⟩ | ⟨W, H, rfl, h1, h2, hn, k1, k2, k3, k4, hA⟩
  · have HV := hidI h1
    have HR := hidI h2
    have HO := hidI (paV_bad h1)
    clear h1 h2
    go_enter Try.func28, Try.ntmps28
    go_wp2_with (first | (refine r_box 27 _ (bv (z) (.slice p m q)) rfl rfl ?_; intro w1 B1 N1; have g1 := N1.gr; have b1 : Blk w1 B1 (bv (z) (.slice p m q)) 27 := N1.blk; have l1 := N1.lo; have t1 := N1.hi; have z1 := g1.size; have gg := gg.trans g1; clear N1; obtain ⟨b1_0, b1_1⟩ := bcells b1) | (refine r_load_row 27 _ _ rfl _ _ _ b1 Try.underlying27 rfl Try.ibinfo rfl ?_) | (go_at_call 47; refine (readBoard_any z L _ base _ (gg.row HOWN.out) hl).mono ?_; rintro e w2 ⟨rfl, g2⟩; rw [HR.out, HV.out]; have z2 := g2.size; have gg := gg.trans g2) | (refine r_alloc 52 _ Try.lzero rfl ?_; intro w3 B3 N3; have g3 := N3.gr; have b3 : Blk w3 B3 (lv 0 0 []) 52 := N3.blk; have l3 := N3.lo; have t3 := N3.hi; have z3 := g3.size; have gg := gg.trans g3; clear N3; obtain ⟨b3_0, b3_1, b3_2⟩ := lcells b3) | (refine r_store_row 52 52 _ _ _ rfl (lv (0) (0) ([])) _ rfl b3 (Try.lsize' _ _ _) (by simp only [lv_size]) (lv_one _ _ _) rfl ?_; intro w4 u4 b3'; have z4 := u4.size; have gg := u4.gr gg (by omega); clear b3; have b3 := b3'; clear b3'; obtain ⟨b3_0, b3_1, b3_2⟩ := lcells b3))
    go_ret2
    exact ⟨fin_ib HO.out.symm HV.out.symm, gg⟩
  · have HV := hidI h1
    have HR := hidI h2
    have HO := hidI (paV_good h1)
    have HA := hidI hA
    have HN := hidI hn
    clear h1 h2 hn hA
    go_enter Try.func28, Try.ntmps28
    go_wp2_with (first | (refine r_box 27 _ (bv (W) (.slice p m q)) rfl rfl ?_; intro w1 B1 N1; have g1 := N1.gr; have b1 : Blk w1 B1 (bv (W) (.slice p m q)) 27 := N1.blk; have l1 := N1.lo; have t1 := N1.hi; have z1 := g1.size; have gg := gg.trans g1; clear N1; obtain ⟨b1_0, b1_1⟩ := bcells b1) | (refine r_load_row 27 _ _ rfl _ _ _ b1 Try.underlying27 rfl Try.ibinfo rfl ?_) | (go_at_call 47; refine (readBoard_any W L _ base _ (gg.row HOWN.out) hl).mono ?_; rintro e w2 ⟨rfl, g2⟩; rw [HR.out, HV.out]; have z2 := g2.size; have gg := gg.trans g2) | (refine r_alloc 52 _ Try.lzero rfl ?_; intro w3 B3 N3; have g3 := N3.gr; have b3 : Blk w3 B3 (lv 0 0 []) 52 := N3.blk; have l3 := N3.lo; have t3 := N3.hi; have z3 := g3.size; have gg := gg.trans g3; clear N3; obtain ⟨b3_0, b3_1, b3_2⟩ := lcells b3) | (refine r_store_row 52 52 _ _ _ rfl (lv (W) (H) (L)) _ rfl b3 (Try.lsize' _ _ _) (by simp only [lv_size]) (lv_one _ _ _) rfl ?_; intro w4 u4 b3'; have z4 := u4.size; have gg := u4.gr gg (by omega); clear b3; have b3 := b3'; clear b3'; obtain ⟨b3_0, b3_1, b3_2⟩ := lcells b3) | (refine r_load_row 52 _ _ rfl _ _ _ b3 Try.underlying52 rfl (Try.linfo' _ _ _) rfl ?_) | (go_at_call 62; refine (parityIn_any W H L _ k1 k2 k3 k4 HN.out HA.out).mono ?_; rintro e w5 ⟨rfl, g5⟩; have z5 := g5.size; have gg := gg.trans g5))
    go_ret2
    exact ⟨fin_ib HO.out.symm HV.out.symm, gg⟩
set_option maxHeartbeats 400000 in
theorem most_any (x y : Int) (w : World) : Calls Try.prog 83 #[.int .i64 x, .int .i64 y] w fun e w' => e = .returned (.int .i64 (if x > y then x else y)) ∧ w' = w := by
  by_cases h : x > y
  · have HV := hidI (if_pos h : (if x > y then x else y) = x)
    go_enter Try.func83, Try.ntmps83
    go_wp2
    go_ret
    exact ⟨ret_int (by first | rw [HV.out] | rfl | simp [h]), rfl⟩
  · have HV := hidI (if_neg h : (if x > y then x else y) = y)
    go_enter Try.func83, Try.ntmps83
    go_wp2
    go_ret
    exact ⟨ret_int (by first | rw [HV.out] | rfl | simp [h]), rfl⟩
set_option maxHeartbeats 400000 in
theorem abs_any (x : Int) (w : World) (h1 : -1000 ≤ x) (h2 : x ≤ 1000) : Calls Try.prog 91 #[.int .i64 x] w fun e w' => e = .returned (.int .i64 (x.natAbs : Nat)) ∧ w' = w := by
  have HV := hidI (show (if x > -x then x else -x) = (x.natAbs : Nat) by split <;> omega)
  go_enter Try.func91, Try.ntmps91
  go_wp2_with (go_at_call 83; refine (most_any _ _ _).mono ?_; rintro e wSame ⟨rfl, rfl⟩; rw [HV.out])
  go_ret
  exact ⟨rfl, rfl⟩
set_option maxHeartbeats 1000000 in
set_option maxRecDepth 100000 in
theorem blSteps_any (W : Nat) (v : Value) (i j : Nat) (w : World) (hW : 1 ≤ W) (hW3 : W ≤ 3) (hi : i ≤ 9) (hj : j ≤ 9) (hv : ∃ p n c, v = .slice p n c) : Calls Try.prog 75 #[.agg (bv W v), .int .i64 i, .int .i64 j] w (Ret (.int .i64 (stp W i j)) w) := by
  have gg := Gr.refl w
  obtain ⟨p, n, c, rfl⟩ := hv
  have hne : W ≠ 0 := by omega
  have a1 : i % W < W := Nat.mod_lt _ (by omega)
  have a2 : j % W < W := Nat.mod_lt _ (by omega)
  have a3 : i / W ≤ i := Nat.div_le_self _ _
  have a4 : j / W ≤ j := Nat.div_le_self _ _
  have HS := hidI (show stp W i j = (((i % W : Nat) : Int) - ((j % W : Nat) : Int)).natAbs + (((i / W : Nat) : Int) - ((j / W : Nat) : Int)).natAbs from rfl)
  have e1 := tmod_nat i W
  have e2 := tmod_nat j W
  have e3 := tdiv_nat i W
  have e4 := tdiv_nat j W
  generalize i % W = a at *
  generalize j % W = b at *
  generalize i / W = c' at *
  generalize j / W = d at *
  obtain ⟨x, hx⟩ : ∃ x : Int, x = (a : Int) - (b : Int) := ⟨_, rfl⟩
  obtain ⟨y, hy⟩ : ∃ y : Int, y = (c' : Int) - (d : Int) := ⟨_, rfl⟩
  rw [← hx, ← hy] at HS
  have hx1 : -1000 ≤ x ∧ x ≤ 1000 := by omega
  have hy1 : -1000 ≤ y ∧ y ≤ 1000 := by omega
  have ex := hx.symm
  have ey := hy.symm
  have nx : x.natAbs ≤ 1000 := by omega
  have ny : y.natAbs ≤ 1000 := by omega
  have HX := hidI (fun w => abs_any x w hx1.1 hx1.2)
  have HY := hidI (fun w => abs_any y w hy1.1 hy1.2)
  clear hx hy
  go_enter Try.func75, Try.ntmps75
  go_wp2_with (refine r_box 27 _ (bv (W) (.slice p n c)) rfl rfl ?_; intro w1 B1 N1; have g1 := N1.gr; have b1 : Blk w1 B1 (bv (W) (.slice p n c)) 27 := N1.blk; have l1 := N1.lo; have t1 := N1.hi; have z1 := g1.size; have gg := gg.trans g1; clear N1; obtain ⟨b1_0, b1_1⟩ := bcells b1)
  go_quiet ((go_at_call 91; first | exact Calls.quiet_of_same (HX.out _) | exact Calls.quiet_of_same (HY.out _)))
  go_wp2
  go_ret
  refine ⟨ret_int ?_, gg.drewN nq⟩
  rw [HS.out]
  omega
end Go.Proofs.Ytgibpcmjfnmkdaa
