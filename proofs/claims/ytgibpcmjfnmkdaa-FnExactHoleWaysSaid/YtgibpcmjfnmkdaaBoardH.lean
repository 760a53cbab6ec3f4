/-
  What can be solved: in the program and in the model; the law.
-/
import Derived.Test.YtgibpcmjfnmkdaaBoardG
namespace Go.Proofs.Ytgibpcmjfnmkdaa
open Go.RowKit
def csV (z : Int) (L : List Int) : Bool := bdOk z L && decide (parN z.toNat L = 0)
theorem csV_bad {z : Int} {L : List Int} (h : bdOk z L = false) : csV z L = false := by unfold csV; rw [h]; rfl
theorem csV_good {W : Nat} {L : List Int} (h : bdOk W L = true) : csV W L = decide (parN W L = 0) := by unfold csV; rw [h]; rfl
theorem fin_bb {a b x y : Bool} (h1 : a = b) (h2 : x = y) : Ending.returned (.tuple #[.bool a, .bool x]) = .returned (.tuple #[.bool b, .bool y]) := by rw [h1, h2]
theorem ordTo_iff {L : List Int} {k : Nat} : ordTo L k = true ↔ ∀ j, j < k → ∀ i, i < j → gi L j ≤ 0 ∨ gi L i ≤ gi L j := by
  unfold ordTo
  rw [List.all_eq_true]
  constructor
  · intro h j hj i hi
    have := h j (List.mem_range.2 hj)
    rw [List.all_eq_true] at this
    simpa using this i (List.mem_range.2 hi)
  · intro h j hj
    rw [List.all_eq_true]
    intro i hi
    simpa using h j (List.mem_range.1 hj) i (List.mem_range.1 hi)
theorem natz (n : Nat) : ((n : Int) == 0) = decide (n = 0) := by rw [Bool.eq_iff_iff]; simp
/-- What is known of the greatest number so far. -/
def lastOk (L : List Int) (k : Nat) (m : Int) : Prop := (∀ i, i < k → gi L i ≤ m) ∧ (m = 0 ∨ ∃ i, i < k ∧ gi L i = m) ∧ 0 ≤ m ∧ ∀ j, j < k → ∀ i, i < j → gi L j ≤ 0 ∨ gi L i ≤ gi L j
theorem lastOk_step {L : List Int} {k : Nat} {m : Int} (h : lastOk L k m) (hx : ¬ (0 < gi L k ∧ gi L k < m)) : lastOk L (k + 1) (if m > gi L k then m else gi L k) := by
  obtain ⟨h1, h2, h3, h4⟩ := h
  refine ⟨fun i hi => ?_, ?_, ?_, fun j hj i hi => ?_⟩
  · by_cases e : i = k
    · subst e; split <;> omega
    · have := h1 i (by omega)
      split <;> omega
  · split
    · rcases h2 with h2 | ⟨i, hi, e⟩
      · exact .inl h2
      · exact .inr ⟨i, by omega, e⟩
    · exact .inr ⟨k, by omega, rfl⟩
  · split <;> omega
  · by_cases e : j = k
    · subst e
      have := h1 i hi
      by_cases g : 0 < gi L j
      · right; omega
      · left; omega
    · exact h4 j (by omega) i hi
theorem lastOk_not {L : List Int} {k : Nat} {m : Int} (h : lastOk L k m) (hk : k < L.length) (hx : 0 < gi L k ∧ gi L k < m) : ordTo L L.length = false := by
  rw [← Bool.not_eq_true, ordTo_iff]
  intro ho
  obtain ⟨-, h2, -, -⟩ := h
  rcases h2 with h2 | ⟨i, hi, e⟩
  · omega
  · have := ho k hk i hi
    omega
theorem tdiv_pos' {W H n : Nat} (hn : n = nn W H) (hW : 1 ≤ W) : Int.tdiv (n : Int) (W : Int) = (H : Int) := by rw [hn, tdiv_nat, nn_div hW]
set_option maxHeartbeats 400000 in
set_option maxRecDepth 100000 in
theorem iCanSolve (z : Int) (L : List Int) (v : Value) (base : Nat) (w : World) (hown : w.ownsRow base 3 1 v L.length (intsV L)) (hl : L.length ≤ 1048576) :
    Calls Try.prog 30 #[.agg (bv z v)] w (Ret (.tuple #[.bool (csV z L), .bool (bdOk z L)]) w) := by
  have gg := Gr.refl w
  have HOWN := hidI hown
  obtain ⟨p, m, q, rfl⟩ := own_slice hown
  clear hown
  rcases rdB_cases z L with ⟨h1, h2⟩ | ⟨W, H, rfl, h1, h2, hn, k1, k2, k3, k4, hA⟩
  · have HV := hidI h1
    have HR := hidI h2
    have HO := hidI (csV_bad h1)
    clear h1 h2
    go_enter Try.func30, Try.ntmps30
    go_wp2_with (first | (refine r_box 27 _ (bv (z) (.slice p m q)) rfl rfl ?_; intro w1 B1 N1; have g1 := N1.gr; have b1 : Blk w1 B1 (bv (z) (.slice p m q)) 27 := N1.blk; have l1 := N1.lo; have t1 := N1.hi; have z1 := g1.size; have gg := gg.trans g1; clear N1; obtain ⟨b1_0, b1_1⟩ := bcells b1) | (refine r_load_row 27 _ _ rfl _ _ _ b1 Try.underlying27 rfl Try.ibinfo rfl ?_) | (go_at_call 47; refine (readBoard_any z L _ base _ (gg.row HOWN.out) hl).mono ?_; rintro e w2 ⟨rfl, g2⟩; rw [HR.out, HV.out]; have z2 := g2.size; have gg := gg.trans g2) | (refine r_alloc 52 _ Try.lzero rfl ?_; intro w3 B3 N3; have g3 := N3.gr; have b3 : Blk w3 B3 (lv 0 0 []) 52 := N3.blk; have l3 := N3.lo; have t3 := N3.hi; have z3 := g3.size; have gg := gg.trans g3; clear N3; obtain ⟨b3_0, b3_1, b3_2⟩ := lcells b3) | (refine r_store_row 52 52 _ _ _ rfl (lv (0) (0) ([])) _ rfl b3 (Try.lsize' _ _ _) (by simp only [lv_size]) (lv_one _ _ _) rfl ?_; intro w4 u4 b3'; have z4 := u4.size; have gg := u4.gr gg (by omega); clear b3; have b3 := b3'; clear b3'; obtain ⟨b3_0, b3_1, b3_2⟩ := lcells b3))
    go_ret2
    exact ⟨fin_bb HO.out.symm HV.out.symm, gg⟩
  · have HV := hidI h1
    have HR := hidI h2
    have HO := hidI (csV_good h1)
    have HA := hidI hA
    have HN := hidI hn
    obtain ⟨par, hpar⟩ : ∃ par, par = parN W L := ⟨_, rfl⟩
    have HPAR := hidI hpar
    rw [← hpar] at HO
    clear h1 h2 hn hA hpar
    go_enter Try.func30, Try.ntmps30
    go_wp2_with (first | (refine r_box 27 _ (bv (W) (.slice p m q)) rfl rfl ?_; intro w1 B1 N1; have g1 := N1.gr; have b1 : Blk w1 B1 (bv (W) (.slice p m q)) 27 := N1.blk; have l1 := N1.lo; have t1 := N1.hi; have z1 := g1.size; have gg := gg.trans g1; clear N1; obtain ⟨b1_0, b1_1⟩ := bcells b1) | (refine r_load_row 27 _ _ rfl _ _ _ b1 Try.underlying27 rfl Try.ibinfo rfl ?_) | (go_at_call 47; refine (readBoard_any W L _ base _ (gg.row HOWN.out) hl).mono ?_; rintro e w2 ⟨rfl, g2⟩; rw [HR.out, HV.out]; have z2 := g2.size; have gg := gg.trans g2) | (refine r_alloc 52 _ Try.lzero rfl ?_; intro w3 B3 N3; have g3 := N3.gr; have b3 : Blk w3 B3 (lv 0 0 []) 52 := N3.blk; have l3 := N3.lo; have t3 := N3.hi; have z3 := g3.size; have gg := gg.trans g3; clear N3; obtain ⟨b3_0, b3_1, b3_2⟩ := lcells b3) | (refine r_store_row 52 52 _ _ _ rfl (lv (W) (H) (L)) _ rfl b3 (Try.lsize' _ _ _) (by simp only [lv_size]) (lv_one _ _ _) rfl ?_; intro w4 u4 b3'; have z4 := u4.size; have gg := u4.gr gg (by omega); clear b3; have b3 := b3'; clear b3'; obtain ⟨b3_0, b3_1, b3_2⟩ := lcells b3) | (refine r_load_row 52 _ _ rfl _ _ _ b3 Try.underlying52 rfl (Try.linfo' _ _ _) rfl ?_) | (go_at_call 62; refine (parityIn_any W H L _ k1 k2 k3 k4 HN.out HA.out).mono ?_; rintro e w5 ⟨rfl, g5⟩; rw [← HPAR.out]; have z5 := g5.size; have gg := gg.trans g5))
    go_ret2
    refine ⟨fin_bb ?_ HV.out.symm, gg⟩
    rw [HO.out]
    exact natz par
set_option maxHeartbeats 1000000 in
set_option maxRecDepth 100000 in
theorem blCan_any (W H : Nat) (L : List Int) (v : Value) (base : Nat) (w : World) (hown : w.ownsRow base 3 1 v L.length (intsV L)) (hW : 1 ≤ W) (hW3 : W ≤ 3) (hH : 1 ≤ H) (hH3 : H ≤ 3) (hl : L.length = nn W H) (hA : hasAll L = true) :
    Calls Try.prog 63 #[.agg (bv W v)] w (Ret (.bool (decide (parN W L = 0))) w) := by
  have gg := Gr.refl w
  have h9 : nn W H ≤ 9 := Nat.mul_le_mul hW3 hH3
  have hn1 : 1 ≤ nn W H := Nat.mul_pos hW hH
  obtain ⟨n, hn⟩ : ∃ n, n = L.length := ⟨_, rfl⟩
  have hn9 : n ≤ 9 := by omega
  have hn1' : 1 ≤ n := by omega
  have e1 := tdiv_pos' (n := n) (W := W) (H := H) (by omega) hW
  have hne : W ≠ 0 := by omega
  have HOW := hidI hown
  have HL := hidI hl
  have HA := hidI hA
  have HN := hidI hn
  rw [← hn] at hown
  obtain ⟨g, cap, rfl, hgb, hcap⟩ := own_shape hown hn1'
  have HOWN := hidI hown
  by_cases h2 : 1 < W ∧ 1 < H
  · obtain ⟨h21, h22⟩ := h2
    obtain ⟨par, hpar⟩ : ∃ par, par = parN W L := ⟨_, rfl⟩
    have HPAR := hidI hpar
    rw [← hpar]
    clear hn hl hA hown hpar
    go_enter Try.func63, Try.ntmps63
    go_wp2_with (first | (refine r_box 27 _ (bv (W) (.slice (some ⟨g, 0, none⟩) n cap)) rfl rfl ?_; intro w1 B1 N1; have g1 := N1.gr; have b1 : Blk w1 B1 (bv (W) (.slice (some ⟨g, 0, none⟩) n cap)) 27 := N1.blk; have l1 := N1.lo; have t1 := N1.hi; have z1 := g1.size; have gg := gg.trans g1; clear N1; obtain ⟨b1_0, b1_1⟩ := bcells b1) | (refine r_load_row 27 _ _ rfl _ _ _ b1 Try.underlying27 rfl Try.ibinfo rfl ?_) | (go_at_call 61; refine (blParity_any W H L _ base _ (gg.row HOW.out) hW hW3 hH hH3 HL.out HA.out).mono ?_; rintro e w2 ⟨rfl, g2⟩; rw [← HPAR.out]; have z2 := g2.size; have gg := gg.trans g2))
    go_ret
    exact ⟨ret_bool (natz par), gg⟩
  · have HV := hidI (line_par hA hl hW hW3 hH hH3 (by omega))
    have hcase : W ≤ 1 ∨ (1 < W ∧ H ≤ 1) := by omega
    rw [HV.out]
    clear hn hl hA hown h2
    rcases hcase with h | ⟨h, h'⟩
    all_goals
      go_enter Try.func63, Try.ntmps63
      go_wp2_with (refine r_box 27 _ (bv (W) (.slice (some ⟨g, 0, none⟩) n cap)) rfl rfl ?_; intro w1 B1 N1; have g1 := N1.gr; have b1 : Blk w1 B1 (bv (W) (.slice (some ⟨g, 0, none⟩) n cap)) 27 := N1.blk; have l1 := N1.lo; have t1 := N1.hi; have z1 := g1.size; have gg := gg.trans g1; clear N1; obtain ⟨b1_0, b1_1⟩ := bcells b1)
      go_loopw [4, 6, 26] (fun mv _ iv wr => ∃ (k : Nat) (m : Int), k ≤ n ∧ iv = .int .i64 k ∧ mv = .int .i64 m ∧ Gr w wr ∧ Hid (lastOk L k m)) (fun _ _ iv _ => n - (intOf iv).toNat)
      case atStart => exact ⟨0, 0, Nat.zero_le _, rfl, rfl, gg, fun i hi => by omega, .inl rfl, Int.le_refl _, fun j hj => by omega⟩
      case round =>
        obtain ⟨k, m, hk, rfl, rfl, gg, HM⟩ := hrel
        by_cases hlt : k < n
        · have hc := own_int (gg.row HOWN.out) k hlt HN.out
          obtain ⟨x, hx⟩ : ∃ x, x = gi L k := ⟨_, rfl⟩
          rw [← hx] at hc
          have HX := hidI hx
          by_cases hb : 0 < x ∧ x < m
          · have HF := hidI (lastOk_not HM.out (by rw [← HN.out]; exact hlt) (by rw [← hx]; exact hb))
            obtain ⟨hb1, hb2⟩ := hb
            clear hx
            go_wp2
            go_ret
            exact ⟨ret_bool (by rw [HF.out] <;> (first | rfl | (simp; done) | (simp; omega))), gg⟩
          · have HS := hidI (lastOk_step HM.out (by rw [← hx]; exact hb))
            have hbc : x ≤ 0 ∨ (0 < x ∧ m ≤ x) := by omega
            clear hx hb
            rcases hbc with hb | ⟨hb, hb2⟩
            all_goals
              go_wp2_with (go_at_call 83; refine (most_any _ _ _).mono ?_; rintro e wSame ⟨rfl, rfl⟩)
              go_roundw
              case rel => exact ⟨k + 1, _, by omega, by go_num, by rw [HX.out], gg, HS.out⟩
              case measure => simp [intOf]; omega
        · obtain rfl : k = n := by omega
          have HF := hidI (show ordTo L L.length = true from ordTo_iff.2 (by rw [← HN.out]; exact HM.out.2.2.2))
          clear hlt
          go_wp2
          go_ret
          exact ⟨ret_bool (by rw [HF.out] <;> (first | rfl | (simp; done) | (simp; omega))), gg⟩
set_option maxHeartbeats 400000 in
set_option maxRecDepth 100000 in
theorem sCanSolve (z : Int) (L : List Int) (v : Value) (base : Nat) (w : World) (hown : w.ownsRow base 3 1 v L.length (intsV L)) (hl : L.length ≤ 1048576) :
    Calls Try.prog 29 #[.agg (bv z v)] w (Ret (.tuple #[.bool (csV z L), .bool (bdOk z L)]) w) := by
  have gg := Gr.refl w
  have HOWN := hidI hown
  obtain ⟨p, m, q, rfl⟩ := own_slice hown
  clear hown
  rcases rdB_cases z L with ⟨h1, h2⟩ | ⟨W, H, rfl, h1, h2, hn, k1, k2, k3, k4, hA⟩
  · have HV := hidI h1
    have HO := hidI (csV_bad h1)
    clear h1 h2
    go_enter Try.func29, Try.ntmps29
    go_wp2_with (first | (refine r_box 27 _ (bv (z) (.slice p m q)) rfl rfl ?_; intro w1 B1 N1; have g1 := N1.gr; have b1 : Blk w1 B1 (bv (z) (.slice p m q)) 27 := N1.blk; have l1 := N1.lo; have t1 := N1.hi; have z1 := g1.size; have gg := gg.trans g1; clear N1; obtain ⟨b1_0, b1_1⟩ := bcells b1) | (refine r_load_row 27 _ _ rfl _ _ _ b1 Try.underlying27 rfl Try.ibinfo rfl ?_) | (go_at_call 45; refine (blGood_any z L _ base _ (gg.row HOWN.out) hl).mono ?_; rintro e w2 ⟨rfl, g2⟩; rw [HV.out]; have z2 := g2.size; have gg := gg.trans g2))
    go_ret2
    exact ⟨fin_bb HO.out.symm HV.out.symm, gg⟩
  · have HV := hidI h1
    have HO := hidI (csV_good h1)
    have HA := hidI hA
    have HN := hidI hn
    obtain ⟨can, hcan⟩ : ∃ can, can = decide (parN W L = 0) := ⟨_, rfl⟩
    have HCAN := hidI hcan
    rw [← hcan] at HO
    clear h1 h2 hn hA hcan
    go_enter Try.func29, Try.ntmps29
    go_wp2_with (first | (refine r_box 27 _ (bv (W) (.slice p m q)) rfl rfl ?_; intro w1 B1 N1; have g1 := N1.gr; have b1 : Blk w1 B1 (bv (W) (.slice p m q)) 27 := N1.blk; have l1 := N1.lo; have t1 := N1.hi; have z1 := g1.size; have gg := gg.trans g1; clear N1; obtain ⟨b1_0, b1_1⟩ := bcells b1) | (refine r_load_row 27 _ _ rfl _ _ _ b1 Try.underlying27 rfl Try.ibinfo rfl ?_) | (go_at_call 45; refine (blGood_any W L _ base _ (gg.row HOWN.out) hl).mono ?_; rintro e w2 ⟨rfl, g2⟩; rw [HV.out]; have z2 := g2.size; have b1 := g2.blk b1; have gg := gg.trans g2) | (go_at_call 63; refine (blCan_any W H L _ base _ (gg.row HOWN.out) k1 k2 k3 k4 HN.out HA.out).mono ?_; rintro e w3 ⟨rfl, g3⟩; rw [← HCAN.out]; have z3 := g3.size; have gg := gg.trans g3))
    go_ret2
    exact ⟨fin_bb HO.out.symm HV.out.symm, gg⟩
set_option maxHeartbeats 1000000 in
set_option maxRecDepth 100000 in
theorem lawCanSolve (z : Int) (v : Value) (L : List Int) (w : World) (hs : Sl w v L) (hbig : L.length ≤ 9223372036854775807) : Calls Try.prog 8 #[.agg (bv z v)] w (Ret (.bool true) w) := by
  have gg := Gr.refl w
  obtain ⟨p, c, rfl, hr⟩ := hs
  by_cases hl : 1048576 < L.length
  · have HZ := hidI (show szR L.length = -1 from if_pos hl)
    go_enter Try.func8, Try.ntmps8
    go_wp2_with (first | (refine r_box 24 _ (bv (z) (.slice p L.length c)) rfl rfl ?_; intro w1 B1 N1; have g1 := N1.gr; have b1 : Blk w1 B1 (bv (z) (.slice p L.length c)) 24 := N1.blk; have l1 := N1.lo; have t1 := N1.hi; have z1 := g1.size; have gg := gg.trans g1; clear N1; obtain ⟨b1_0, b1_1⟩ := bcells b1) | (refine r_load_row 24 _ _ rfl _ _ _ b1 Try.underlying24 rfl Try.lbinfo rfl ?_) | (go_at_call 14; refine (szBoard_any z p L.length c _ hbig).mono ?_; rintro e w2 ⟨rfl, g2⟩; rw [HZ.out]; have z2 := g2.size; have gg := gg.trans g2))
    go_ret
    exact ⟨rfl, gg⟩
  · have hl : L.length ≤ 1048576 := by omega
    have HZ := hidI (show szR L.length = 1048576 - (L.length : Int) from if_neg (by omega))
    have HR := hidI hr
    obtain ⟨ok, hok⟩ : ∃ ok, ok = bdOk z L := ⟨_, rfl⟩
    obtain ⟨val, hval⟩ : ∃ val, val = csV z L := ⟨_, rfl⟩
    have HOK := hidI hok
    have HVAL := hidI hval
    clear hr hok hval
    go_enter Try.func8, Try.ntmps8
    go_wp2_with (first | (refine r_box 24 _ (bv (z) (.slice p L.length c)) rfl rfl ?_; intro w1 B1 N1; have g1 := N1.gr; have b1 : Blk w1 B1 (bv (z) (.slice p L.length c)) 24 := N1.blk; have l1 := N1.lo; have t1 := N1.hi; have z1 := g1.size; have gg := gg.trans g1; clear N1; obtain ⟨b1_0, b1_1⟩ := bcells b1) | (refine r_load_row 24 _ _ rfl _ _ _ b1 Try.underlying24 rfl Try.lbinfo rfl ?_) | (go_at_call 14; refine (szBoard_any z p L.length c _ hbig).mono ?_; rintro e w2 ⟨rfl, g2⟩; rw [HZ.out]; have z2 := g2.size; have b1 := g2.blk b1; have gg := gg.trans g2))
    refine (toBoard_any z p c L _ (HR.out.gr gg) hl).mono ?_
    rintro e w3 ⟨g3, v3, rfl, own3⟩
    have b1 := g3.blk b1
    have z3 := g3.size
    have gg := gg.trans g3
    go_wp2_with (first | (go_at_call 29; refine (sCanSolve z L v3 _ _ own3 hl).mono ?_; rintro e w4 ⟨rfl, g4⟩; rw [← HOK.out, ← HVAL.out]; have z4 := g4.size; have b1 := g4.blk b1; have gg := gg.trans g4) | (refine r_load_row 24 _ _ rfl _ _ _ b1 Try.underlying24 rfl Try.lbinfo rfl ?_))
    refine (toBoard_any z p c L _ (HR.out.gr gg) hl).mono ?_
    rintro e w5 ⟨g5, v5, rfl, own5⟩
    have b1 := g5.blk b1
    have z5 := g5.size
    have gg := gg.trans g5
    have hone := own_one own5
    go_wp2_with (first | ((refine r_alloc 27 _ Try.ibzero rfl ?_; intro w5 B5 N5; have g5 := N5.gr; have b5 : Blk w5 B5 (bv 0 (.slice none 0 0)) 27 := N5.blk; have l5 := N5.lo; have t5 := N5.hi; have z5 := g5.size; have b1 := g5.blk b1; have gg := gg.trans g5; clear N5; obtain ⟨b5_0, b5_1⟩ := bcells b5); have own5 := g5.row own5) | (have hne5 := own_ne own5 b5 (by decide); (refine r_store_row 27 27 _ _ _ rfl (bv (z) (v5)) _ rfl b5 Try.ibsize rfl (bv_one (hone)) rfl ?_; intro w6 u6 b5'; have z6 := u6.size; have gg := u6.gr gg (by omega); have b1 := u6.blk b1 (by omega); clear b5; have b5 := b5'; clear b5'; obtain ⟨b5_0, b5_1⟩ := bcells b5); have own5 := u6.row own5 hne5) | (refine r_load_row 27 _ _ rfl _ _ _ b5 Try.underlying27 rfl Try.ibinfo rfl ?_) | ((go_at_call 30; refine (iCanSolve z L v5 _ _ own5 hl).mono ?_; rintro e w7 ⟨rfl, g7⟩; rw [← HOK.out, ← HVAL.out]; have z7 := g7.size; have b1 := g7.blk b1; have b5 := g7.blk b5; have gg := gg.trans g7); have own5 := g7.row own5))
    refine F_begin (fun w => Blk w B5 (bv z v5) 27) 3 5 #[false, false, false, false, false] rfl (by kernel_rfl) (by kernel_rfl) ?_
    have gd := (Gr.refl w7).drew
    have b1 := gd.blk b1
    have b5 := gd.blk b5
    have own5 := gd.row own5
    have gg := gg.trans gd
    have zd := gd.size
    generalize (w7).drew = wd at *
    refine F_take (v := .agg (bv z v5)) 0 #[true, false, false, false, false] rfl (by kernel_rfl) (fun _ _ _ h => h) rfl (fun w hF => e_load_row 27 (.tmp 6) _ _ _ _ rfl hF Try.underlying27 rfl Try.ibinfo) (b5) ?_; simp only [Act.put, List.setIfInBounds_toArray, List.set_cons_succ, List.set_cons_zero]
    refine F_one 1 #[true, true, false, false, false] rfl (by kernel_rfl) ?_
    (refine r_load_row 24 _ _ rfl _ _ _ b1 Try.underlying24 rfl Try.lbinfo rfl ?_)
    refine ⟨fun _ => b5, ?_⟩
    simp only [Act.put, List.setIfInBounds_toArray, List.set_cons_succ, List.set_cons_zero]
    refine F_one 2 #[true, true, true, false, false] rfl (by kernel_rfl) ?_
    refine r_callx 16 [.tmp 36] _ [.agg (bv z (.slice p L.length c))] (fun v w' => Gr wd w' ∧ ∃ u, v = .agg (bv z u) ∧ w'.ownsRow wd.heap.size 3 1 u L.length (intsV L)) Try.call16 rfl rfl ((toBoard_any z p c L _ (HR.out.gr gg) hl).mono fun e w' h => by obtain ⟨g, v, h1, h2⟩ := h; exact ⟨_, h1, g, v, rfl, h2⟩) ?_
    rintro _ w8 ⟨g8, v8, rfl, own8⟩
    have b5 := g8.blk b5
    have own5 := g8.row own5
    have gg := gg.trans g8
    refine ⟨fun _ => b5, ?_⟩
    simp only [Act.put, List.setIfInBounds_toArray, List.set_cons_succ, List.set_cons_zero]
    refine F_one 3 #[true, true, true, true, false] rfl (by kernel_rfl) ?_
    refine r_call 18 [.tmp 35, .tmp 37] _ [.agg (bv z v5), .agg (bv z v8)] (.bool true) (fun w' => Gr w8 w') Try.call18 rfl rfl (eqBoard_same z L v5 v8 _ _ w8 own5 own8 hl) ?_
    intro w9 g9
    have gg := gg.trans g9
    refine ⟨fun h => (by cases h), ?_⟩
    simp only [Act.put, List.setIfInBounds_toArray, List.set_cons_succ, List.set_cons_zero]
    refine F_one 4 #[true, true, true, true, true] rfl (by kernel_rfl) ?_
    refine r_val (.bool false) rfl rfl ?_
    refine ⟨fun h => (by cases h), ?_⟩
    simp only [Act.put, List.setIfInBounds_toArray, List.set_cons_succ, List.set_cons_zero]
    refine F_done (by kernel_rfl) ?_
    go_wp2
    go_ret
    exact ⟨rfl, gg⟩
end Go.Proofs.Ytgibpcmjfnmkdaa
