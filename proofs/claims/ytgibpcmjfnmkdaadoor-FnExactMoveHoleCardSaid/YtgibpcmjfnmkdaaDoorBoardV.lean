/-
  The directions in which the hole can move: in the program and in the model; the law.
-/
import Derived.Test.YtgibpcmjfnmkdaaDoorBoardM
import Derived.Test.YtgibpcmjfnmkdaaDoorBoardN
import Derived.Test.YtgibpcmjfnmkdaaDoorDirs
namespace Go.Proofs.YtgibpcmjfnmkdaaDoor
open Go.RowKit
/-- The first k directions in which the hole can move. -/
def hwL (W H P : Nat) : Nat → List UInt8
  | 0 => []
  | k + 1 => if (ahd W H P k).isSome = true then hwL W H P k ++ [dB k] else hwL W H P k
theorem hwL_length (W H P : Nat) (k : Nat) : (hwL W H P k).length ≤ k := by
  induction k with
  | zero => exact Nat.le_refl _
  | succ k ih => unfold hwL; split <;> (try rw [List.length_append, List.length_singleton]) <;> omega
def hwV (z : Int) (L : List Int) : ByteArray := if bdOk z L = true then mkS (hwL z.toNat (L.length / z.toNat) (hI L) 4) else ⟨#[]⟩
theorem hw_bad {z : Int} {L : List Int} (h : bdOk z L = false) : hwV z L = ⟨#[]⟩ := by unfold hwV; rw [h]; rfl
theorem hw_good {W H : Nat} {L : List Int} (h : bdOk W L = true) (hl : L.length = nn W H) (hW : 1 ≤ W) : hwV W L = mkS (hwL W H (hI L) 4) := by
  unfold hwV
  rw [if_pos h, Int.toNat_natCast, hl, nn_div hW]
theorem fin_sb' {a b : ByteArray} {x y : Bool} (h1 : a = b) (h2 : x = y) : Ending.returned (.tuple #[.string a, .bool x]) = .returned (.tuple #[.string b, .bool y]) := by rw [h1, h2]
theorem dI_dB {k : Nat} (h : k < 4) : (dI (dB k)).toNat = k := by
  rcases dB_cases h with ⟨rfl, e⟩ | ⟨rfl, e⟩ | ⟨rfl, e⟩ | ⟨rfl, e⟩ <;> rfl
def ahI (W H P d : Nat) : Int := match ahd W H P d with | none => -1 | some q => (q : Nat)
theorem ahI_none {W H P d : Nat} (h : ahd W H P d = none) : ahI W H P d = -1 := by unfold ahI; rw [h]
theorem ahI_some {W H P d q : Nat} (h : ahd W H P d = some q) : ahI W H P d = (q : Nat) := by unfold ahI; rw [h]
set_option maxHeartbeats 1000000 in
set_option maxRecDepth 100000 in
theorem ahead_u (W H : Nat) (L : List Int) (v : Value) (base : Nat) (w : World) (hown : w.ownsRow base 3 1 v L.length (intsV L)) (hW : 1 ≤ W) (hW3 : W ≤ 3) (hH3 : H ≤ 3) (hl : L.length = nn W H) (h0 : (0 : Int) ∈ L) :
    Calls Tryd.prog 30 #[.agg (bv W v), .int .i64 0] w (Ret (.int .i64 (ahI W H (hI L) 0)) w) := by
  have gg := Gr.refl w
  have h9 : nn W H ≤ 9 := Nat.mul_le_mul hW3 hH3
  have hPl := (hI_spec h0).1
  obtain ⟨P, hP⟩ : ∃ P, P = hI L := ⟨_, rfl⟩
  rw [hl, ← hP] at hPl
  obtain ⟨x, y, hPe, e1, e3, hx, hy, ⟨c0, c0'⟩, ⟨c1, c1'⟩, ⟨c2, c2'⟩, ⟨c3, c3'⟩⟩ := ahd_cases (H := H) hW hPl
  have e1 : Int.tmod (P : Int) (W : Int) = (x : Int) := by rw [tmod_nat, e1]
  have e3 : Int.tdiv (P : Int) (W : Int) = (y : Int) := by rw [tdiv_nat, e3]
  have hne' : W ≠ 0 := by omega
  obtain ⟨n, hn⟩ : ∃ n, n = L.length := ⟨_, rfl⟩
  have e5 : Int.tdiv (n : Int) (W : Int) = (H : Int) := tdiv_pos' (by omega) hW
  have hlm : L.length ≤ 1048576 := by omega
  have hn9 : n ≤ 9 := by omega
  have HOW := hidI hown
  have H0 := hidI h0
  have HP := hidI hP.symm
  obtain ⟨p, m0, q0, rfl⟩ := own_slice hown
  obtain rfl := own_len hown
  rw [← hn]
  rw [← hn] at HOW
  have HN := hidI hn
  clear hl h0 hown hn
  by_cases hh : y = 0
  · subst hh
    have hn : ahd W H P 0 = none := c0 rfl
    have HV := hidI (show ahI W H (hI L) 0 = -1 from by rw [← hP]; exact ahI_none hn)
    have HX := hidI (show btw ((x : Int)) 0 ((W : Int) - 1) = true from by unfold btw; simp <;> omega)
    have HY := hidI (show btw ((-1 : Int)) 0 ((H : Int) - 1) = false from by unfold btw; simp <;> omega)
    clear c0 c0' c1 c1' c2 c2' c3 c3' hn hPe
    clear hP
    go_enter Tryd.func30, Tryd.ntmps30
    go_wp2_with (first | (refine r_box 26 _ (bv (W) (.slice p n q0)) rfl rfl ?_; intro w1 B1 N1; have g1 := N1.gr; have b1 : Blk w1 B1 (bv (W) (.slice p n q0)) 26 := N1.blk; have l1 := N1.lo; have t1 := N1.hi; have z1 := g1.size; have gg := gg.trans g1; clear N1; obtain ⟨b1_0, b1_1⟩ := bcells b1) | (refine r_load_row 26 _ _ rfl _ _ _ b1 Tryd.underlying26 rfl Tryd.ibinfo rfl ?_) | (go_at_call 50; refine (blHole_any W L _ base _ (by have h := gg.row HOW.out; rw [HN.out] at h ⊢; exact h) hlm H0.out).mono ?_; rintro e w3 ⟨rfl, g3⟩; rw [HP.out]; have z3 := g3.size; have b1 := g3.blk b1; obtain ⟨b1_0, b1_1⟩ := bcells b1; have gg := gg.trans g3))
    go_quiet (fail)
    have gq9 := (Gr.refl w3).drewN nq; have b1 := gq9.blk b1; obtain ⟨b1_0, b1_1⟩ := bcells b1; have gg := gg.trans gq9; have zq9 := gq9.size; generalize w3.drewN nq = w9 at *; clear gq9
    go_wp2_with (go_at_call 48; refine (l1In_any _ _ _ _).mono ?_; rintro e wSame ⟨rfl, rfl⟩; first | rw [HX.out] | rw [HY.out])
    go_ret
    exact ⟨ret_int HV.out.symm, gg⟩
  · obtain ⟨Y, rfl⟩ : ∃ Y, y = Y + 1 := ⟨y - 1, by omega⟩
    obtain ⟨q, hq⟩ : ∃ q, q = nn W Y + x := ⟨_, rfl⟩
    have hn : ahd W H P 0 = some q := by rw [hq]; exact c0' Y rfl
    have HV := hidI (show ahI W H (hI L) 0 = (q : Nat) from by rw [← hP]; exact ahI_some hn)
    have HX := hidI (show btw ((x : Int)) 0 ((W : Int) - 1) = true from by unfold btw; simp <;> omega)
    have HY := hidI (show btw ((Y : Int)) 0 ((H : Int) - 1) = true from by unfold btw; simp <;> omega)
    have hql := (ahd_lt hW hPl hn).1
    obtain ⟨m, hm⟩ : ∃ m, m = nn W Y := ⟨_, rfl⟩
    have e4 : (Y : Int) * (W : Int) = (m : Int) := by rw [hm, nn_int, Int.mul_comm] <;> rfl
    have HQE := hidI (show (q : Int) = (m : Int) + (x : Int) by omega)
    have hm9 : m ≤ 9 := by omega
    clear c0 c0' c1 c1' c2 c2' c3 c3' hn hPe hm hq
    clear hP
    go_enter Tryd.func30, Tryd.ntmps30
    go_wp2_with (first | (refine r_box 26 _ (bv (W) (.slice p n q0)) rfl rfl ?_; intro w1 B1 N1; have g1 := N1.gr; have b1 : Blk w1 B1 (bv (W) (.slice p n q0)) 26 := N1.blk; have l1 := N1.lo; have t1 := N1.hi; have z1 := g1.size; have gg := gg.trans g1; clear N1; obtain ⟨b1_0, b1_1⟩ := bcells b1) | (refine r_load_row 26 _ _ rfl _ _ _ b1 Tryd.underlying26 rfl Tryd.ibinfo rfl ?_) | (go_at_call 50; refine (blHole_any W L _ base _ (by have h := gg.row HOW.out; rw [HN.out] at h ⊢; exact h) hlm H0.out).mono ?_; rintro e w3 ⟨rfl, g3⟩; rw [HP.out]; have z3 := g3.size; have b1 := g3.blk b1; obtain ⟨b1_0, b1_1⟩ := bcells b1; have gg := gg.trans g3))
    go_quiet (fail)
    have gq9 := (Gr.refl w3).drewN nq; have b1 := gq9.blk b1; obtain ⟨b1_0, b1_1⟩ := bcells b1; have gg := gg.trans gq9; have zq9 := gq9.size; generalize w3.drewN nq = w9 at *; clear gq9
    go_wp2_with (go_at_call 48; refine (l1In_any _ _ _ _).mono ?_; rintro e wSame ⟨rfl, rfl⟩; first | rw [HX.out] | rw [HY.out])
    go_ret
    exact ⟨ret_int (by rw [HV.out, HQE.out]), gg⟩
set_option maxHeartbeats 1000000 in
set_option maxRecDepth 100000 in
theorem ahead_r (W H : Nat) (L : List Int) (v : Value) (base : Nat) (w : World) (hown : w.ownsRow base 3 1 v L.length (intsV L)) (hW : 1 ≤ W) (hW3 : W ≤ 3) (hH3 : H ≤ 3) (hl : L.length = nn W H) (h0 : (0 : Int) ∈ L) :
    Calls Tryd.prog 30 #[.agg (bv W v), .int .i64 1] w (Ret (.int .i64 (ahI W H (hI L) 1)) w) := by
  have gg := Gr.refl w
  have h9 : nn W H ≤ 9 := Nat.mul_le_mul hW3 hH3
  have hPl := (hI_spec h0).1
  obtain ⟨P, hP⟩ : ∃ P, P = hI L := ⟨_, rfl⟩
  rw [hl, ← hP] at hPl
  obtain ⟨x, y, hPe, e1, e3, hx, hy, ⟨c0, c0'⟩, ⟨c1, c1'⟩, ⟨c2, c2'⟩, ⟨c3, c3'⟩⟩ := ahd_cases (H := H) hW hPl
  have e1 : Int.tmod (P : Int) (W : Int) = (x : Int) := by rw [tmod_nat, e1]
  have e3 : Int.tdiv (P : Int) (W : Int) = (y : Int) := by rw [tdiv_nat, e3]
  have hne' : W ≠ 0 := by omega
  obtain ⟨n, hn⟩ : ∃ n, n = L.length := ⟨_, rfl⟩
  have e5 : Int.tdiv (n : Int) (W : Int) = (H : Int) := tdiv_pos' (by omega) hW
  have hlm : L.length ≤ 1048576 := by omega
  have hn9 : n ≤ 9 := by omega
  have HOW := hidI hown
  have H0 := hidI h0
  have HP := hidI hP.symm
  obtain ⟨p, m0, q0, rfl⟩ := own_slice hown
  obtain rfl := own_len hown
  rw [← hn]
  rw [← hn] at HOW
  have HN := hidI hn
  clear hl h0 hown hn
  by_cases hh : ¬ x + 1 < W
  · skip
    have hn : ahd W H P 1 = none := c1 hh
    have HV := hidI (show ahI W H (hI L) 1 = -1 from by rw [← hP]; exact ahI_none hn)
    have HX := hidI (show btw ((x : Int) + 1) 0 ((W : Int) - 1) = false from by unfold btw; simp <;> omega)
    have HY := hidI (show btw (y : Int) 0 ((H : Int) - 1) = true from by unfold btw; simp <;> omega)
    clear c0 c0' c1 c1' c2 c2' c3 c3' hn hPe
    clear hP
    go_enter Tryd.func30, Tryd.ntmps30
    go_wp2_with (first | (refine r_box 26 _ (bv (W) (.slice p n q0)) rfl rfl ?_; intro w1 B1 N1; have g1 := N1.gr; have b1 : Blk w1 B1 (bv (W) (.slice p n q0)) 26 := N1.blk; have l1 := N1.lo; have t1 := N1.hi; have z1 := g1.size; have gg := gg.trans g1; clear N1; obtain ⟨b1_0, b1_1⟩ := bcells b1) | (refine r_load_row 26 _ _ rfl _ _ _ b1 Tryd.underlying26 rfl Tryd.ibinfo rfl ?_) | (go_at_call 50; refine (blHole_any W L _ base _ (by have h := gg.row HOW.out; rw [HN.out] at h ⊢; exact h) hlm H0.out).mono ?_; rintro e w3 ⟨rfl, g3⟩; rw [HP.out]; have z3 := g3.size; have b1 := g3.blk b1; obtain ⟨b1_0, b1_1⟩ := bcells b1; have gg := gg.trans g3))
    go_quiet (fail)
    have gq9 := (Gr.refl w3).drewN nq; have b1 := gq9.blk b1; obtain ⟨b1_0, b1_1⟩ := bcells b1; have gg := gg.trans gq9; have zq9 := gq9.size; generalize w3.drewN nq = w9 at *; clear gq9
    go_wp2_with (go_at_call 48; refine (l1In_any _ _ _ _).mono ?_; rintro e wSame ⟨rfl, rfl⟩; first | rw [HX.out] | rw [HY.out])
    go_ret
    exact ⟨ret_int HV.out.symm, gg⟩
  · skip
    obtain ⟨q, hq⟩ : ∃ q, q = nn W y + (x + 1) := ⟨_, rfl⟩
    have hn : ahd W H P 1 = some q := by rw [hq]; exact c1' (by omega)
    have HV := hidI (show ahI W H (hI L) 1 = (q : Nat) from by rw [← hP]; exact ahI_some hn)
    have HX := hidI (show btw ((x : Int) + 1) 0 ((W : Int) - 1) = true from by unfold btw; simp <;> omega)
    have HY := hidI (show btw (y : Int) 0 ((H : Int) - 1) = true from by unfold btw; simp <;> omega)
    have hql := (ahd_lt hW hPl hn).1
    obtain ⟨m, hm⟩ : ∃ m, m = nn W y := ⟨_, rfl⟩
    have e4 : (y : Int) * (W : Int) = (m : Int) := by rw [hm, nn_int, Int.mul_comm] <;> rfl
    have HQE := hidI (show (q : Int) = (m : Int) + ((x : Int) + 1) by omega)
    have hm9 : m ≤ 9 := by omega
    clear c0 c0' c1 c1' c2 c2' c3 c3' hn hPe hm hq
    clear hP
    go_enter Tryd.func30, Tryd.ntmps30
    go_wp2_with (first | (refine r_box 26 _ (bv (W) (.slice p n q0)) rfl rfl ?_; intro w1 B1 N1; have g1 := N1.gr; have b1 : Blk w1 B1 (bv (W) (.slice p n q0)) 26 := N1.blk; have l1 := N1.lo; have t1 := N1.hi; have z1 := g1.size; have gg := gg.trans g1; clear N1; obtain ⟨b1_0, b1_1⟩ := bcells b1) | (refine r_load_row 26 _ _ rfl _ _ _ b1 Tryd.underlying26 rfl Tryd.ibinfo rfl ?_) | (go_at_call 50; refine (blHole_any W L _ base _ (by have h := gg.row HOW.out; rw [HN.out] at h ⊢; exact h) hlm H0.out).mono ?_; rintro e w3 ⟨rfl, g3⟩; rw [HP.out]; have z3 := g3.size; have b1 := g3.blk b1; obtain ⟨b1_0, b1_1⟩ := bcells b1; have gg := gg.trans g3))
    go_quiet (fail)
    have gq9 := (Gr.refl w3).drewN nq; have b1 := gq9.blk b1; obtain ⟨b1_0, b1_1⟩ := bcells b1; have gg := gg.trans gq9; have zq9 := gq9.size; generalize w3.drewN nq = w9 at *; clear gq9
    go_wp2_with (go_at_call 48; refine (l1In_any _ _ _ _).mono ?_; rintro e wSame ⟨rfl, rfl⟩; first | rw [HX.out] | rw [HY.out])
    go_ret
    exact ⟨ret_int (by rw [HV.out, HQE.out]), gg⟩
set_option maxHeartbeats 1000000 in
set_option maxRecDepth 100000 in
theorem ahead_d (W H : Nat) (L : List Int) (v : Value) (base : Nat) (w : World) (hown : w.ownsRow base 3 1 v L.length (intsV L)) (hW : 1 ≤ W) (hW3 : W ≤ 3) (hH3 : H ≤ 3) (hl : L.length = nn W H) (h0 : (0 : Int) ∈ L) :
    Calls Tryd.prog 30 #[.agg (bv W v), .int .i64 2] w (Ret (.int .i64 (ahI W H (hI L) 2)) w) := by
  have gg := Gr.refl w
  have h9 : nn W H ≤ 9 := Nat.mul_le_mul hW3 hH3
  have hPl := (hI_spec h0).1
  obtain ⟨P, hP⟩ : ∃ P, P = hI L := ⟨_, rfl⟩
  rw [hl, ← hP] at hPl
  obtain ⟨x, y, hPe, e1, e3, hx, hy, ⟨c0, c0'⟩, ⟨c1, c1'⟩, ⟨c2, c2'⟩, ⟨c3, c3'⟩⟩ := ahd_cases (H := H) hW hPl
  have e1 : Int.tmod (P : Int) (W : Int) = (x : Int) := by rw [tmod_nat, e1]
  have e3 : Int.tdiv (P : Int) (W : Int) = (y : Int) := by rw [tdiv_nat, e3]
  have hne' : W ≠ 0 := by omega
  obtain ⟨n, hn⟩ : ∃ n, n = L.length := ⟨_, rfl⟩
  have e5 : Int.tdiv (n : Int) (W : Int) = (H : Int) := tdiv_pos' (by omega) hW
  have hlm : L.length ≤ 1048576 := by omega
  have hn9 : n ≤ 9 := by omega
  have HOW := hidI hown
  have H0 := hidI h0
  have HP := hidI hP.symm
  obtain ⟨p, m0, q0, rfl⟩ := own_slice hown
  obtain rfl := own_len hown
  rw [← hn]
  rw [← hn] at HOW
  have HN := hidI hn
  clear hl h0 hown hn
  by_cases hh : ¬ y + 1 < H
  · skip
    have hn : ahd W H P 2 = none := c2 hh
    have HV := hidI (show ahI W H (hI L) 2 = -1 from by rw [← hP]; exact ahI_none hn)
    have HX := hidI (show btw ((x : Int)) 0 ((W : Int) - 1) = true from by unfold btw; simp <;> omega)
    have HY := hidI (show btw ((y : Int) + 1) 0 ((H : Int) - 1) = false from by unfold btw; simp <;> omega)
    clear c0 c0' c1 c1' c2 c2' c3 c3' hn hPe
    clear hP
    go_enter Tryd.func30, Tryd.ntmps30
    go_wp2_with (first | (refine r_box 26 _ (bv (W) (.slice p n q0)) rfl rfl ?_; intro w1 B1 N1; have g1 := N1.gr; have b1 : Blk w1 B1 (bv (W) (.slice p n q0)) 26 := N1.blk; have l1 := N1.lo; have t1 := N1.hi; have z1 := g1.size; have gg := gg.trans g1; clear N1; obtain ⟨b1_0, b1_1⟩ := bcells b1) | (refine r_load_row 26 _ _ rfl _ _ _ b1 Tryd.underlying26 rfl Tryd.ibinfo rfl ?_) | (go_at_call 50; refine (blHole_any W L _ base _ (by have h := gg.row HOW.out; rw [HN.out] at h ⊢; exact h) hlm H0.out).mono ?_; rintro e w3 ⟨rfl, g3⟩; rw [HP.out]; have z3 := g3.size; have b1 := g3.blk b1; obtain ⟨b1_0, b1_1⟩ := bcells b1; have gg := gg.trans g3))
    go_quiet (fail)
    have gq9 := (Gr.refl w3).drewN nq; have b1 := gq9.blk b1; obtain ⟨b1_0, b1_1⟩ := bcells b1; have gg := gg.trans gq9; have zq9 := gq9.size; generalize w3.drewN nq = w9 at *; clear gq9
    go_wp2_with (go_at_call 48; refine (l1In_any _ _ _ _).mono ?_; rintro e wSame ⟨rfl, rfl⟩; first | rw [HX.out] | rw [HY.out])
    go_ret
    exact ⟨ret_int HV.out.symm, gg⟩
  · skip
    obtain ⟨q, hq⟩ : ∃ q, q = nn W (y + 1) + x := ⟨_, rfl⟩
    have hn : ahd W H P 2 = some q := by rw [hq]; exact c2' (by omega)
    have HV := hidI (show ahI W H (hI L) 2 = (q : Nat) from by rw [← hP]; exact ahI_some hn)
    have HX := hidI (show btw ((x : Int)) 0 ((W : Int) - 1) = true from by unfold btw; simp <;> omega)
    have HY := hidI (show btw ((y : Int) + 1) 0 ((H : Int) - 1) = true from by unfold btw; simp <;> omega)
    have hql := (ahd_lt hW hPl hn).1
    obtain ⟨m, hm⟩ : ∃ m, m = nn W (y + 1) := ⟨_, rfl⟩
    have e4 : ((y : Int) + 1) * (W : Int) = (m : Int) := by rw [hm, nn_int, Int.mul_comm] <;> rfl
    have HQE := hidI (show (q : Int) = (m : Int) + (x : Int) by omega)
    have hm9 : m ≤ 9 := by omega
    clear c0 c0' c1 c1' c2 c2' c3 c3' hn hPe hm hq
    clear hP
    go_enter Tryd.func30, Tryd.ntmps30
    go_wp2_with (first | (refine r_box 26 _ (bv (W) (.slice p n q0)) rfl rfl ?_; intro w1 B1 N1; have g1 := N1.gr; have b1 : Blk w1 B1 (bv (W) (.slice p n q0)) 26 := N1.blk; have l1 := N1.lo; have t1 := N1.hi; have z1 := g1.size; have gg := gg.trans g1; clear N1; obtain ⟨b1_0, b1_1⟩ := bcells b1) | (refine r_load_row 26 _ _ rfl _ _ _ b1 Tryd.underlying26 rfl Tryd.ibinfo rfl ?_) | (go_at_call 50; refine (blHole_any W L _ base _ (by have h := gg.row HOW.out; rw [HN.out] at h ⊢; exact h) hlm H0.out).mono ?_; rintro e w3 ⟨rfl, g3⟩; rw [HP.out]; have z3 := g3.size; have b1 := g3.blk b1; obtain ⟨b1_0, b1_1⟩ := bcells b1; have gg := gg.trans g3))
    go_quiet (fail)
    have gq9 := (Gr.refl w3).drewN nq; have b1 := gq9.blk b1; obtain ⟨b1_0, b1_1⟩ := bcells b1; have gg := gg.trans gq9; have zq9 := gq9.size; generalize w3.drewN nq = w9 at *; clear gq9
    go_wp2_with (go_at_call 48; refine (l1In_any _ _ _ _).mono ?_; rintro e wSame ⟨rfl, rfl⟩; first | rw [HX.out] | rw [HY.out])
    go_ret
    exact ⟨ret_int (by rw [HV.out, HQE.out]), gg⟩
set_option maxHeartbeats 1000000 in
set_option maxRecDepth 100000 in
theorem ahead_l (W H : Nat) (L : List Int) (v : Value) (base : Nat) (w : World) (hown : w.ownsRow base 3 1 v L.length (intsV L)) (hW : 1 ≤ W) (hW3 : W ≤ 3) (hH3 : H ≤ 3) (hl : L.length = nn W H) (h0 : (0 : Int) ∈ L) :
    Calls Tryd.prog 30 #[.agg (bv W v), .int .i64 3] w (Ret (.int .i64 (ahI W H (hI L) 3)) w) := by
  have gg := Gr.refl w
  have h9 : nn W H ≤ 9 := Nat.mul_le_mul hW3 hH3
  have hPl := (hI_spec h0).1
  obtain ⟨P, hP⟩ : ∃ P, P = hI L := ⟨_, rfl⟩
  rw [hl, ← hP] at hPl
  obtain ⟨x, y, hPe, e1, e3, hx, hy, ⟨c0, c0'⟩, ⟨c1, c1'⟩, ⟨c2, c2'⟩, ⟨c3, c3'⟩⟩ := ahd_cases (H := H) hW hPl
  have e1 : Int.tmod (P : Int) (W : Int) = (x : Int) := by rw [tmod_nat, e1]
  have e3 : Int.tdiv (P : Int) (W : Int) = (y : Int) := by rw [tdiv_nat, e3]
  have hne' : W ≠ 0 := by omega
  obtain ⟨n, hn⟩ : ∃ n, n = L.length := ⟨_, rfl⟩
  have e5 : Int.tdiv (n : Int) (W : Int) = (H : Int) := tdiv_pos' (by omega) hW
  have hlm : L.length ≤ 1048576 := by omega
  have hn9 : n ≤ 9 := by omega
  have HOW := hidI hown
  have H0 := hidI h0
  have HP := hidI hP.symm
  obtain ⟨p, m0, q0, rfl⟩ := own_slice hown
  obtain rfl := own_len hown
  rw [← hn]
  rw [← hn] at HOW
  have HN := hidI hn
  clear hl h0 hown hn
  by_cases hh : x = 0
  · subst hh
    have hn : ahd W H P 3 = none := c3 rfl
    have HV := hidI (show ahI W H (hI L) 3 = -1 from by rw [← hP]; exact ahI_none hn)
    have HX := hidI (show btw ((-1 : Int)) 0 ((W : Int) - 1) = false from by unfold btw; simp <;> omega)
    have HY := hidI (show btw (y : Int) 0 ((H : Int) - 1) = true from by unfold btw; simp <;> omega)
    clear c0 c0' c1 c1' c2 c2' c3 c3' hn hPe
    clear hP
    go_enter Tryd.func30, Tryd.ntmps30
    go_wp2_with (first | (refine r_box 26 _ (bv (W) (.slice p n q0)) rfl rfl ?_; intro w1 B1 N1; have g1 := N1.gr; have b1 : Blk w1 B1 (bv (W) (.slice p n q0)) 26 := N1.blk; have l1 := N1.lo; have t1 := N1.hi; have z1 := g1.size; have gg := gg.trans g1; clear N1; obtain ⟨b1_0, b1_1⟩ := bcells b1) | (refine r_load_row 26 _ _ rfl _ _ _ b1 Tryd.underlying26 rfl Tryd.ibinfo rfl ?_) | (go_at_call 50; refine (blHole_any W L _ base _ (by have h := gg.row HOW.out; rw [HN.out] at h ⊢; exact h) hlm H0.out).mono ?_; rintro e w3 ⟨rfl, g3⟩; rw [HP.out]; have z3 := g3.size; have b1 := g3.blk b1; obtain ⟨b1_0, b1_1⟩ := bcells b1; have gg := gg.trans g3))
    go_quiet (fail)
    have gq9 := (Gr.refl w3).drewN nq; have b1 := gq9.blk b1; obtain ⟨b1_0, b1_1⟩ := bcells b1; have gg := gg.trans gq9; have zq9 := gq9.size; generalize w3.drewN nq = w9 at *; clear gq9
    go_wp2_with (go_at_call 48; refine (l1In_any _ _ _ _).mono ?_; rintro e wSame ⟨rfl, rfl⟩; first | rw [HX.out] | rw [HY.out])
    go_ret
    exact ⟨ret_int HV.out.symm, gg⟩
  · obtain ⟨X, rfl⟩ : ∃ X, x = X + 1 := ⟨x - 1, by omega⟩
    obtain ⟨q, hq⟩ : ∃ q, q = nn W y + X := ⟨_, rfl⟩
    have hn : ahd W H P 3 = some q := by rw [hq]; exact c3' X rfl
    have HV := hidI (show ahI W H (hI L) 3 = (q : Nat) from by rw [← hP]; exact ahI_some hn)
    have HX := hidI (show btw ((X : Int)) 0 ((W : Int) - 1) = true from by unfold btw; simp <;> omega)
    have HY := hidI (show btw (y : Int) 0 ((H : Int) - 1) = true from by unfold btw; simp <;> omega)
    have hql := (ahd_lt hW hPl hn).1
    obtain ⟨m, hm⟩ : ∃ m, m = nn W y := ⟨_, rfl⟩
    have e4 : (y : Int) * (W : Int) = (m : Int) := by rw [hm, nn_int, Int.mul_comm] <;> rfl
    have HQE := hidI (show (q : Int) = (m : Int) + (X : Int) by omega)
    have hm9 : m ≤ 9 := by omega
    clear c0 c0' c1 c1' c2 c2' c3 c3' hn hPe hm hq
    clear hP
    go_enter Tryd.func30, Tryd.ntmps30
    go_wp2_with (first | (refine r_box 26 _ (bv (W) (.slice p n q0)) rfl rfl ?_; intro w1 B1 N1; have g1 := N1.gr; have b1 : Blk w1 B1 (bv (W) (.slice p n q0)) 26 := N1.blk; have l1 := N1.lo; have t1 := N1.hi; have z1 := g1.size; have gg := gg.trans g1; clear N1; obtain ⟨b1_0, b1_1⟩ := bcells b1) | (refine r_load_row 26 _ _ rfl _ _ _ b1 Tryd.underlying26 rfl Tryd.ibinfo rfl ?_) | (go_at_call 50; refine (blHole_any W L _ base _ (by have h := gg.row HOW.out; rw [HN.out] at h ⊢; exact h) hlm H0.out).mono ?_; rintro e w3 ⟨rfl, g3⟩; rw [HP.out]; have z3 := g3.size; have b1 := g3.blk b1; obtain ⟨b1_0, b1_1⟩ := bcells b1; have gg := gg.trans g3))
    go_quiet (fail)
    have gq9 := (Gr.refl w3).drewN nq; have b1 := gq9.blk b1; obtain ⟨b1_0, b1_1⟩ := bcells b1; have gg := gg.trans gq9; have zq9 := gq9.size; generalize w3.drewN nq = w9 at *; clear gq9
    go_wp2_with (go_at_call 48; refine (l1In_any _ _ _ _).mono ?_; rintro e wSame ⟨rfl, rfl⟩; first | rw [HX.out] | rw [HY.out])
    go_ret
    exact ⟨ret_int (by rw [HV.out, HQE.out]), gg⟩
theorem ahead_any (W H k : Nat) (L : List Int) (v : Value) (base : Nat) (w : World) (hown : w.ownsRow base 3 1 v L.length (intsV L)) (hW : 1 ≤ W) (hW3 : W ≤ 3) (hH3 : H ≤ 3) (hl : L.length = nn W H) (h0 : (0 : Int) ∈ L) (hk : k < 4) :
    Calls Tryd.prog 30 #[.agg (bv W v), .int .i64 k] w (Ret (.int .i64 (ahI W H (hI L) k)) w) := by
  have hc : k = 0 ∨ k = 1 ∨ k = 2 ∨ k = 3 := by omega
  rcases hc with rfl | rfl | rfl | rfl
  · exact ahead_u W H L v base w hown hW hW3 hH3 hl h0
  · exact ahead_r W H L v base w hown hW hW3 hH3 hl h0
  · exact ahead_d W H L v base w hown hW hW3 hH3 hl h0
  · exact ahead_l W H L v base w hown hW hW3 hH3 hl h0
end Go.Proofs.YtgibpcmjfnmkdaaDoor
