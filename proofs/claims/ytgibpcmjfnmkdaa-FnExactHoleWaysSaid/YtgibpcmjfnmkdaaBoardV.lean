/-
  The directions in which the hole can move: in the program and in the model; the law.
-/
import Derived.Test.YtgibpcmjfnmkdaaBoardM
import Derived.Test.YtgibpcmjfnmkdaaBoardN
import Derived.Test.YtgibpcmjfnmkdaaDirs
namespace Go.Proofs.Ytgibpcmjfnmkdaa
open Go.RowKit
/-- The first k directions in which the hole can move. -/
def hwL (W H P : Nat) : Nat → List UInt8
  | 0 => []
  | k + 1 => if (ahd W H P k).isSome = true then hwL W H P k ++ [dB k] else hwL W H P k
theorem hwL_length (W H P : Nat) (k : Nat) : (hwL W H P k).length ≤ k := by
  induction k with
  | zero => exact Nat.le_refl _
  | succ k ih => unfold hwL; split <;> (try rw [List.length_append, List.length_singleton]) <;> omega
def hwV (z : Int) (L : List Int) : ByteArray := if bdOk z L = true then mkS (hwL z.toNat (L.length / z.toNat) (hI L) 4) else ⟨#[]⟩
theorem hw_bad {z : Int} {L : List Int} (h : bdOk z L = false) : hwV z L = ⟨#[]⟩ := by unfold hwV; rw [h]; rfl
theorem hw_good {W H : Nat} {L : List Int} (h : bdOk W L = true) (hl : L.length = nn W H) (hW : 1 ≤ W) : hwV W L = mkS (hwL W H (hI L) 4) := by
  unfold hwV
  rw [if_pos h, Int.toNat_natCast, hl, nn_div hW]
theorem fin_sb' {a b : ByteArray} {x y : Bool} (h1 : a = b) (h2 : x = y) : Ending.returned (.tuple #[.string a, .bool x]) = .returned (.tuple #[.string b, .bool y]) := by rw [h1, h2]
theorem dI_dB {k : Nat} (h : k < 4) : (dI (dB k)).toNat = k := by
  rcases dB_cases h with ⟨rfl, e⟩ | ⟨rfl, e⟩ | ⟨rfl, e⟩ | ⟨rfl, e⟩ <;> rfl
def ahI (W H P d : Nat) : Int := match ahd W H P d with | none => -1 | some q => (q : Nat)
theorem ahI_none {W H P d : Nat} (h : ahd W H P d = none) : ahI W H P d = -1 := by unfold ahI; rw [h]
theorem ahI_some {W H P d q : Nat} (h : ahd W H P d = some q) : ahI W H P d = (q : Nat) := by unfold ahI; rw [h]
theorem Try.bytesH : ElemInfo Try.prog 62 5 (.int .u8 0) 1 1 := ⟨Try.underlying62, by kernel_rfl, rfl, by decide⟩
theorem Try.bs1H (u : Int) (w : World) : (Instr.buildSlice 62 1 #[(0, .int .u8 u)]).run Try.prog w = .ok (.slice (some ⟨w.heap.size, 0, none⟩) 1 1) (w.alloc (.cells #[.int .u8 u] 5)) := by kernel_rfl
theorem Try.convH (B o cap : Nat) (s : ByteArray) (w : World) (hc : Lib.Bytes w B o s) (n : Nat) (hn : s.size = n) : (convert 62 9 (.slice (some ⟨B, o, none⟩) n cap)).run Try.prog w = .ok (.string s) w := by
  subst hn
  exact Lib.run_convert_whole w 62 5 9 Try.underlying62 Try.underlying5 Try.underlying9 B o s hc cap
set_option maxHeartbeats 4000000 in
set_option maxRecDepth 100000 in
theorem iHoleWays (z : Int) (L : List Int) (v : Value) (base : Nat) (w : World) (hown : w.ownsRow base 3 1 v L.length (intsV L)) (hl : L.length ≤ 1048576) :
    Calls Try.prog 26 #[.agg (bv z v)] w (Ret (.tuple #[.string (hwV z L), .bool (bdOk z L)]) w) := by
  have gg := Gr.refl w
  have HOWN := hidI hown
  obtain ⟨p, m, q, rfl⟩ := own_slice hown
  clear hown
  rcases rdB_cases z L with ⟨h1, h2⟩ | ⟨W, H, rfl, h1, h2, hn, k1, k2, k3, k4, hA⟩
  · have HV := hidI h1
    have HR := hidI h2
    have HO := hidI (hw_bad h1)
    clear h1 h2
    go_enter Try.func26, Try.ntmps26
    go_wp2_with (first | (refine r_box 27 _ (bv (z) (.slice p m q)) rfl rfl ?_; intro w1 B1 N1; have g1 := N1.gr; have b1 : Blk w1 B1 (bv (z) (.slice p m q)) 27 := N1.blk; have l1 := N1.lo; have t1 := N1.hi; have z1 := g1.size; have gg := gg.trans g1; clear N1; obtain ⟨b1_0, b1_1⟩ := bcells b1) | (refine r_load_row 27 _ _ rfl _ _ _ b1 Try.underlying27 rfl Try.ibinfo rfl ?_) | (go_at_call 47; refine (readBoard_any z L _ base _ (gg.row HOWN.out) hl).mono ?_; rintro e w2 ⟨rfl, g2⟩; rw [HR.out, HV.out]; have z2 := g2.size; have gg := gg.trans g2) | (refine r_alloc 52 _ Try.lzero rfl ?_; intro w3 B3 N3; have g3 := N3.gr; have b3 : Blk w3 B3 (lv 0 0 []) 52 := N3.blk; have l3 := N3.lo; have t3 := N3.hi; have z3 := g3.size; have gg := gg.trans g3; clear N3; obtain ⟨b3_0, b3_1, b3_2⟩ := lcells b3) | (refine r_store_row 52 52 _ _ _ rfl (lv (0) (0) ([])) _ rfl b3 (Try.lsize' _ _ _) (by simp only [lv_size]) (lv_one _ _ _) rfl ?_; intro w4 u4 b3'; have z4 := u4.size; have gg := u4.gr gg (by omega); clear b3; have b3 := b3'; clear b3'; obtain ⟨b3_0, b3_1, b3_2⟩ := lcells b3))
    go_ret2
    exact ⟨fin_sb' HO.out.symm HV.out.symm, gg⟩
  · have HV := hidI h1
    have HR := hidI h2
    have HO := hidI (hw_good h1 hn k1)
    have H0 := hidI (zero_in hA (by rw [hn]; exact Nat.mul_pos k1 k3))
    have HN := hidI hn
    obtain ⟨P, hP⟩ : ∃ P, P = hI L := ⟨_, rfl⟩
    have HP := hidI hP.symm
    rw [← hP] at HO
    clear h1 h2 hn hA hP
    go_enter Try.func26, Try.ntmps26
    go_wp2_with (first | (refine r_box 27 _ (bv (W) (.slice p m q)) rfl rfl ?_; intro w1 B1 N1; have g1 := N1.gr; have b1 : Blk w1 B1 (bv (W) (.slice p m q)) 27 := N1.blk; have l1 := N1.lo; have t1 := N1.hi; have z1 := g1.size; have gg := gg.trans g1; clear N1; obtain ⟨b1_0, b1_1⟩ := bcells b1) | (refine r_load_row 27 _ _ rfl _ _ _ b1 Try.underlying27 rfl Try.ibinfo rfl ?_) | (go_at_call 47; refine (readBoard_any W L _ base _ (gg.row HOWN.out) hl).mono ?_; rintro e w2 ⟨rfl, g2⟩; rw [HR.out, HV.out]; have z2 := g2.size; have gg := gg.trans g2) | (refine r_alloc 52 _ Try.lzero rfl ?_; intro w3 B3 N3; have g3 := N3.gr; have b3 : Blk w3 B3 (lv 0 0 []) 52 := N3.blk; have l3 := N3.lo; have t3 := N3.hi; have z3 := g3.size; have gg := gg.trans g3; clear N3; obtain ⟨b3_0, b3_1, b3_2⟩ := lcells b3) | (refine r_store_row 52 52 _ _ _ rfl (lv (W) (H) (L)) _ rfl b3 (Try.lsize' _ _ _) (by simp only [lv_size]) (lv_one _ _ _) rfl ?_; intro w4 u4 b3'; have z4 := u4.size; have gg := u4.gr gg (by omega); clear b3; have b3 := b3'; clear b3'; obtain ⟨b3_0, b3_1, b3_2⟩ := lcells b3) | (refine r_slice4 62 5 _ _ _ _ (Try.bs4 _) rfl ?_) | (refine r_mark 62 5 (.tmp 18) cs4 4 4 _ rfl rfl Try.underlying62 Try.underlying5 rfl ?_; intro w4 B4 g4 l4 t4 b4; have z4 := g4.size; have gg := gg.trans g4; have b3 := g4.blk b3))
    have own0 : w4.ownsRow w4.heap.size 5 1 (.slice none 0 0) (hwL W H P 0).length (cellsV (hwL W H P 0)) := World.ownsRow_nil _ _ _ _
    go_loopw [6, 8, 21] (fun wv _ iv wr => ∃ k : Nat, k ≤ 4 ∧ iv = .int .i64 k ∧ Blk wr B3 (lv W H L) 52 ∧ wr.heap[B4]? = some (.cells cs4 5 (4, 5)) ∧ wr.ownsRow w4.heap.size 5 1 wv (hwL W H P k).length (cellsV (hwL W H P k)) ∧ Gr w wr ∧ w4.heap.size ≤ wr.heap.size) (fun _ _ iv _ => 4 - (intOf iv).toNat)
    case atStart => exact ⟨0, Nat.zero_le _, rfl, b3, b4, own0, gg, Nat.le_refl _⟩
    case round =>
      obtain ⟨k, hk, rfl, b3, b4, own, gg, zs⟩ := hrel
      have hln := hwL_length W H P k
      clear b3_0 b3_1 b3_2
      by_cases hlt : k < 4
      · have hc4 := blk4 b4 hlt
        have hix := Try.ixb B4 4 4 k hlt
        rcases hm : ahd W H P k with _ | q
        · have HMV := hidI (fun w => show Calls Try.prog 60 #[.agg (lv W H L), .int .u8 (dB k).toNat] w (Ret (.tuple #[.agg (lv 0 0 []), .bool false]) w) from by
            have h := movedHole_any W H L (dB k) w k1 k2 k4 HN.out H0.out (dB_dir hlt)
            have h2 := mvV_none (W := W) (H := H) (L := L) (d := k) (by rw [HP.out]; exact hm)
            rw [dI_dB hlt, h2.1, h2.2] at h
            exact h)
          have HST := hidI (show hwL W H P (k + 1) = hwL W H P k from by rw [hwL, hm]; rfl)
          clear hm
          go_wp2_with (first | (refine r_load_row 52 _ _ rfl _ _ _ b3 Try.underlying52 rfl (Try.linfo' _ _ _) rfl ?_) | ((go_at_call 60; refine (HMV.out _).mono ?_; rintro e w5 ⟨rfl, g5⟩; have z5 := g5.size; have b3 := g5.blk b3; have gg := gg.trans g5); have b4 := g5.keep b4; have own := g5.row own) | ((refine r_alloc 52 _ Try.lzero rfl ?_; intro w6 B6 N6; have g6 := N6.gr; have b6 : Blk w6 B6 (lv 0 0 []) 52 := N6.blk; have l6 := N6.lo; have t6 := N6.hi; have z6 := g6.size; have b3 := g6.blk b3; have gg := gg.trans g6; clear N6; obtain ⟨b6_0, b6_1, b6_2⟩ := lcells b6); have b4 := g6.keep b4; have own := g6.row own) | (have hne6 := own_ne own b6 (by decide); (refine r_store_row 52 52 _ _ _ rfl (lv (0) (0) ([])) _ rfl b6 (Try.lsize' _ _ _) (by simp only [lv_size]) (lv_one _ _ _) rfl ?_; intro w7 u7 b6'; have z7 := u7.size; have gg := u7.gr gg (by omega); have b3 := u7.blk b3 (by omega); clear b6; have b6 := b6'; clear b6'; obtain ⟨b6_0, b6_1, b6_2⟩ := lcells b6); have b4 := u7.keep b4 (by omega); have own := u7.row own hne6))
          go_roundw
          case rel => exact ⟨k + 1, by omega, by go_num, b3, b4, by rw [HST.out]; exact own, gg, by omega⟩
          case measure => simp [intOf]; omega
        · have HMV := hidI (fun w => show Calls Try.prog 60 #[.agg (lv W H L), .int .u8 (dB k).toNat] w (Ret (.tuple #[.agg (lv W H (mvL L P q)), .bool true]) w) from by
            have h := movedHole_any W H L (dB k) w k1 k2 k4 HN.out H0.out (dB_dir hlt)
            have h2 := mvV_some (W := W) (H := H) (L := L) (d := k) (q := q) (by rw [HP.out]; exact hm)
            rw [dI_dB hlt, h2.1, h2.2, HP.out] at h
            exact h)
          have HST := hidI (show hwL W H P (k + 1) = hwL W H P k ++ [dB k] from by rw [hwL, hm]; rfl)
          clear hm
          go_wp2_with (first | (refine r_load_row 52 _ _ rfl _ _ _ b3 Try.underlying52 rfl (Try.linfo' _ _ _) rfl ?_) | ((go_at_call 60; refine (HMV.out _).mono ?_; rintro e w5 ⟨rfl, g5⟩; have z5 := g5.size; have b3 := g5.blk b3; have gg := gg.trans g5); have b4 := g5.keep b4; have own := g5.row own) | ((refine r_alloc 52 _ Try.lzero rfl ?_; intro w6 B6 N6; have g6 := N6.gr; have b6 : Blk w6 B6 (lv 0 0 []) 52 := N6.blk; have l6 := N6.lo; have t6 := N6.hi; have z6 := g6.size; have b3 := g6.blk b3; have gg := gg.trans g6; clear N6; obtain ⟨b6_0, b6_1, b6_2⟩ := lcells b6); have b4 := g6.keep b4; have own := g6.row own) | (have hne6 := own_ne own b6 (by decide); (refine r_store_row 52 52 _ _ _ rfl (lv (W) (H) (mvL L P q)) _ rfl b6 (Try.lsize' _ _ _) (by simp only [lv_size]) (lv_one _ _ _) rfl ?_; intro w7 u7 b6'; have z7 := u7.size; have gg := u7.gr gg (by omega); have b3 := u7.blk b3 (by omega); clear b6; have b6 := b6'; clear b6'; obtain ⟨b6_0, b6_1, b6_2⟩ := lcells b6); have b4 := u7.keep b4 (by omega); have own := u7.row own hne6) | (refine r_slice1 62 5 (.tmp 33) (.int .u8 (dB k).toNat) rfl (Try.bs1H _ _) rfl ?_; intro w8 B8 N8; have g8 := N8.gr; have b3 := g8.blk b3; have b4 := g8.keep b4; have own := g8.row own; have gg := gg.trans g8; have z8 := g8.size) | (refine r_append (.tmp 32) (.tmp 34) 62 5 _ 1 1 w4.heap.size Try.bytesH _ _ (cellsV (hwL W H P k)) rfl own ⟨B8, 0, none⟩ 1 1 [.int .u8 (dB k).toNat] rfl rfl N8.cell1 (by intro u hu; simp at hu; subst hu; rfl) (by omega) (by decide) (by omega) rfl ?_; intro v9 w9 own9 g9))
          have own10 : w9.ownsRow w4.heap.size 5 1 v9 (hwL W H P (k + 1)).length (cellsV (hwL W H P (k + 1))) := by
            rw [HST.out, List.length_append, ← cellsV_append]
            exact own9
          go_roundw
          case rel => exact ⟨k + 1, by omega, by go_num, g9.blk b3 (own_ne own b3 (by decide)), g9.keep b4 (fun h => by have := (own.lt _ h).1; omega), own10, g9.gr gg (own_gr own (by omega)), by have := g9.size; omega⟩
          case measure => simp [intOf]; omega
      · obtain rfl : k = 4 := by omega
        clear hlt
        obtain ⟨c, hc⟩ : ∃ c, c = hwL W H P 4 := ⟨_, rfl⟩
        rw [← hc] at own hln HO
        clear hc
        rcases Nat.eq_zero_or_pos c.length with h0 | h0
        · obtain rfl : c = [] := List.length_eq_zero_iff.1 h0
          obtain ⟨p, n, q, rfl⟩ := own_slice own
          obtain rfl : n = 0 := own_len own
          go_wp2_with (refine r_conv 62 9 _ _ (.string (mkS [])) rfl (Try.conv0 _ _ _) rfl ?_)
          go_ret2
          exact ⟨fin_sb' HO.out.symm HV.out.symm, gg⟩
        · obtain ⟨G, q, rfl, -, -⟩ := own_shape own h0
          have HB := hidI (own_bytes own)
          go_wp2_with (refine r_conv 62 9 _ _ (.string (mkS c)) rfl (Try.convH G 0 _ _ _ HB.out c.length (mkS_size c)) rfl ?_)
          go_ret2
          exact ⟨fin_sb' HO.out.symm HV.out.symm, gg⟩
set_option maxHeartbeats 1000000 in
set_option maxRecDepth 100000 in
theorem ahead_u (W H : Nat) (L : List Int) (v : Value) (base : Nat) (w : World) (hown : w.ownsRow base 3 1 v L.length (intsV L)) (hW : 1 ≤ W) (hW3 : W ≤ 3) (hH3 : H ≤ 3) (hl : L.length = nn W H) (h0 : (0 : Int) ∈ L) :
    Calls Try.prog 58 #[.agg (bv W v), .int .i64 0] w (Ret (.int .i64 (ahI W H (hI L) 0)) w) := by
  have gg := Gr.refl w
  have h9 : nn W H ≤ 9 := Nat.mul_le_mul hW3 hH3
  have hPl := (hI_spec h0).1
  obtain ⟨P, hP⟩ : ∃ P, P = hI L := ⟨_, rfl⟩
  rw [hl, ← hP] at hPl
  obtain ⟨x, y, hPe, e1, e3, hx, hy, ⟨c0, c0'⟩, ⟨c1, c1'⟩, ⟨c2, c2'⟩, ⟨c3, c3'⟩⟩ := ahd_cases (H := H) hW hPl
  have e1 : Int.tmod (P : Int) (W : Int) = (x : Int) := by rw [tmod_nat, e1]
  have e3 : Int.tdiv (P : Int) (W : Int) = (y : Int) := by rw [tdiv_nat, e3]
  have hne' : W ≠ 0 := by omega
  obtain ⟨n, hn⟩ : ∃ n, n = L.length := ⟨_, rfl⟩
  have e5 : Int.tdiv (n : Int) (W : Int) = (H : Int) := tdiv_pos' (by omega) hW
  have hlm : L.length ≤ 1048576 := by omega
  have hn9 : n ≤ 9 := by omega
  have HOW := hidI hown
  have H0 := hidI h0
  have HP := hidI hP.symm
  obtain ⟨p, m0, q0, rfl⟩ := own_slice hown
  obtain rfl := own_len hown
  rw [← hn]
  rw [← hn] at HOW
  have HN := hidI hn
  clear hl h0 hown hn
  by_cases hh : y = 0
  · subst hh
    have hn : ahd W H P 0 = none := c0 rfl
    have HV := hidI (show ahI W H (hI L) 0 = -1 from by rw [← hP]; exact ahI_none hn)
    have HX := hidI (show btw ((x : Int)) 0 ((W : Int) - 1) = true from by unfold btw; simp <;> omega)
    have HY := hidI (show btw ((-1 : Int)) 0 ((H : Int) - 1) = false from by unfold btw; simp <;> omega)
    clear c0 c0' c1 c1' c2 c2' c3 c3' hn hPe
    clear hP
    go_enter Try.func58, Try.ntmps58
    go_wp2_with (first | (refine r_box 27 _ (bv (W) (.slice p n q0)) rfl rfl ?_; intro w1 B1 N1; have g1 := N1.gr; have b1 : Blk w1 B1 (bv (W) (.slice p n q0)) 27 := N1.blk; have l1 := N1.lo; have t1 := N1.hi; have z1 := g1.size; have gg := gg.trans g1; clear N1; obtain ⟨b1_0, b1_1⟩ := bcells b1) | (refine r_load_row 27 _ _ rfl _ _ _ b1 Try.underlying27 rfl Try.ibinfo rfl ?_) | (go_at_call 56; refine (blHole_any W L _ base _ (by have h := gg.row HOW.out; rw [HN.out] at h ⊢; exact h) hlm H0.out).mono ?_; rintro e w3 ⟨rfl, g3⟩; rw [HP.out]; have z3 := g3.size; have b1 := g3.blk b1; obtain ⟨b1_0, b1_1⟩ := bcells b1; have gg := gg.trans g3))
    go_quiet (fail)
    have gq9 := (Gr.refl w3).drewN nq; have b1 := gq9.blk b1; obtain ⟨b1_0, b1_1⟩ := bcells b1; have gg := gg.trans gq9; have zq9 := gq9.size; generalize w3.drewN nq = w9 at *; clear gq9
    go_wp2_with (go_at_call 79; refine (l1In_any _ _ _ _).mono ?_; rintro e wSame ⟨rfl, rfl⟩; first | rw [HX.out] | rw [HY.out])
    go_ret
    exact ⟨ret_int HV.out.symm, gg⟩
  · obtain ⟨Y, rfl⟩ : ∃ Y, y = Y + 1 := ⟨y - 1, by omega⟩
    obtain ⟨q, hq⟩ : ∃ q, q = nn W Y + x := ⟨_, rfl⟩
    have hn : ahd W H P 0 = some q := by rw [hq]; exact c0' Y rfl
    have HV := hidI (show ahI W H (hI L) 0 = (q : Nat) from by rw [← hP]; exact ahI_some hn)
    have HX := hidI (show btw ((x : Int)) 0 ((W : Int) - 1) = true from by unfold btw; simp <;> omega)
    have HY := hidI (show btw ((Y : Int)) 0 ((H : Int) - 1) = true from by unfold btw; simp <;> omega)
    have hql := (ahd_lt hW hPl hn).1
    obtain ⟨m, hm⟩ : ∃ m, m = nn W Y := ⟨_, rfl⟩
    have e4 : (Y : Int) * (W : Int) = (m : Int) := by rw [hm, nn_int, Int.mul_comm] <;> rfl
    have HQE := hidI (show (q : Int) = (m : Int) + (x : Int) by omega)
    have hm9 : m ≤ 9 := by omega
    clear c0 c0' c1 c1' c2 c2' c3 c3' hn hPe hm hq
    clear hP
    go_enter Try.func58, Try.ntmps58
    go_wp2_with (first | (refine r_box 27 _ (bv (W) (.slice p n q0)) rfl rfl ?_; intro w1 B1 N1; have g1 := N1.gr; have b1 : Blk w1 B1 (bv (W) (.slice p n q0)) 27 := N1.blk; have l1 := N1.lo; have t1 := N1.hi; have z1 := g1.size; have gg := gg.trans g1; clear N1; obtain ⟨b1_0, b1_1⟩ := bcells b1) | (refine r_load_row 27 _ _ rfl _ _ _ b1 Try.underlying27 rfl Try.ibinfo rfl ?_) | (go_at_call 56; refine (blHole_any W L _ base _ (by have h := gg.row HOW.out; rw [HN.out] at h ⊢; exact h) hlm H0.out).mono ?_; rintro e w3 ⟨rfl, g3⟩; rw [HP.out]; have z3 := g3.size; have b1 := g3.blk b1; obtain ⟨b1_0, b1_1⟩ := bcells b1; have gg := gg.trans g3))
    go_quiet (fail)
    have gq9 := (Gr.refl w3).drewN nq; have b1 := gq9.blk b1; obtain ⟨b1_0, b1_1⟩ := bcells b1; have gg := gg.trans gq9; have zq9 := gq9.size; generalize w3.drewN nq = w9 at *; clear gq9
    go_wp2_with (go_at_call 79; refine (l1In_any _ _ _ _).mono ?_; rintro e wSame ⟨rfl, rfl⟩; first | rw [HX.out] | rw [HY.out])
    go_ret
    exact ⟨ret_int (by rw [HV.out, HQE.out]), gg⟩
set_option maxHeartbeats 1000000 in
set_option maxRecDepth 100000 in
theorem ahead_r (W H : Nat) (L : List Int) (v : Value) (base : Nat) (w : World) (hown : w.ownsRow base 3 1 v L.length (intsV L)) (hW : 1 ≤ W) (hW3 : W ≤ 3) (hH3 : H ≤ 3) (hl : L.length = nn W H) (h0 : (0 : Int) ∈ L) :
    Calls Try.prog 58 #[.agg (bv W v), .int .i64 1] w (Ret (.int .i64 (ahI W H (hI L) 1)) w) := by
  have gg := Gr.refl w
  have h9 : nn W H ≤ 9 := Nat.mul_le_mul hW3 hH3
  have hPl := (hI_spec h0).1
  obtain ⟨P, hP⟩ : ∃ P, P = hI L := ⟨_, rfl⟩
  rw [hl, ← hP] at hPl
  obtain ⟨x, y, hPe, e1, e3, hx, hy, ⟨c0, c0'⟩, ⟨c1, c1'⟩, ⟨c2, c2'⟩, ⟨c3, c3'⟩⟩ := ahd_cases (H := H) hW hPl
  have e1 : Int.tmod (P : Int) (W : Int) = (x : Int) := by rw [tmod_nat, e1]
  have e3 : Int.tdiv (P : Int) (W : Int) = (y : Int) := by rw [tdiv_nat, e3]
  have hne' : W ≠ 0 := by omega
  obtain ⟨n, hn⟩ : ∃ n, n = L.length := ⟨_, rfl⟩
  have e5 : Int.tdiv (n : Int) (W : Int) = (H : Int) := tdiv_pos' (by omega) hW
  have hlm : L.length ≤ 1048576 := by omega
  have hn9 : n ≤ 9 := by omega
  have HOW := hidI hown
  have H0 := hidI h0
  have HP := hidI hP.symm
  obtain ⟨p, m0, q0, rfl⟩ := own_slice hown
  obtain rfl := own_len hown
  rw [← hn]
  rw [← hn] at HOW
  have HN := hidI hn
  clear hl h0 hown hn
  by_cases hh : ¬ x + 1 < W
  · skip
    have hn : ahd W H P 1 = none := c1 hh
    have HV := hidI (show ahI W H (hI L) 1 = -1 from by rw [← hP]; exact ahI_none hn)
    have HX := hidI (show btw ((x : Int) + 1) 0 ((W : Int) - 1) = false from by unfold btw; simp <;> omega)
    have HY := hidI (show btw (y : Int) 0 ((H : Int) - 1) = true from by unfold btw; simp <;> omega)
    clear c0 c0' c1 c1' c2 c2' c3 c3' hn hPe
    clear hP
    go_enter Try.func58, Try.ntmps58
    go_wp2_with (first | (refine r_box 27 _ (bv (W) (.slice p n q0)) rfl rfl ?_; intro w1 B1 N1; have g1 := N1.gr; have b1 : Blk w1 B1 (bv (W) (.slice p n q0)) 27 := N1.blk; have l1 := N1.lo; have t1 := N1.hi; have z1 := g1.size; have gg := gg.trans g1; clear N1; obtain ⟨b1_0, b1_1⟩ := bcells b1) | (refine r_load_row 27 _ _ rfl _ _ _ b1 Try.underlying27 rfl Try.ibinfo rfl ?_) | (go_at_call 56; refine (blHole_any W L _ base _ (by have h := gg.row HOW.out; rw [HN.out] at h ⊢; exact h) hlm H0.out).mono ?_; rintro e w3 ⟨rfl, g3⟩; rw [HP.out]; have z3 := g3.size; have b1 := g3.blk b1; obtain ⟨b1_0, b1_1⟩ := bcells b1; have gg := gg.trans g3))
    go_quiet (fail)
    have gq9 := (Gr.refl w3).drewN nq; have b1 := gq9.blk b1; obtain ⟨b1_0, b1_1⟩ := bcells b1; have gg := gg.trans gq9; have zq9 := gq9.size; generalize w3.drewN nq = w9 at *; clear gq9
    go_wp2_with (go_at_call 79; refine (l1In_any _ _ _ _).mono ?_; rintro e wSame ⟨rfl, rfl⟩; first | rw [HX.out] | rw [HY.out])
    go_ret
    exact ⟨ret_int HV.out.symm, gg⟩
  · skip
    obtain ⟨q, hq⟩ : ∃ q, q = nn W y + (x + 1) := ⟨_, rfl⟩
    have hn : ahd W H P 1 = some q := by rw [hq]; exact c1' (by omega)
    have HV := hidI (show ahI W H (hI L) 1 = (q : Nat) from by rw [← hP]; exact ahI_some hn)
    have HX := hidI (show btw ((x : Int) + 1) 0 ((W : Int) - 1) = true from by unfold btw; simp <;> omega)
    have HY := hidI (show btw (y : Int) 0 ((H : Int) - 1) = true from by unfold btw; simp <;> omega)
    have hql := (ahd_lt hW hPl hn).1
    obtain ⟨m, hm⟩ : ∃ m, m = nn W y := ⟨_, rfl⟩
    have e4 : (y : Int) * (W : Int) = (m : Int) := by rw [hm, nn_int, Int.mul_comm] <;> rfl
    have HQE := hidI (show (q : Int) = (m : Int) + ((x : Int) + 1) by omega)
    have hm9 : m ≤ 9 := by omega
    clear c0 c0' c1 c1' c2 c2' c3 c3' hn hPe hm hq
    clear hP
    go_enter Try.func58, Try.ntmps58
    go_wp2_with (first | (refine r_box 27 _ (bv (W) (.slice p n q0)) rfl rfl ?_; intro w1 B1 N1; have g1 := N1.gr; have b1 : Blk w1 B1 (bv (W) (.slice p n q0)) 27 := N1.blk; have l1 := N1.lo; have t1 := N1.hi; have z1 := g1.size; have gg := gg.trans g1; clear N1; obtain ⟨b1_0, b1_1⟩ := bcells b1) | (refine r_load_row 27 _ _ rfl _ _ _ b1 Try.underlying27 rfl Try.ibinfo rfl ?_) | (go_at_call 56; refine (blHole_any W L _ base _ (by have h := gg.row HOW.out; rw [HN.out] at h ⊢; exact h) hlm H0.out).mono ?_; rintro e w3 ⟨rfl, g3⟩; rw [HP.out]; have z3 := g3.size; have b1 := g3.blk b1; obtain ⟨b1_0, b1_1⟩ := bcells b1; have gg := gg.trans g3))
    go_quiet (fail)
    have gq9 := (Gr.refl w3).drewN nq; have b1 := gq9.blk b1; obtain ⟨b1_0, b1_1⟩ := bcells b1; have gg := gg.trans gq9; have zq9 := gq9.size; generalize w3.drewN nq = w9 at *; clear gq9
    go_wp2_with (go_at_call 79; refine (l1In_any _ _ _ _).mono ?_; rintro e wSame ⟨rfl, rfl⟩; first | rw [HX.out] | rw [HY.out])
    go_ret
    exact ⟨ret_int (by rw [HV.out, HQE.out]), gg⟩
set_option maxHeartbeats 1000000 in
set_option maxRecDepth 100000 in
theorem ahead_d (W H : Nat) (L : List Int) (v : Value) (base : Nat) (w : World) (hown : w.ownsRow base 3 1 v L.length (intsV L)) (hW : 1 ≤ W) (hW3 : W ≤ 3) (hH3 : H ≤ 3) (hl : L.length = nn W H) (h0 : (0 : Int) ∈ L) :
    Calls Try.prog 58 #[.agg (bv W v), .int .i64 2] w (Ret (.int .i64 (ahI W H (hI L) 2)) w) := by
  have gg := Gr.refl w
  have h9 : nn W H ≤ 9 := Nat.mul_le_mul hW3 hH3
  have hPl := (hI_spec h0).1
  obtain ⟨P, hP⟩ : ∃ P, P = hI L := ⟨_, rfl⟩
  rw [hl, ← hP] at hPl
  obtain ⟨x, y, hPe, e1, e3, hx, hy, ⟨c0, c0'⟩, ⟨c1, c1'⟩, ⟨c2, c2'⟩, ⟨c3, c3'⟩⟩ := ahd_cases (H := H) hW hPl
  have e1 : Int.tmod (P : Int) (W : Int) = (x : Int) := by rw [tmod_nat, e1]
  have e3 : Int.tdiv (P : Int) (W : Int) = (y : Int) := by rw [tdiv_nat, e3]
  have hne' : W ≠ 0 := by omega
  obtain ⟨n, hn⟩ : ∃ n, n = L.length := ⟨_, rfl⟩
  have e5 : Int.tdiv (n : Int) (W : Int) = (H : Int) := tdiv_pos' (by omega) hW
  have hlm : L.length ≤ 1048576 := by omega
  have hn9 : n ≤ 9 := by omega
  have HOW := hidI hown
  have H0 := hidI h0
  have HP := hidI hP.symm
  obtain ⟨p, m0, q0, rfl⟩ := own_slice hown
  obtain rfl := own_len hown
  rw [← hn]
  rw [← hn] at HOW
  have HN := hidI hn
  clear hl h0 hown hn
  by_cases hh : ¬ y + 1 < H
  · skip
    have hn : ahd W H P 2 = none := c2 hh
    have HV := hidI (show ahI W H (hI L) 2 = -1 from by rw [← hP]; exact ahI_none hn)
    have HX := hidI (show btw ((x : Int)) 0 ((W : Int) - 1) = true from by unfold btw; simp <;> omega)
    have HY := hidI (show btw ((y : Int) + 1) 0 ((H : Int) - 1) = false from by unfold btw; simp <;> omega)
    clear c0 c0' c1 c1' c2 c2' c3 c3' hn hPe
    clear hP
    go_enter Try.func58, Try.ntmps58
    go_wp2_with (first | (refine r_box 27 _ (bv (W) (.slice p n q0)) rfl rfl ?_; intro w1 B1 N1; have g1 := N1.gr; have b1 : Blk w1 B1 (bv (W) (.slice p n q0)) 27 := N1.blk; have l1 := N1.lo; have t1 := N1.hi; have z1 := g1.size; have gg := gg.trans g1; clear N1; obtain ⟨b1_0, b1_1⟩ := bcells b1) | (refine r_load_row 27 _ _ rfl _ _ _ b1 Try.underlying27 rfl Try.ibinfo rfl ?_) | (go_at_call 56; refine (blHole_any W L _ base _ (by have h := gg.row HOW.out; rw [HN.out] at h ⊢; exact h) hlm H0.out).mono ?_; rintro e w3 ⟨rfl, g3⟩; rw [HP.out]; have z3 := g3.size; have b1 := g3.blk b1; obtain ⟨b1_0, b1_1⟩ := bcells b1; have gg := gg.trans g3))
    go_quiet (fail)
    have gq9 := (Gr.refl w3).drewN nq; have b1 := gq9.blk b1; obtain ⟨b1_0, b1_1⟩ := bcells b1; have gg := gg.trans gq9; have zq9 := gq9.size; generalize w3.drewN nq = w9 at *; clear gq9
    go_wp2_with (go_at_call 79; refine (l1In_any _ _ _ _).mono ?_; rintro e wSame ⟨rfl, rfl⟩; first | rw [HX.out] | rw [HY.out])
    go_ret
    exact ⟨ret_int HV.out.symm, gg⟩
  · skip
    obtain ⟨q, hq⟩ : ∃ q, q = nn W (y + 1) + x := ⟨_, rfl⟩
    have hn : ahd W H P 2 = some q := by rw [hq]; exact c2' (by omega)
    have HV := hidI (show ahI W H (hI L) 2 = (q : Nat) from by rw [← hP]; exact ahI_some hn)
    have HX := hidI (show btw ((x : Int)) 0 ((W : Int) - 1) = true from by unfold btw; simp <;> omega)
    have HY := hidI (show btw ((y : Int) + 1) 0 ((H : Int) - 1) = true from by unfold btw; simp <;> omega)
    have hql := (ahd_lt hW hPl hn).1
    obtain ⟨m, hm⟩ : ∃ m, m = nn W (y + 1) := ⟨_, rfl⟩
    have e4 : ((y : Int) + 1) * (W : Int) = (m : Int) := by rw [hm, nn_int, Int.mul_comm] <;> rfl
    have HQE := hidI (show (q : Int) = (m : Int) + (x : Int) by omega)
    have hm9 : m ≤ 9 := by omega
    clear c0 c0' c1 c1' c2 c2' c3 c3' hn hPe hm hq
    clear hP
    go_enter Try.func58, Try.ntmps58
    go_wp2_with (first | (refine r_box 27 _ (bv (W) (.slice p n q0)) rfl rfl ?_; intro w1 B1 N1; have g1 := N1.gr; have b1 : Blk w1 B1 (bv (W) (.slice p n q0)) 27 := N1.blk; have l1 := N1.lo; have t1 := N1.hi; have z1 := g1.size; have gg := gg.trans g1; clear N1; obtain ⟨b1_0, b1_1⟩ := bcells b1) | (refine r_load_row 27 _ _ rfl _ _ _ b1 Try.underlying27 rfl Try.ibinfo rfl ?_) | (go_at_call 56; refine (blHole_any W L _ base _ (by have h := gg.row HOW.out; rw [HN.out] at h ⊢; exact h) hlm H0.out).mono ?_; rintro e w3 ⟨rfl, g3⟩; rw [HP.out]; have z3 := g3.size; have b1 := g3.blk b1; obtain ⟨b1_0, b1_1⟩ := bcells b1; have gg := gg.trans g3))
    go_quiet (fail)
    have gq9 := (Gr.refl w3).drewN nq; have b1 := gq9.blk b1; obtain ⟨b1_0, b1_1⟩ := bcells b1; have gg := gg.trans gq9; have zq9 := gq9.size; generalize w3.drewN nq = w9 at *; clear gq9
    go_wp2_with (go_at_call 79; refine (l1In_any _ _ _ _).mono ?_; rintro e wSame ⟨rfl, rfl⟩; first | rw [HX.out] | rw [HY.out])
    go_ret
    exact ⟨ret_int (by rw [HV.out, HQE.out]), gg⟩
set_option maxHeartbeats 1000000 in
set_option maxRecDepth 100000 in
theorem ahead_l (W H : Nat) (L : List Int) (v : Value) (base : Nat) (w : World) (hown : w.ownsRow base 3 1 v L.length (intsV L)) (hW : 1 ≤ W) (hW3 : W ≤ 3) (hH3 : H ≤ 3) (hl : L.length = nn W H) (h0 : (0 : Int) ∈ L) :
    Calls Try.prog 58 #[.agg (bv W v), .int .i64 3] w (Ret (.int .i64 (ahI W H (hI L) 3)) w) := by
  have gg := Gr.refl w
  have h9 : nn W H ≤ 9 := Nat.mul_le_mul hW3 hH3
  have hPl := (hI_spec h0).1
  obtain ⟨P, hP⟩ : ∃ P, P = hI L := ⟨_, rfl⟩
  rw [hl, ← hP] at hPl
  obtain ⟨x, y, hPe, e1, e3, hx, hy, ⟨c0, c0'⟩, ⟨c1, c1'⟩, ⟨c2, c2'⟩, ⟨c3, c3'⟩⟩ := ahd_cases (H := H) hW hPl
  have e1 : Int.tmod (P : Int) (W : Int) = (x : Int) := by rw [tmod_nat, e1]
  have e3 : Int.tdiv (P : Int) (W : Int) = (y : Int) := by rw [tdiv_nat, e3]
  have hne' : W ≠ 0 := by omega
  obtain ⟨n, hn⟩ : ∃ n, n = L.length := ⟨_, rfl⟩
  have e5 : Int.tdiv (n : Int) (W : Int) = (H : Int) := tdiv_pos' (by omega) hW
  have hlm : L.length ≤ 1048576 := by omega
  have hn9 : n ≤ 9 := by omega
  have HOW := hidI hown
  have H0 := hidI h0
  have HP := hidI hP.symm
  obtain ⟨p, m0, q0, rfl⟩ := own_slice hown
  obtain rfl := own_len hown
  rw [← hn]
  rw [← hn] at HOW
  have HN := hidI hn
  clear hl h0 hown hn
  by_cases hh : x = 0
  · subst hh
    have hn : ahd W H P 3 = none := c3 rfl
    have HV := hidI (show ahI W H (hI L) 3 = -1 from by rw [← hP]; exact ahI_none hn)
    have HX := hidI (show btw ((-1 : Int)) 0 ((W : Int) - 1) = false from by unfold btw; simp <;> omega)
    have HY := hidI (show btw (y : Int) 0 ((H : Int) - 1) = true from by unfold btw; simp <;> omega)
    clear c0 c0' c1 c1' c2 c2' c3 c3' hn hPe
    clear hP
    go_enter Try.func58, Try.ntmps58
    go_wp2_with (first | (refine r_box 27 _ (bv (W) (.slice p n q0)) rfl rfl ?_; intro w1 B1 N1; have g1 := N1.gr; have b1 : Blk w1 B1 (bv (W) (.slice p n q0)) 27 := N1.blk; have l1 := N1.lo; have t1 := N1.hi; have z1 := g1.size; have gg := gg.trans g1; clear N1; obtain ⟨b1_0, b1_1⟩ := bcells b1) | (refine r_load_row 27 _ _ rfl _ _ _ b1 Try.underlying27 rfl Try.ibinfo rfl ?_) | (go_at_call 56; refine (blHole_any W L _ base _ (by have h := gg.row HOW.out; rw [HN.out] at h ⊢; exact h) hlm H0.out).mono ?_; rintro e w3 ⟨rfl, g3⟩; rw [HP.out]; have z3 := g3.size; have b1 := g3.blk b1; obtain ⟨b1_0, b1_1⟩ := bcells b1; have gg := gg.trans g3))
    go_quiet (fail)
    have gq9 := (Gr.refl w3).drewN nq; have b1 := gq9.blk b1; obtain ⟨b1_0, b1_1⟩ := bcells b1; have gg := gg.trans gq9; have zq9 := gq9.size; generalize w3.drewN nq = w9 at *; clear gq9
    go_wp2_with (go_at_call 79; refine (l1In_any _ _ _ _).mono ?_; rintro e wSame ⟨rfl, rfl⟩; first | rw [HX.out] | rw [HY.out])
    go_ret
    exact ⟨ret_int HV.out.symm, gg⟩
  · obtain ⟨X, rfl⟩ : ∃ X, x = X + 1 := ⟨x - 1, by omega⟩
    obtain ⟨q, hq⟩ : ∃ q, q = nn W y + X := ⟨_, rfl⟩
    have hn : ahd W H P 3 = some q := by rw [hq]; exact c3' X rfl
    have HV := hidI (show ahI W H (hI L) 3 = (q : Nat) from by rw [← hP]; exact ahI_some hn)
    have HX := hidI (show btw ((X : Int)) 0 ((W : Int) - 1) = true from by unfold btw; simp <;> omega)
    have HY := hidI (show btw (y : Int) 0 ((H : Int) - 1) = true from by unfold btw; simp <;> omega)
    have hql := (ahd_lt hW hPl hn).1
    obtain ⟨m, hm⟩ : ∃ m, m = nn W y := ⟨_, rfl⟩
    have e4 : (y : Int) * (W : Int) = (m : Int) := by rw [hm, nn_int, Int.mul_comm] <;> rfl
    have HQE := hidI (show (q : Int) = (m : Int) + (X : Int) by omega)
    have hm9 : m ≤ 9 := by omega
    clear c0 c0' c1 c1' c2 c2' c3 c3' hn hPe hm hq
    clear hP
    go_enter Try.func58, Try.ntmps58
    go_wp2_with (first | (refine r_box 27 _ (bv (W) (.slice p n q0)) rfl rfl ?_; intro w1 B1 N1; have g1 := N1.gr; have b1 : Blk w1 B1 (bv (W) (.slice p n q0)) 27 := N1.blk; have l1 := N1.lo; have t1 := N1.hi; have z1 := g1.size; have gg := gg.trans g1; clear N1; obtain ⟨b1_0, b1_1⟩ := bcells b1) | (refine r_load_row 27 _ _ rfl _ _ _ b1 Try.underlying27 rfl Try.ibinfo rfl ?_) | (go_at_call 56; refine (blHole_any W L _ base _ (by have h := gg.row HOW.out; rw [HN.out] at h ⊢; exact h) hlm H0.out).mono ?_; rintro e w3 ⟨rfl, g3⟩; rw [HP.out]; have z3 := g3.size; have b1 := g3.blk b1; obtain ⟨b1_0, b1_1⟩ := bcells b1; have gg := gg.trans g3))
    go_quiet (fail)
    have gq9 := (Gr.refl w3).drewN nq; have b1 := gq9.blk b1; obtain ⟨b1_0, b1_1⟩ := bcells b1; have gg := gg.trans gq9; have zq9 := gq9.size; generalize w3.drewN nq = w9 at *; clear gq9
    go_wp2_with (go_at_call 79; refine (l1In_any _ _ _ _).mono ?_; rintro e wSame ⟨rfl, rfl⟩; first | rw [HX.out] | rw [HY.out])
    go_ret
    exact ⟨ret_int (by rw [HV.out, HQE.out]), gg⟩
theorem dirsH_any (w : World) : Calls Try.prog 59 #[] w fun e w' => e = .returned (.string ⟨#[117, 114, 100, 108]⟩) ∧ w = w' := by
  go_enter Try.func59, Try.ntmps59
  go_wp2
  go_ret
  exact ⟨rfl, rfl⟩
theorem ahead_any (W H k : Nat) (L : List Int) (v : Value) (base : Nat) (w : World) (hown : w.ownsRow base 3 1 v L.length (intsV L)) (hW : 1 ≤ W) (hW3 : W ≤ 3) (hH3 : H ≤ 3) (hl : L.length = nn W H) (h0 : (0 : Int) ∈ L) (hk : k < 4) :
    Calls Try.prog 58 #[.agg (bv W v), .int .i64 k] w (Ret (.int .i64 (ahI W H (hI L) k)) w) := by
  have hc : k = 0 ∨ k = 1 ∨ k = 2 ∨ k = 3 := by omega
  rcases hc with rfl | rfl | rfl | rfl
  · exact ahead_u W H L v base w hown hW hW3 hH3 hl h0
  · exact ahead_r W H L v base w hown hW hW3 hH3 hl h0
  · exact ahead_d W H L v base w hown hW hW3 hH3 hl h0
  · exact ahead_l W H L v base w hown hW hW3 hH3 hl h0
theorem Try.ssubH (k : Nat) (hk : k < 4) (w : World) : (Instr.sliceAt 9 (.string ⟨#[117, 114, 100, 108]⟩) (some (.int .i64 k)) (some (.int .i64 ((k : Int) + 1))) none).run Try.prog w = .ok (.string ⟨#[dB k]⟩) w := by
  rcases dB_cases hk with ⟨rfl, e⟩ | ⟨rfl, e⟩ | ⟨rfl, e⟩ | ⟨rfl, e⟩ <;> (rw [e]; kernel_rfl)
set_option maxHeartbeats 2000000 in
set_option maxRecDepth 100000 in
theorem sHoleWays (z : Int) (L : List Int) (v : Value) (base : Nat) (w : World) (hown : w.ownsRow base 3 1 v L.length (intsV L)) (hl : L.length ≤ 1048576) :
    Calls Try.prog 25 #[.agg (bv z v)] w (Ret (.tuple #[.string (hwV z L), .bool (bdOk z L)]) w) := by
  have gg := Gr.refl w
  have HOWN := hidI hown
  obtain ⟨p, m, q, rfl⟩ := own_slice hown
  clear hown
  rcases rdB_cases z L with ⟨h1, h2⟩ | ⟨W, H, rfl, h1, h2, hn, k1, k2, k3, k4, hA⟩
  · have HV := hidI h1
    have HO := hidI (hw_bad h1)
    clear h1 h2
    go_enter Try.func25, Try.ntmps25
    go_wp2_with (first | (refine r_box 27 _ (bv (z) (.slice p m q)) rfl rfl ?_; intro w1 B1 N1; have g1 := N1.gr; have b1 : Blk w1 B1 (bv (z) (.slice p m q)) 27 := N1.blk; have l1 := N1.lo; have t1 := N1.hi; have z1 := g1.size; have gg := gg.trans g1; clear N1; obtain ⟨b1_0, b1_1⟩ := bcells b1) | (refine r_load_row 27 _ _ rfl _ _ _ b1 Try.underlying27 rfl Try.ibinfo rfl ?_) | (go_at_call 45; refine (blGood_any z L _ base _ (gg.row HOWN.out) hl).mono ?_; rintro e w2 ⟨rfl, g2⟩; rw [HV.out]; have z2 := g2.size; have gg := gg.trans g2))
    go_ret2
    exact ⟨fin_sb' HO.out.symm HV.out.symm, gg⟩
  · have HV := hidI h1
    have HO := hidI (hw_good h1 hn k1)
    have H0 := hidI (zero_in hA (by rw [hn]; exact Nat.mul_pos k1 k3))
    have HN := hidI hn
    obtain ⟨P, hP⟩ : ∃ P, P = hI L := ⟨_, rfl⟩
    have HP := hidI hP.symm
    rw [← hP] at HO
    clear h1 h2 hn hA hP
    go_enter Try.func25, Try.ntmps25
    go_wp2_with (first | (refine r_box 27 _ (bv (W) (.slice p m q)) rfl rfl ?_; intro w1 B1 N1; have g1 := N1.gr; have b1 : Blk w1 B1 (bv (W) (.slice p m q)) 27 := N1.blk; have l1 := N1.lo; have t1 := N1.hi; have z1 := g1.size; have gg := gg.trans g1; clear N1; obtain ⟨b1_0, b1_1⟩ := bcells b1) | (refine r_load_row 27 _ _ rfl _ _ _ b1 Try.underlying27 rfl Try.ibinfo rfl ?_) | (go_at_call 45; refine (blGood_any W L _ base _ (gg.row HOWN.out) hl).mono ?_; rintro e w2 ⟨rfl, g2⟩; rw [HV.out]; have z2 := g2.size; have b1 := g2.blk b1; have gg := gg.trans g2))
    go_loopw [4, 5] (fun ov iv wr => ∃ k : Nat, k ≤ 4 ∧ iv = .int .i64 k ∧ ov = .string (mkS (hwL W H P k)) ∧ Blk wr B1 (bv W (.slice p m q)) 27 ∧ Gr w wr) (fun _ iv _ => 4 - (intOf iv).toNat)
    case atStart => exact ⟨0, Nat.zero_le _, rfl, rfl, b1, gg⟩
    case round =>
      obtain ⟨k, hk, rfl, rfl, b1, gg⟩ := hrel
      clear b1_0 b1_1
      have hln := hwL_length W H P k
      by_cases hlt : k < 4
      · have HAH := hidI (fun w h => ahead_any W H k L (.slice p m q) base w h k1 k2 k4 HN.out H0.out hlt)
        rcases hm : ahd W H P k with _ | r
        · have HI := hidI (show ahI W H (hI L) k = -1 from by rw [HP.out]; exact ahI_none hm)
          have HST := hidI (show hwL W H P (k + 1) = hwL W H P k from by rw [hwL, hm]; rfl)
          clear hm
          go_wp2_with (first | (refine r_load_row 27 _ _ rfl _ _ _ b1 Try.underlying27 rfl Try.ibinfo rfl ?_) | (go_at_call 58; refine (HAH.out _ (gg.row HOWN.out)).mono ?_; rintro e w3 ⟨rfl, g3⟩; rw [HI.out]; have z3 := g3.size; have b1 := g3.blk b1; have gg := gg.trans g3))
          go_roundw
          case rel => exact ⟨k + 1, by omega, by go_num, by rw [HST.out], b1, gg⟩
          case measure => simp [intOf]; omega
        · have HI := hidI (show ahI W H (hI L) k = (r : Nat) from by rw [HP.out]; exact ahI_some hm)
          have HST := hidI (show hwL W H P (k + 1) = hwL W H P k ++ [dB k] from by rw [hwL, hm]; rfl)
          have hadd := fun w => run_string_add_sum (P := Try.prog) w (mkS (hwL W H P k)) ⟨#[dB k]⟩ (by show (mkS (hwL W H P k)).size + 1 ≤ _; rw [mkS_size]; omega)
          have hsub := Try.ssubH k hlt
          have HAP := hidI (mkS_append (hwL W H P k) (dB k))
          clear hm
          go_wp2_with (first | (refine r_load_row 27 _ _ rfl _ _ _ b1 Try.underlying27 rfl Try.ibinfo rfl ?_) | (go_at_call 58; refine (HAH.out _ (gg.row HOWN.out)).mono ?_; rintro e w3 ⟨rfl, g3⟩; rw [HI.out]; have z3 := g3.size; have b1 := g3.blk b1; have gg := gg.trans g3) | (go_at_call 59; refine (dirsH_any _).mono ?_; rintro e wSame ⟨rfl, rfl⟩))
          go_roundw
          case rel => exact ⟨k + 1, by omega, by go_num, by rw [HST.out, ← HAP.out], b1, gg⟩
          case measure => simp [intOf]; omega
      · obtain rfl : k = 4 := by omega
        clear hlt
        go_wp2
        go_ret2
        exact ⟨fin_sb' HO.out.symm HV.out.symm, gg⟩
set_option maxHeartbeats 1000000 in
set_option maxRecDepth 100000 in
theorem lawHoleWays (z : Int) (v : Value) (L : List Int) (w : World) (hs : Sl w v L) (hbig : L.length ≤ 9223372036854775807) : Calls Try.prog 6 #[.agg (bv z v)] w (Ret (.bool true) w) := by
  have gg := Gr.refl w
  obtain ⟨p, c, rfl, hr⟩ := hs
  by_cases hl : 1048576 < L.length
  · have HZ := hidI (show szR L.length = -1 from if_pos hl)
    go_enter Try.func6, Try.ntmps6
    go_wp2_with (first | (refine r_box 24 _ (bv (z) (.slice p L.length c)) rfl rfl ?_; intro w1 B1 N1; have g1 := N1.gr; have b1 : Blk w1 B1 (bv (z) (.slice p L.length c)) 24 := N1.blk; have l1 := N1.lo; have t1 := N1.hi; have z1 := g1.size; have gg := gg.trans g1; clear N1; obtain ⟨b1_0, b1_1⟩ := bcells b1) | (refine r_load_row 24 _ _ rfl _ _ _ b1 Try.underlying24 rfl Try.lbinfo rfl ?_) | (go_at_call 14; refine (szBoard_any z p L.length c _ hbig).mono ?_; rintro e w2 ⟨rfl, g2⟩; rw [HZ.out]; have z2 := g2.size; have gg := gg.trans g2))
    go_ret
    exact ⟨rfl, gg⟩
  · have hl : L.length ≤ 1048576 := by omega
    have HZ := hidI (show szR L.length = 1048576 - (L.length : Int) from if_neg (by omega))
    have HR := hidI hr
    obtain ⟨ok, hok⟩ : ∃ ok, ok = bdOk z L := ⟨_, rfl⟩
    obtain ⟨val, hval⟩ : ∃ val, val = hwV z L := ⟨_, rfl⟩
    have HOK := hidI hok
    have HVAL := hidI hval
    clear hr hok hval
    go_enter Try.func6, Try.ntmps6
    go_wp2_with (first | (refine r_box 24 _ (bv (z) (.slice p L.length c)) rfl rfl ?_; intro w1 B1 N1; have g1 := N1.gr; have b1 : Blk w1 B1 (bv (z) (.slice p L.length c)) 24 := N1.blk; have l1 := N1.lo; have t1 := N1.hi; have z1 := g1.size; have gg := gg.trans g1; clear N1; obtain ⟨b1_0, b1_1⟩ := bcells b1) | (refine r_load_row 24 _ _ rfl _ _ _ b1 Try.underlying24 rfl Try.lbinfo rfl ?_) | (go_at_call 14; refine (szBoard_any z p L.length c _ hbig).mono ?_; rintro e w2 ⟨rfl, g2⟩; rw [HZ.out]; have z2 := g2.size; have b1 := g2.blk b1; have gg := gg.trans g2))
    refine (toBoard_any z p c L _ (HR.out.gr gg) hl).mono ?_
    rintro e w3 ⟨g3, v3, rfl, own3⟩
    have b1 := g3.blk b1
    have z3 := g3.size
    have gg := gg.trans g3
    go_wp2_with (first | (go_at_call 25; refine (sHoleWays z L v3 _ _ own3 hl).mono ?_; rintro e w4 ⟨rfl, g4⟩; rw [← HOK.out, ← HVAL.out]; have z4 := g4.size; have b1 := g4.blk b1; have gg := gg.trans g4) | (refine r_load_row 24 _ _ rfl _ _ _ b1 Try.underlying24 rfl Try.lbinfo rfl ?_))
    refine (toBoard_any z p c L _ (HR.out.gr gg) hl).mono ?_
    rintro e w5 ⟨g5, v5, rfl, own5⟩
    have b1 := g5.blk b1
    have z5 := g5.size
    have gg := gg.trans g5
    have hone := own_one own5
    go_wp2_with (first | ((refine r_alloc 27 _ Try.ibzero rfl ?_; intro w5 B5 N5; have g5 := N5.gr; have b5 : Blk w5 B5 (bv 0 (.slice none 0 0)) 27 := N5.blk; have l5 := N5.lo; have t5 := N5.hi; have z5 := g5.size; have b1 := g5.blk b1; have gg := gg.trans g5; clear N5; obtain ⟨b5_0, b5_1⟩ := bcells b5); have own5 := g5.row own5) | (have hne5 := own_ne own5 b5 (by decide); (refine r_store_row 27 27 _ _ _ rfl (bv (z) (v5)) _ rfl b5 Try.ibsize rfl (bv_one (hone)) rfl ?_; intro w6 u6 b5'; have z6 := u6.size; have gg := u6.gr gg (by omega); have b1 := u6.blk b1 (by omega); clear b5; have b5 := b5'; clear b5'; obtain ⟨b5_0, b5_1⟩ := bcells b5); have own5 := u6.row own5 hne5) | (refine r_load_row 27 _ _ rfl _ _ _ b5 Try.underlying27 rfl Try.ibinfo rfl ?_) | ((go_at_call 26; refine (iHoleWays z L v5 _ _ own5 hl).mono ?_; rintro e w7 ⟨rfl, g7⟩; rw [← HOK.out, ← HVAL.out]; have z7 := g7.size; have b1 := g7.blk b1; have b5 := g7.blk b5; have gg := gg.trans g7); have own5 := g7.row own5))
    refine F_begin (fun w => Blk w B5 (bv z v5) 27) 3 5 #[false, false, false, false, false] rfl (by kernel_rfl) (by kernel_rfl) ?_
    have gd := (Gr.refl w7).drew
    have b1 := gd.blk b1
    have b5 := gd.blk b5
    have own5 := gd.row own5
    have gg := gg.trans gd
    have zd := gd.size
    generalize (w7).drew = wd at *
    refine F_take (v := .agg (bv z v5)) 0 #[true, false, false, false, false] rfl (by kernel_rfl) (fun _ _ _ h => h) rfl (fun w hF => e_load_row 27 (.tmp 6) _ _ _ _ rfl hF Try.underlying27 rfl Try.ibinfo) (b5) ?_; simp only [Act.put, List.setIfInBounds_toArray, List.set_cons_succ, List.set_cons_zero]
    refine F_one 1 #[true, true, false, false, false] rfl (by kernel_rfl) ?_
    (refine r_load_row 24 _ _ rfl _ _ _ b1 Try.underlying24 rfl Try.lbinfo rfl ?_)
    refine ⟨fun _ => b5, ?_⟩
    simp only [Act.put, List.setIfInBounds_toArray, List.set_cons_succ, List.set_cons_zero]
    refine F_one 2 #[true, true, true, false, false] rfl (by kernel_rfl) ?_
    refine r_callx 16 [.tmp 36] _ [.agg (bv z (.slice p L.length c))] (fun v w' => Gr wd w' ∧ ∃ u, v = .agg (bv z u) ∧ w'.ownsRow wd.heap.size 3 1 u L.length (intsV L)) Try.call16 rfl rfl ((toBoard_any z p c L _ (HR.out.gr gg) hl).mono fun e w' h => by obtain ⟨g, v, h1, h2⟩ := h; exact ⟨_, h1, g, v, rfl, h2⟩) ?_
    rintro _ w8 ⟨g8, v8, rfl, own8⟩
    have b5 := g8.blk b5
    have own5 := g8.row own5
    have gg := gg.trans g8
    refine ⟨fun _ => b5, ?_⟩
    simp only [Act.put, List.setIfInBounds_toArray, List.set_cons_succ, List.set_cons_zero]
    refine F_one 3 #[true, true, true, true, false] rfl (by kernel_rfl) ?_
    refine r_call 18 [.tmp 35, .tmp 37] _ [.agg (bv z v5), .agg (bv z v8)] (.bool true) (fun w' => Gr w8 w') Try.call18 rfl rfl (eqBoard_same z L v5 v8 _ _ w8 own5 own8 hl) ?_
    intro w9 g9
    have gg := gg.trans g9
    refine ⟨fun h => (by cases h), ?_⟩
    simp only [Act.put, List.setIfInBounds_toArray, List.set_cons_succ, List.set_cons_zero]
    refine F_one 4 #[true, true, true, true, true] rfl (by kernel_rfl) ?_
    refine r_val (.bool false) rfl rfl ?_
    refine ⟨fun h => (by cases h), ?_⟩
    simp only [Act.put, List.setIfInBounds_toArray, List.set_cons_succ, List.set_cons_zero]
    refine F_done (by kernel_rfl) ?_
    go_wp2
    go_ret
    exact ⟨rfl, gg⟩
end Go.Proofs.Ytgibpcmjfnmkdaa
