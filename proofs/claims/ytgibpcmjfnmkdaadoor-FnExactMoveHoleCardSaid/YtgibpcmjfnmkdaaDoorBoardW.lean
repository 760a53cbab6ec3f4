/-
  Moves along a word: in the program and in the model; the laws.
-/
import Derived.Test.YtgibpcmjfnmkdaaDoorBoardU
import Derived.Test.YtgibpcmjfnmkdaaDoorBWd
namespace Go.Proofs.YtgibpcmjfnmkdaaDoor
open Go.RowKit
theorem runB_append (W H : Nat) : ∀ (a b : List UInt8) (L : List Int), runB W H (a ++ b) L = (runB W H a L).bind (runB W H b)
  | [], b, L => rfl
  | x :: a, b, L => by
    rw [List.cons_append, runB, runB]
    cases h : ahd W H (hI L) (dI x).toNat with
    | none => rfl
    | some q => exact runB_append W H a b _
theorem runB_good {W H : Nat} (hW : 1 ≤ W) (hH : 1 ≤ H) : ∀ (a : List UInt8) (L M : List Int), hasAll L = true → L.length = nn W H → runB W H a L = some M → hasAll M = true ∧ M.length = nn W H
  | [], L, M, h1, h2, h => by cases h; exact ⟨h1, h2⟩
  | x :: a, L, M, h1, h2, h => by
    rw [runB] at h
    cases hq : ahd W H (hI L) (dI x).toNat with
    | none => rw [hq] at h; cases h
    | some q =>
      rw [hq] at h
      have hl : 0 < L.length := by rw [h2]; exact Nat.mul_pos hW hH
      obtain ⟨p1, p2, p3⟩ := hole_in h1 hl
      obtain ⟨q1, q2⟩ := ahd_lt hW (show hI L < nn W H by rw [← h2]; exact p1) hq
      exact runB_good hW hH a _ M (mvL_all h1 p1 (by rw [h2]; exact q1) p2 q2) (by rw [mvL_length]; exact h2) h
def mwR (z : Int) (L : List Int) (s : ByteArray) : Option (List Int) := if (bdOk z L && wordB s) = true then runB z.toNat (L.length / z.toNat) s.data.toList L else none
def mwW (z : Int) (L : List Int) (s : ByteArray) : Int := if (mwR z L s).isSome = true then z else 0
def mwL (z : Int) (L : List Int) (s : ByteArray) : List Int := (mwR z L s).getD []
def mwOk (z : Int) (L : List Int) (s : ByteArray) : Bool := (mwR z L s).isSome
theorem mw_no {z : Int} {L : List Int} {s : ByteArray} (h : mwR z L s = none) : mwW z L s = 0 ∧ mwL z L s = [] ∧ mwOk z L s = false := by
  unfold mwW mwL mwOk; rw [h]; exact ⟨rfl, rfl, rfl⟩
theorem mw_yes {z : Int} {L M : List Int} {s : ByteArray} (h : mwR z L s = some M) : mwW z L s = z ∧ mwL z L s = M ∧ mwOk z L s = true := by
  unfold mwW mwL mwOk; rw [h]; exact ⟨rfl, rfl, rfl⟩
theorem mwR_bad {z : Int} {L : List Int} {s : ByteArray} (h : bdOk z L = false) : mwR z L s = none := by unfold mwR; rw [h]; rfl
theorem mwR_word {z : Int} {L : List Int} {s : ByteArray} (h : wordB s = false) : mwR z L s = none := by unfold mwR; rw [h, Bool.and_false]; rfl
theorem mwR_run {W H : Nat} {L : List Int} {s : ByteArray} (h : bdOk W L = true) (hs : wordB s = true) (hl : L.length = nn W H) (hW : 1 ≤ W) : mwR W L s = runB W H s.data.toList L := by
  unfold mwR; rw [h, hs, Int.toNat_natCast, hl, nn_div hW]; rfl
theorem mwL_le (z : Int) (L : List Int) (s : ByteArray) : (mwL z L s).length ≤ 9 := by
  cases hm : mwR z L s with
  | none => rw [(mw_no hm).2.1]; exact Nat.zero_le _
  | some M =>
    rw [(mw_yes hm).2.1]
    rcases rdB_cases z L with ⟨h1, -⟩ | ⟨W, H, rfl, h1, -, hn, k1, k2, k3, k4, hA⟩
    · rw [mwR_bad h1] at hm; cases hm
    · cases hw : wordB s with
      | false => rw [mwR_word hw] at hm; cases hm
      | true =>
        rw [mwR_run h1 hw hn k1] at hm
        rw [(runB_good k1 k3 _ _ _ hA hn hm).2]
        exact Nat.mul_le_mul k2 k4
/-- One more byte. -/
theorem run_step {W H j : Nat} {c : List UInt8} {L M : List Int} (hj : j < c.length) (h : runB W H (c.take j) L = some M) :
    runB W H (c.take (j + 1)) L = (ahd W H (hI M) (dI (at0 c j)).toNat).map fun q => mvL M (hI M) q := by
  rw [List.take_succ_eq_append_getElem hj, runB_append, h]
  show runB W H [c[j]] M = _
  have e : at0 c j = c[j] := by unfold at0; simp [List.getD, hj]
  rw [runB, e]
  cases ahd W H (hI M) (dI c[j]).toNat <;> rfl
theorem run_stop {W H j : Nat} {c : List UInt8} {L M : List Int} (hj : j < c.length) (h : runB W H (c.take j) L = some M) (hn : ahd W H (hI M) (dI (at0 c j)).toNat = none) : runB W H c L = none := by
  have h1 := run_step hj h
  rw [hn] at h1
  have h2 := runB_append W H (c.take (j + 1)) (c.drop (j + 1)) L
  rw [List.take_append_drop, h1] at h2
  exact h2
theorem upd_bb {B : Nat} {w w' : World} (h : Upd B w w') {B' : Nat} {c : List UInt8} {e : TypeId} (hb : BB w B' c e) (hne : B' ≠ B) : BB w' B' c e := by
  obtain ⟨cs, fr, h1, h2⟩ := hb
  exact ⟨cs, fr, h.keep h1 hne, h2⟩
theorem Tryd.ixw (B n cap x : Nat) (hx : x < n) (w : World) : (Instr.indexAt 49 (.slice (some ⟨B, 0, none⟩) n cap) (.int .i64 x)).run Tryd.prog w = .ok (.pointer (some ⟨B, x, none⟩)) w := Tryd.ixb B n cap x hx w
set_option maxHeartbeats 2000000 in
set_option maxRecDepth 100000 in
theorem iMoveByWord (z : Int) (L : List Int) (s : ByteArray) (v : Value) (base : Nat) (w : World) (hown : w.ownsRow base 3 1 v L.length (intsV L)) (hl : L.length ≤ 1048576) :
    Calls Tryd.prog 15 #[.agg (bv z v), .string s] w (RetBb 3 (mwW z L s) (mwL z L s) (mwOk z L s) w) := by
  have gg := Gr.refl w
  have HOWN := hidI hown
  obtain ⟨p, m, q, rfl⟩ := own_slice hown
  clear hown
  rcases rdB_cases z L with ⟨h1, h2⟩ | ⟨W, H, rfl, h1, h2, hn, k1, k2, k3, k4, hA⟩
  · have HV := hidI h1
    have HR := hidI h2
    have HO := hidI (mw_no (mwR_bad (s := s) h1))
    clear h1 h2
    go_enter Tryd.func15, Tryd.ntmps15
    go_wp2_with (first | (refine r_box (dst := some 2) 26 _ (bv (z) (.slice p m q)) rfl rfl ?_; intro w1 B1 N1; have g1 := N1.gr; have b1 : Blk w1 B1 (bv (z) (.slice p m q)) 26 := N1.blk; have l1 := N1.lo; have t1 := N1.hi; have z1 := g1.size; have gg := gg.trans g1; clear N1; obtain ⟨b1_0, b1_1⟩ := bcells b1) | (refine r_alloc (dst := some 4) 26 _ Tryd.ibzero rfl ?_; intro w2 B2 N2; have g2 := N2.gr; have b2 : Blk w2 B2 (bv 0 (.slice none 0 0)) 26 := N2.blk; have l2 := N2.lo; have t2 := N2.hi; have z2 := g2.size; have b1 := g2.blk b1; have gg := gg.trans g2; clear N2; obtain ⟨b2_0, b2_1⟩ := bcells b2) | (refine r_load_row 26 _ _ rfl _ _ _ b1 Tryd.underlying26 rfl Tryd.ibinfo rfl ?_) | (go_at_call 32; refine (readBoard_any z L _ base _ (gg.row HOWN.out) hl).mono ?_; rintro e w9 ⟨rfl, g9⟩; rw [HR.out, HV.out]; have z9 := g9.size; have b2 := g9.blk b2; have gg := gg.trans g9) | (refine r_alloc 46 _ Tryd.lzero rfl ?_; intro w3 B3 N3; have g3 := N3.gr; have b3 : Blk w3 B3 (lv 0 0 []) 46 := N3.blk; have l3 := N3.lo; have t3 := N3.hi; have z3 := g3.size; have b2 := g3.blk b2; have gg := gg.trans g3; clear N3; obtain ⟨b3_0, b3_1, b3_2⟩ := lcells b3) | (refine r_store_row 46 46 _ _ _ rfl (lv (0) (0) ([])) _ rfl b3 (Tryd.lsize' _ _ _) (by simp only [lv_size]) (lv_one _ _ _) rfl ?_; intro w4 u4 b3'; have z4 := u4.size; have gg := u4.gr gg (by omega); have b2 := u4.blk b2 (by omega); clear b3; have b3 := b3'; clear b3'; obtain ⟨b3_0, b3_1, b3_2⟩ := lcells b3) | (refine r_build 26 [] [] _ (Tryd.ibbuild0 _) rfl rfl ?_) | (refine r_store_row 26 26 _ _ _ rfl (bv (0) (.slice none 0 0)) _ rfl b2 Tryd.ibsize rfl (bv_one (rfl)) rfl ?_; intro w5 u5 b2'; have z5 := u5.size; have gg := u5.gr gg (by omega); clear b2; have b2 := b2'; clear b2'; obtain ⟨b2_0, b2_1⟩ := bcells b2))
    refine bodyPost_ret (results_row_bool rfl _ _ _ _ _ _ rfl b2 Tryd.underlying26 rfl Tryd.ibinfo) rfl ?_
    refine ⟨gg, _, fin_vb2 HO.out.1.symm HO.out.2.2.symm, ?_⟩
    rw [HO.out.2.1]
    exact World.ownsRow_nil _ _ _ _
  · by_cases hw : wordB s = true
    · have HV := hidI h1
      have HR := hidI h2
      have HW := hidI hw
      have HRUN := hidI (mwR_run h1 hw hn k1)
      have HDIR := hidI (fun i (hi : i < s.data.toList.length) => word_at hw i hi)
      have HGD := hidI (fun j M (h : runB W H (s.data.toList.take j) L = some M) => runB_good k1 k3 _ L M hA hn h)
      have h40 := (wordB_iff.1 hw).1
      have hsz : s.data.toList.length = s.size := Array.length_toList
      have HSZ := hidI hsz
      have h9 : nn W H ≤ 9 := Nat.mul_le_mul k2 k4
      have h1n : 1 ≤ nn W H := Nat.mul_pos k1 k3
      obtain ⟨c, hc⟩ : ∃ c, c = s.data.toList := ⟨_, rfl⟩
      have HC := hidI hc
      rw [← hc] at HRUN HDIR HGD HSZ
      clear h1 h2 hn hA hw hsz hc
      go_enter Tryd.func15, Tryd.ntmps15
      go_wp2_with (first | (refine r_box (dst := some 2) 26 _ (bv (W) (.slice p m q)) rfl rfl ?_; intro w1 B1 N1; have g1 := N1.gr; have b1 : Blk w1 B1 (bv (W) (.slice p m q)) 26 := N1.blk; have l1 := N1.lo; have t1 := N1.hi; have z1 := g1.size; have gg := gg.trans g1; clear N1; obtain ⟨b1_0, b1_1⟩ := bcells b1) | (refine r_alloc (dst := some 4) 26 _ Tryd.ibzero rfl ?_; intro w2 B2 N2; have g2 := N2.gr; have b2 : Blk w2 B2 (bv 0 (.slice none 0 0)) 26 := N2.blk; have l2 := N2.lo; have t2 := N2.hi; have z2 := g2.size; have b1 := g2.blk b1; have gg := gg.trans g2; clear N2; obtain ⟨b2_0, b2_1⟩ := bcells b2) | (refine r_load_row 26 _ _ rfl _ _ _ b1 Tryd.underlying26 rfl Tryd.ibinfo rfl ?_) | (go_at_call 32; refine (readBoard_any W L _ base _ (gg.row HOWN.out) hl).mono ?_; rintro e w9 ⟨rfl, g9⟩; rw [HR.out, HV.out]; have z9 := g9.size; have b2 := g9.blk b2; have gg := gg.trans g9) | (refine r_alloc (dst := some 6) 46 _ Tryd.lzero rfl ?_; intro w6 B6 N6; have g6 := N6.gr; have b6 : Blk w6 B6 (lv 0 0 []) 46 := N6.blk; have l6 := N6.lo; have t6 := N6.hi; have z6 := g6.size; have b2 := g6.blk b2; have gg := gg.trans g6; clear N6; obtain ⟨b6_0, b6_1, b6_2⟩ := lcells b6) | (refine r_store_row 46 46 _ _ _ rfl (lv (W) (H) (L)) _ rfl b6 (Tryd.lsize' _ _ _) (by simp only [lv_size]) (lv_one _ _ _) rfl ?_; intro w7 u7 b6'; have z7 := u7.size; have gg := u7.gr gg (by omega); have b2 := u7.blk b2 (by omega); clear b6; have b6 := b6'; clear b6'; obtain ⟨b6_0, b6_1, b6_2⟩ := lcells b6) | (go_at_call 33; refine (iIsWord s _).mono ?_; rintro e w8 ⟨rfl, g8⟩; rw [HW.out]; have z8 := g8.size; have b2 := g8.blk b2; have b6 := g8.blk b6; have gg := gg.trans g8) | (refine r_bytes 9 49 5 _ s rfl Tryd.underlying9 Tryd.underlying49 Tryd.underlying5 rfl ?_; intro w5 B5 cap5 g5 l5 b5 hcap; have z5 := g5.size; have gg := gg.trans g5; have b2 := g5.blk b2; have b6 := g5.blk b6))
      rw [← HC.out] at b5
      go_loopw [7, 9, 26] (fun okv _ iv wr => ∃ (j : Nat) (M : List Int), j ≤ s.size ∧ iv = .int .i64 j ∧ okv = .bool true ∧ Blk wr B2 (bv 0 (.slice none 0 0)) 26 ∧ Blk wr B6 (lv W H M) 46 ∧ BB wr B5 c 5 ∧ Gr w wr ∧ Hid (runB W H (c.take j) L = some M)) (fun _ _ iv _ => s.size - (intOf iv).toNat)
      case atStart => exact ⟨0, L, Nat.zero_le _, rfl, rfl, b2, b6, b5, gg, rfl⟩
      case round =>
        obtain ⟨j, M, hj, rfl, rfl, b2, b6, b5, gg, HM⟩ := hrel
        have hB26 : B2 < B6 := by omega
        have hB65 : B6 < B5 := by omega
        have lo1 : w.heap.size ≤ B2 := by omega
        clear b2_0 b2_1 b6_0 b6_1 b6_2
        obtain ⟨hMA, hMl⟩ := HGD.out j M HM.out
        have HMA := hidI hMA
        have HML := hidI hMl
        have HM0 := hidI (zero_in hMA (by omega))
        by_cases hlt : j < s.size
        · have hjc : j < c.length := by rw [HSZ.out]; exact hlt
          have hcell := b5.cell j hjc
          have hix := Tryd.ixw B5 s.size cap5 j hlt
          have hd := HDIR.out j hjc
          have hST := run_step hjc HM.out
          have hSP := fun h => run_stop hjc HM.out h
          obtain ⟨b, hb⟩ : ∃ b, b = at0 c j := ⟨_, rfl⟩
          rw [← hb] at hcell hd hST hSP
          have HMV := hidI (fun w => movedHole_any W H M b w k1 k2 k4 HML.out HM0.out hd)
          clear hMA hMl hb hjc
          cases hq : ahd W H (hI M) (dI b).toNat with
          | none =>
            have h2 := mvV_none hq
            have HO := hidI (mw_no (HRUN.out.trans (hSP hq)))
            have HMV := hidI (fun w => show Calls Tryd.prog 34 #[.agg (lv W H M), .int .u8 b.toNat] w (Ret (.tuple #[.agg (lv 0 0 []), .bool false]) w) from by
              have h := HMV.out w
              rw [h2.1, h2.2] at h
              exact h)
            clear h2 hSP hST hq
            go_wp2_with (first | (refine r_load_row 46 _ _ rfl _ _ _ b6 Tryd.underlying46 rfl (Tryd.linfo' _ _ _) rfl ?_) | (go_at_call 34; refine (HMV.out _).mono ?_; rintro e w11 ⟨rfl, g11⟩; have z11 := g11.size; have b2 := g11.blk b2; have b6 := g11.blk b6; have gg := gg.trans g11) | (refine r_store_row 46 46 _ _ _ rfl (lv (0) (0) ([])) _ rfl b6 (Tryd.lsize' _ _ _) (by simp only [lv_size]) (lv_one _ _ _) rfl ?_; intro w12 u12 b6'; have z12 := u12.size; have gg := u12.gr gg (by omega); have b2 := u12.blk b2 (by omega); clear b6; have b6 := b6'; clear b6'; obtain ⟨b6_0, b6_1, b6_2⟩ := lcells b6) | (refine r_build 26 [] [] _ (Tryd.ibbuild0 _) rfl rfl ?_) | (refine r_store_row 26 26 _ _ _ rfl (bv (0) (.slice none 0 0)) _ rfl b2 Tryd.ibsize rfl (bv_one (rfl)) rfl ?_; intro w13 u13 b2'; have z13 := u13.size; have gg := u13.gr gg (by omega); clear b2; have b2 := b2'; clear b2'; obtain ⟨b2_0, b2_1⟩ := bcells b2))
            refine bodyPost_ret (results_row_bool rfl _ _ _ _ _ _ rfl b2 Tryd.underlying26 rfl Tryd.ibinfo) rfl ?_
            refine ⟨gg, _, fin_vb2 HO.out.1.symm HO.out.2.2.symm, ?_⟩
            rw [HO.out.2.1]
            exact World.ownsRow_nil _ _ _ _
          | some r =>
            have h2 := mvV_some hq
            have HST := hidI (show runB W H (c.take (j + 1)) L = some (mvL M (hI M) r) from by rw [hST, hq]; rfl)
            have HMV := hidI (fun w => show Calls Tryd.prog 34 #[.agg (lv W H M), .int .u8 b.toNat] w (Ret (.tuple #[.agg (lv W H (mvL M (hI M) r)), .bool true]) w) from by
              have h := HMV.out w
              rw [h2.1, h2.2] at h
              exact h)
            clear h2 hSP hST hq
            go_wp2_with (first | (refine r_load_row 46 _ _ rfl _ _ _ b6 Tryd.underlying46 rfl (Tryd.linfo' _ _ _) rfl ?_) | ((go_at_call 34; refine (HMV.out _).mono ?_; rintro e w11 ⟨rfl, g11⟩; have z11 := g11.size; have b2 := g11.blk b2; have b6 := g11.blk b6; have gg := gg.trans g11); have b5 := g11.bb b5) | ((refine r_store_row 46 46 _ _ _ rfl (lv (W) (H) (mvL M (hI M) r)) _ rfl b6 (Tryd.lsize' _ _ _) (by simp only [lv_size]) (lv_one _ _ _) rfl ?_; intro w12 u12 b6'; have z12 := u12.size; have gg := u12.gr gg (by omega); have b2 := u12.blk b2 (by omega); clear b6; have b6 := b6'; clear b6'; obtain ⟨b6_0, b6_1, b6_2⟩ := lcells b6); have b5 := upd_bb u12 b5 (by omega)))
            go_roundw
            case rel => exact ⟨j + 1, _, by omega, by go_num, rfl, b2, b6, b5, gg, HST.out⟩
            case measure => simp [intOf]; omega
        · obtain rfl : j = s.size := by omega
          have hall : runB W H c L = some M := by
            have h := HM.out
            rw [List.take_of_length_le (by rw [HSZ.out]; exact Nat.le_refl _)] at h
            exact h
          have HO := hidI (mw_yes (HRUN.out.trans hall))
          have zr := gg.size
          clear hlt hall hMA hMl
          go_wp2_with (refine r_load_row 46 _ _ rfl _ _ _ b6 Tryd.underlying46 rfl (Tryd.linfo' _ _ _) rfl ?_)
          refine (boardOf_any W H M _ HML.out h9).mono ?_
          rintro e w13 ⟨g13, v13, rfl, own13⟩
          have b2 := g13.blk b2
          have z13 := g13.size
          have gg := gg.trans g13
          have hone := own_one own13
          have hne := own_ne own13 b2 (by decide)
          go_wp2_with (refine r_store_row 26 26 _ _ _ rfl (bv (W) (v13)) _ rfl b2 Tryd.ibsize rfl (bv_one (hone)) rfl ?_; intro w14 u14 b2'; have z14 := u14.size; have gg := u14.gr gg (by omega); clear b2; have b2 := b2'; clear b2'; obtain ⟨b2_0, b2_1⟩ := bcells b2)
          refine bodyPost_ret (results_row_bool rfl _ _ _ _ _ _ rfl b2 Tryd.underlying26 rfl Tryd.ibinfo) rfl ?_
          refine ⟨gg, v13, fin_vb2 HO.out.1.symm HO.out.2.2.symm, ?_⟩
          rw [HO.out.2.1]
          exact own_up (u14.row own13 hne) (by omega)
    · have hw' : wordB s = false := by simpa using hw
      have HV := hidI h1
      have HR := hidI h2
      have HW := hidI hw'
      have HO := hidI (mw_no (mwR_word (z := (W : Int)) (L := L) hw'))
      clear h1 h2 hw hw' hn hA
      go_enter Tryd.func15, Tryd.ntmps15
      go_wp2_with (first | (refine r_box (dst := some 2) 26 _ (bv (W) (.slice p m q)) rfl rfl ?_; intro w1 B1 N1; have g1 := N1.gr; have b1 : Blk w1 B1 (bv (W) (.slice p m q)) 26 := N1.blk; have l1 := N1.lo; have t1 := N1.hi; have z1 := g1.size; have gg := gg.trans g1; clear N1; obtain ⟨b1_0, b1_1⟩ := bcells b1) | (refine r_alloc (dst := some 4) 26 _ Tryd.ibzero rfl ?_; intro w2 B2 N2; have g2 := N2.gr; have b2 : Blk w2 B2 (bv 0 (.slice none 0 0)) 26 := N2.blk; have l2 := N2.lo; have t2 := N2.hi; have z2 := g2.size; have b1 := g2.blk b1; have gg := gg.trans g2; clear N2; obtain ⟨b2_0, b2_1⟩ := bcells b2) | (refine r_load_row 26 _ _ rfl _ _ _ b1 Tryd.underlying26 rfl Tryd.ibinfo rfl ?_) | (go_at_call 32; refine (readBoard_any W L _ base _ (gg.row HOWN.out) hl).mono ?_; rintro e w9 ⟨rfl, g9⟩; rw [HR.out, HV.out]; have z9 := g9.size; have b2 := g9.blk b2; have gg := gg.trans g9) | (refine r_alloc (dst := some 6) 46 _ Tryd.lzero rfl ?_; intro w6 B6 N6; have g6 := N6.gr; have b6 : Blk w6 B6 (lv 0 0 []) 46 := N6.blk; have l6 := N6.lo; have t6 := N6.hi; have z6 := g6.size; have b2 := g6.blk b2; have gg := gg.trans g6; clear N6; obtain ⟨b6_0, b6_1, b6_2⟩ := lcells b6) | (refine r_store_row 46 46 _ _ _ rfl (lv (W) (H) (L)) _ rfl b6 (Tryd.lsize' _ _ _) (by simp only [lv_size]) (lv_one _ _ _) rfl ?_; intro w7 u7 b6'; have z7 := u7.size; have gg := u7.gr gg (by omega); have b2 := u7.blk b2 (by omega); clear b6; have b6 := b6'; clear b6'; obtain ⟨b6_0, b6_1, b6_2⟩ := lcells b6) | (go_at_call 33; refine (iIsWord s _).mono ?_; rintro e w8 ⟨rfl, g8⟩; rw [HW.out]; have z8 := g8.size; have b2 := g8.blk b2; have gg := gg.trans g8) | (refine r_build 26 [] [] _ (Tryd.ibbuild0 _) rfl rfl ?_) | (refine r_store_row 26 26 _ _ _ rfl (bv (0) (.slice none 0 0)) _ rfl b2 Tryd.ibsize rfl (bv_one (rfl)) rfl ?_; intro w5 u5 b2'; have z5 := u5.size; have gg := u5.gr gg (by omega); clear b2; have b2 := b2'; clear b2'; obtain ⟨b2_0, b2_1⟩ := bcells b2))
      refine bodyPost_ret (results_row_bool rfl _ _ _ _ _ _ rfl b2 Tryd.underlying26 rfl Tryd.ibinfo) rfl ?_
      refine ⟨gg, _, fin_vb2 HO.out.1.symm HO.out.2.2.symm, ?_⟩
      rw [HO.out.2.1]
      exact World.ownsRow_nil _ _ _ _
set_option maxHeartbeats 2000000 in
set_option maxRecDepth 100000 in
theorem sMoveByWord (z : Int) (L : List Int) (s : ByteArray) (v : Value) (base : Nat) (w : World) (hown : w.ownsRow base 3 1 v L.length (intsV L)) (hl : L.length ≤ 1048576) :
    Calls Tryd.prog 14 #[.agg (bv z v), .string s] w (RetBb 3 (mwW z L s) (mwL z L s) (mwOk z L s) w) := by
  have gg := Gr.refl w
  rcases rdB_cases z L with ⟨h1, h2⟩ | ⟨W, H, rfl, h1, h2, hn, k1, k2, k3, k4, hA⟩
  · have HOWN := hidI hown
    obtain ⟨p, m, q, rfl⟩ := own_slice hown
    clear hown
    have HV := hidI h1
    have HO := hidI (mw_no (mwR_bad (s := s) h1))
    clear h1 h2
    go_enter Tryd.func14, Tryd.ntmps14
    go_wp2_with (first | (refine r_box (dst := some 2) 26 _ (bv (z) (.slice p m q)) rfl rfl ?_; intro w1 B1 N1; have g1 := N1.gr; have b1 : Blk w1 B1 (bv (z) (.slice p m q)) 26 := N1.blk; have l1 := N1.lo; have t1 := N1.hi; have z1 := g1.size; have gg := gg.trans g1; clear N1; obtain ⟨b1_0, b1_1⟩ := bcells b1) | (refine r_alloc (dst := some 4) 26 _ Tryd.ibzero rfl ?_; intro w2 B2 N2; have g2 := N2.gr; have b2 : Blk w2 B2 (bv 0 (.slice none 0 0)) 26 := N2.blk; have l2 := N2.lo; have t2 := N2.hi; have z2 := g2.size; have b1 := g2.blk b1; have gg := gg.trans g2; clear N2; obtain ⟨b2_0, b2_1⟩ := bcells b2) | (refine r_load_row 26 _ _ rfl _ _ _ b1 Tryd.underlying26 rfl Tryd.ibinfo rfl ?_) | (go_at_call 27; refine (blGood_any z L _ base _ (gg.row HOWN.out) hl).mono ?_; rintro e w9 ⟨rfl, g9⟩; rw [HV.out]; have z9 := g9.size; have b2 := g9.blk b2; have gg := gg.trans g9) | (refine r_build 26 [] [] _ (Tryd.ibbuild0 _) rfl rfl ?_) | (refine r_store_row 26 26 _ _ _ rfl (bv (0) (.slice none 0 0)) _ rfl b2 Tryd.ibsize rfl (bv_one (rfl)) rfl ?_; intro w5 u5 b2'; have z5 := u5.size; have gg := u5.gr gg (by omega); clear b2; have b2 := b2'; clear b2'; obtain ⟨b2_0, b2_1⟩ := bcells b2))
    refine bodyPost_ret (results_row_bool rfl _ _ _ _ _ _ rfl b2 Tryd.underlying26 rfl Tryd.ibinfo) rfl ?_
    refine ⟨gg, _, fin_vb2 HO.out.1.symm HO.out.2.2.symm, ?_⟩
    rw [HO.out.2.1]
    exact World.ownsRow_nil _ _ _ _
  · by_cases hw : wordB s = true
    · have HV := hidI h1
      have HW := hidI hw
      have HRUN := hidI (mwR_run h1 hw hn k1)
      have HDIR := hidI (fun i (hi : i < s.data.toList.length) => word_at hw i hi)
      have HGD := hidI (fun j M (h : runB W H (s.data.toList.take j) L = some M) => runB_good k1 k3 _ L M hA hn h)
      have h40 := (wordB_iff.1 hw).1
      have hsz : s.data.toList.length = s.size := Array.length_toList
      have HSZ := hidI hsz
      have h9 : nn W H ≤ 9 := Nat.mul_le_mul k2 k4
      have h1n : 1 ≤ nn W H := Nat.mul_pos k1 k3
      obtain ⟨n, hnn⟩ : ∃ n, n = L.length := ⟨_, rfl⟩
      have hn1 : 1 ≤ n := by omega
      have hn9 : n ≤ 9 := by omega
      have hlm : L.length ≤ 1048576 := hl
      have HN := hidI hnn
      have HNW := hidI (show n = nn W H by omega)
      have hown2 := hown
      rw [← hnn] at hown2
      obtain ⟨g0, q0, rfl, lg0, hq0⟩ := own_shape hown2 hn1
      obtain ⟨p, hp⟩ : ∃ p, p = (some ⟨g0, 0, none⟩ : Option Addr) := ⟨_, rfl⟩
      have HOW := hidI (fun w' (g : Gr w w') => g.row hown)
      rw [← hp] at HOW ⊢
      obtain ⟨c, hc⟩ : ∃ c, c = s.data.toList := ⟨_, rfl⟩
      have HC := hidI hc
      have HAT := hidI (fun i (hi : i < s.size) => show (s[i]'hi) = at0 c i from by rw [hc, ByteArray.getElem_eq_getElem_data]; unfold at0; simp [List.getD, hi])
      rw [← hc] at HRUN HDIR HGD HSZ
      clear h1 h2 hn hA hw hsz hc hown hown2 hnn hp
      go_enter Tryd.func14, Tryd.ntmps14
      go_wp2_with (first | (refine r_box (dst := some 2) 26 _ (bv (W) (.slice p n q0)) rfl rfl ?_; intro w1 B1 N1; have g1 := N1.gr; have b1 : Blk w1 B1 (bv (W) (.slice p n q0)) 26 := N1.blk; have l1 := N1.lo; have t1 := N1.hi; have z1 := g1.size; have gg := gg.trans g1; clear N1; obtain ⟨b1_0, b1_1⟩ := bcells b1) | (refine r_alloc (dst := some 4) 26 _ Tryd.ibzero rfl ?_; intro w2 B2 N2; have g2 := N2.gr; have b2 : Blk w2 B2 (bv 0 (.slice none 0 0)) 26 := N2.blk; have l2 := N2.lo; have t2 := N2.hi; have z2 := g2.size; have b1 := g2.blk b1; have gg := gg.trans g2; clear N2; obtain ⟨b2_0, b2_1⟩ := bcells b2) | (refine r_load_row 26 _ _ rfl _ _ _ b1 Tryd.underlying26 rfl Tryd.ibinfo rfl ?_) | (go_at_call 27; refine (blGood_any W L _ base _ (HOW.out _ gg) hl).mono ?_; rintro e w7 ⟨rfl, g7⟩; rw [HV.out]; have z7 := g7.size; have b1 := g7.blk b1; have b2 := g7.blk b2; have gg := gg.trans g7) | (go_at_call 28; refine (tiWord_any s _).mono ?_; rintro e w8 ⟨rfl, g8⟩; rw [HW.out]; have z8 := g8.size; have b1 := g8.blk b1; have b2 := g8.blk b2; have gg := gg.trans g8))
      refine F_begin (fun w => Blk w B1 (bv W (.slice p n q0)) 26) 7 8 #[false, false, false, false, false, false, false, false] rfl (by kernel_rfl) (by kernel_rfl) ?_
      have gdr := (Gr.refl w8).drew
      have b1 := gdr.blk b1
      have b2 := gdr.blk b2
      have gg := gg.trans gdr
      have zd := gdr.size
      have zg := gg.size
      generalize (w8).drew = wd at *
      clear gdr
      refine F_take (v := .pointer (some ⟨B1, 0, none⟩)) 0 #[true, false, false, false, false, false, false, false] rfl (by kernel_rfl) (fun _ _ _ h => h) rfl (fun w hF => rfl) (b1) ?_; simp only [Act.put, List.setIfInBounds_toArray, List.set_cons_succ, List.set_cons_zero]
      refine F_take (v := .int .i64 W) 1 #[true, true, false, false, false, false, false, false] rfl (by kernel_rfl) (fun _ _ _ h => h) rfl (fun w hF => e_load 3 (.tmp 18) ⟨B1, 0, none⟩ _ rfl (Tryd.isAgg3 _) ((bcells hF).1)) (b1) ?_; simp only [Act.put, List.setIfInBounds_toArray, List.set_cons_succ, List.set_cons_zero]
      refine F_take (v := .pointer (some ⟨B1, 1, none⟩)) 2 #[true, true, true, false, false, false, false, false] rfl (by kernel_rfl) (fun _ _ _ h => h) rfl (fun w hF => rfl) (b1) ?_; simp only [Act.put, List.setIfInBounds_toArray, List.set_cons_succ, List.set_cons_zero]
      refine F_take (v := .slice p n q0) 3 #[true, true, true, true, false, false, false, false] rfl (by kernel_rfl) (fun _ _ _ h => h) rfl (fun w hF => e_load 22 (.tmp 20) ⟨B1, 1, none⟩ _ rfl (Tryd.isAgg22 _) ((bcells hF).2)) (b1) ?_; simp only [Act.put, List.setIfInBounds_toArray, List.set_cons_succ, List.set_cons_zero]
      refine F_two 4 6 #[true, true, true, true, true, false, false, false] #[true, true, true, true, false, false, true, false] rfl rfl (by kernel_rfl) ?_ ?_
      case' refine_1 =>
        refine r_callx 29 [.tmp 21] _ [.slice p n q0] (fun v w' => Gr wd w' ∧ w'.ownsRow (wd).heap.size 3 1 v L.length (intsV L)) Tryd.call29 rfl rfl ((l1Own_any _ L base wd (HOW.out _ gg) hlm).mono fun e w' h => by obtain ⟨g, v, h1, h2⟩ := h; exact ⟨v, h1, g, h2⟩) ?_
        rintro v5 w5 ⟨g5, own5⟩
        have own5 := own_up own5 (show w.heap.size ≤ (wd).heap.size by omega)
        have b1 := g5.blk b1
        have b2 := g5.blk b2
        have gg := gg.trans g5
        have z5 := g5.size
        rw [← HN.out] at own5
        obtain ⟨g50, c5, rfl, l5, hc5⟩ := own_shape own5 hn1
        refine ⟨fun _ => b1, ?_⟩
        simp only [Act.put, List.setIfInBounds_toArray, List.set_cons_succ, List.set_cons_zero]
        refine F_free (v := .agg (bv W (.slice (some ⟨g50, 0, none⟩) n c5))) 5 #[true, true, true, true, true, true, false, false] rfl (by kernel_rfl) (fun _ _ _ h => h) rfl (fun _ => e_build 26 [(0, .tmp 19), (1, .tmp 22)] [(0, .int .i64 W), (1, .slice (some ⟨g50, 0, none⟩) n c5)] _ (Tryd.ibbuild _ _ _ _ _) rfl) (b1) ?_
        simp only [Act.put, List.setIfInBounds_toArray, List.set_cons_succ, List.set_cons_zero]
        refine F_one 6 #[true, true, true, true, true, true, true, false] rfl (by kernel_rfl) ?_
        (refine r_alloc 26 _ Tryd.ibzero rfl ?_; intro w6 B6 N6; have g6 := N6.gr; have b6 : Blk w6 B6 (bv 0 (.slice none 0 0)) 26 := N6.blk; have l6 := N6.lo; have t6 := N6.hi; have z6 := g6.size; have b1 := g6.blk b1; have b2 := g6.blk b2; have gg := gg.trans g6; clear N6; obtain ⟨b6_0, b6_1⟩ := bcells b6)
        have own5 := g6.row own5
        have hne6 := own_ne own5 b6 (by decide)
        refine ⟨fun _ => b1, ?_⟩
        simp only [Act.put, List.setIfInBounds_toArray, List.set_cons_succ, List.set_cons_zero]
        refine F_one 7 #[true, true, true, true, true, true, true, true] rfl (by kernel_rfl) ?_
        (refine r_store_row 26 26 _ _ _ rfl (bv (W) (.slice (some ⟨g50, 0, none⟩) n c5)) _ rfl b6 Tryd.ibsize rfl (bv_one (rfl)) rfl ?_; intro w7 u7 b6'; have z7 := u7.size; have gg := u7.gr gg (by omega); have b1 := u7.blk b1 (by omega); have b2 := u7.blk b2 (by omega); clear b6; have b6 := b6'; clear b6'; obtain ⟨b6_0, b6_1⟩ := bcells b6)
        have own5 := u7.row own5 hne6
        refine ⟨fun h => (by cases h), ?_⟩
        simp only [Act.put]
        refine F_done (by kernel_rfl) ?_
      case' refine_2 =>
        (refine r_alloc 26 _ Tryd.ibzero rfl ?_; intro w6 B6 N6; have g6 := N6.gr; have b6 : Blk w6 B6 (bv 0 (.slice none 0 0)) 26 := N6.blk; have l6 := N6.lo; have t6 := N6.hi; have z6 := g6.size; have b1 := g6.blk b1; have b2 := g6.blk b2; have gg := gg.trans g6; clear N6; obtain ⟨b6_0, b6_1⟩ := bcells b6)
        refine ⟨fun _ => b1, ?_⟩
        simp only [Act.put, List.setIfInBounds_toArray, List.set_cons_succ, List.set_cons_zero]
        refine F_one 4 #[true, true, true, true, true, false, true, false] rfl (by kernel_rfl) ?_
        refine r_callx 29 [.tmp 21] _ [.slice p n q0] (fun v w' => Gr w6 w' ∧ w'.ownsRow (w6).heap.size 3 1 v L.length (intsV L)) Tryd.call29 rfl rfl ((l1Own_any _ L base w6 (HOW.out _ gg) hlm).mono fun e w' h => by obtain ⟨g, v, h1, h2⟩ := h; exact ⟨v, h1, g, h2⟩) ?_
        rintro v5 w5 ⟨g5, own5⟩
        have own5 := own_up own5 (show w.heap.size ≤ (w6).heap.size by omega)
        have b1 := g5.blk b1
        have b2 := g5.blk b2
        have gg := gg.trans g5
        have z5 := g5.size
        rw [← HN.out] at own5
        obtain ⟨g50, c5, rfl, l5, hc5⟩ := own_shape own5 hn1
        have b6 := g5.blk b6
        refine ⟨fun _ => b1, ?_⟩
        simp only [Act.put, List.setIfInBounds_toArray, List.set_cons_succ, List.set_cons_zero]
        refine F_free (v := .agg (bv W (.slice (some ⟨g50, 0, none⟩) n c5))) 5 #[true, true, true, true, true, true, true, false] rfl (by kernel_rfl) (fun _ _ _ h => h) rfl (fun _ => e_build 26 [(0, .tmp 19), (1, .tmp 22)] [(0, .int .i64 W), (1, .slice (some ⟨g50, 0, none⟩) n c5)] _ (Tryd.ibbuild _ _ _ _ _) rfl) (b1) ?_
        simp only [Act.put, List.setIfInBounds_toArray, List.set_cons_succ, List.set_cons_zero]
        have hne6 := own_ne own5 b6 (by decide)
        refine F_one 7 #[true, true, true, true, true, true, true, true] rfl (by kernel_rfl) ?_
        (refine r_store_row 26 26 _ _ _ rfl (bv (W) (.slice (some ⟨g50, 0, none⟩) n c5)) _ rfl b6 Tryd.ibsize rfl (bv_one (rfl)) rfl ?_; intro w7 u7 b6'; have z7 := u7.size; have gg := u7.gr gg (by omega); have b1 := u7.blk b1 (by omega); have b2 := u7.blk b2 (by omega); clear b6; have b6 := b6'; clear b6'; obtain ⟨b6_0, b6_1⟩ := bcells b6)
        have own5 := u7.row own5 hne6
        refine ⟨fun h => (by cases h), ?_⟩
        simp only [Act.put]
        refine F_done (by kernel_rfl) ?_
      all_goals
        have own5 : _ := own5
        go_wp2
        go_loopw [7, 8] (fun iv _ wr => ∃ (j : Nat) (M : List Int) (sl : Value), j ≤ s.size ∧ iv = .int .i64 j ∧ Blk wr B2 (bv 0 (.slice none 0 0)) 26 ∧ Blk wr B6 (bv W sl) 26 ∧ wr.ownsRow w.heap.size 3 1 sl M.length (intsV M) ∧ Gr w wr ∧ Hid (runB W H (c.take j) L = some M)) (fun iv _ _ => s.size - (intOf iv).toNat)
        case atStart => exact ⟨0, L, _, Nat.zero_le _, rfl, b2, b6, by rw [← HN.out]; exact own5, gg, rfl⟩
        case round =>
          obtain ⟨j, M, sl, hj, rfl, b2, b6, own, gg, HM⟩ := hrel
          obtain ⟨hMA, hMl⟩ := HGD.out j M HM.out
          have HML := hidI hMl
          have HM0 := hidI (zero_in hMA (by omega))
          have hMlm : M.length ≤ 1048576 := by omega
          have hB2l := b2.lt
          have zr := gg.size
          have hB26 : B2 < B6 := by omega
          have lo1 : w.heap.size ≤ B2 := by omega
          clear b2_0 b2_1 b6_0 b6_1
          have honeS := own_one own
          by_cases hlt : j < s.size
          · have hjc : j < c.length := by rw [HSZ.out]; exact hlt
            have hss := fun w => Tryd.ssub s j hlt w
            rw [HAT.out j hlt] at hss
            have hd := HDIR.out j hjc
            have hST := run_step hjc HM.out
            have hSP := fun h => run_stop hjc HM.out h
            obtain ⟨b, hb⟩ : ∃ b, b = at0 c j := ⟨_, rfl⟩
            rw [← hb] at hss hd hST hSP
            obtain ⟨d, hdi, hd4⟩ := rot_index hd
            have HDS := hidI (show dS ⟨#[b]⟩ = (d : Int) from by rw [← hdi]; rfl)
            rw [hdi, Int.toNat_natCast] at hST hSP
            have HAH := hidI (fun w' h => ahead_any W H d M sl w.heap.size w' h k1 k2 k4 HML.out HM0.out hd4)
            clear hMA hMl hb hjc hdi hd
            cases hq : ahd W H (hI M) d with
            | none =>
              have HI := hidI (show ahI W H (hI M) d = -1 from ahI_none hq)
              have HO := hidI (mw_no (HRUN.out.trans (hSP hq)))
              clear hSP hST hq
              go_wp2_with (first | ((go_at_call 21; refine (tiDir_any _ _).mono ?_; rintro e w11 ⟨rfl, g11⟩; rw [HDS.out]; have z11 := g11.size; have b2 := g11.blk b2; have b6 := g11.blk b6; have gg := gg.trans g11); have own := g11.row own) | (refine r_load_row 26 _ _ rfl _ _ _ b6 Tryd.underlying26 rfl Tryd.ibinfo rfl ?_) | (go_at_call 30; refine (HAH.out _ own).mono ?_; rintro e w12 ⟨rfl, g12⟩; rw [HI.out]; have z12 := g12.size; have b2 := g12.blk b2; have b6 := g12.blk b6; have gg := gg.trans g12) | (refine r_build 26 [] [] _ (Tryd.ibbuild0 _) rfl rfl ?_) | (refine r_store_row 26 26 _ _ _ rfl (bv (0) (.slice none 0 0)) _ rfl b2 Tryd.ibsize rfl (bv_one (rfl)) rfl ?_; intro w13 u13 b2'; have z13 := u13.size; have gg := u13.gr gg (by omega); clear b2; have b2 := b2'; clear b2'; obtain ⟨b2_0, b2_1⟩ := bcells b2))
              refine bodyPost_ret (results_row_bool rfl _ _ _ _ _ _ rfl b2 Tryd.underlying26 rfl Tryd.ibinfo) rfl ?_
              refine ⟨gg, _, fin_vb2 HO.out.1.symm HO.out.2.2.symm, ?_⟩
              rw [HO.out.2.1]
              exact World.ownsRow_nil _ _ _ _
            | some r =>
              have HI := hidI (show ahI W H (hI M) d = (r : Nat) from ahI_some hq)
              have HST := hidI (show runB W H (c.take (j + 1)) L = some (mvL M (hI M) r) from by rw [hST, hq]; rfl)
              have HMV := hidI (fun w' h => blMove_any W H d r M sl w.heap.size w' h k1 k2 k4 HML.out HM0.out hd4 hq)
              clear hSP hST hq
              go_wp2_with (first | ((go_at_call 21; refine (tiDir_any _ _).mono ?_; rintro e w11 ⟨rfl, g11⟩; rw [HDS.out]; have z11 := g11.size; have b2 := g11.blk b2; have b6 := g11.blk b6; have gg := gg.trans g11); have own := g11.row own) | (refine r_load_row 26 _ _ rfl _ _ _ b6 Tryd.underlying26 rfl Tryd.ibinfo rfl ?_) | ((go_at_call 30; refine (HAH.out _ own).mono ?_; rintro e w12 ⟨rfl, g12⟩; rw [HI.out]; have z12 := g12.size; have b2 := g12.blk b2; have b6 := g12.blk b6; have gg := gg.trans g12); have own := g12.row own))
              refine (HMV.out _ own).mono ?_
              rintro e w14 ⟨g14, v14, rfl, own14⟩
              have b2 := g14.blk b2
              have b6 := g14.blk b6
              have z14 := g14.size
              have gg := gg.trans g14
              have hone := own_one own14
              have hne := own_ne own14 b6 (by decide)
              go_wp2_with (refine r_store_row 26 26 _ _ _ rfl (bv (W) (v14)) _ rfl b6 Tryd.ibsize rfl (bv_one (hone)) rfl ?_; intro w15 u15 b6'; have z15 := u15.size; have gg := u15.gr gg (by omega); have b2 := u15.blk b2 (by omega); clear b6; have b6 := b6'; clear b6'; obtain ⟨b6_0, b6_1⟩ := bcells b6)
              go_roundw
              case rel => exact ⟨j + 1, _, v14, by omega, by go_num, b2, b6, own_up (u15.row own14 hne) (by omega), gg, HST.out⟩
              case measure => simp [intOf]; omega
          · obtain rfl : j = s.size := by omega
            have hall : runB W H c L = some M := by
              have h := HM.out
              rw [List.take_of_length_le (by rw [HSZ.out]; exact Nat.le_refl _)] at h
              exact h
            have HO := hidI (mw_yes (HRUN.out.trans hall))
            have hne := own_ne own b2 (by decide)
            clear hlt hall hMA hMl
            go_wp2_with (first | (refine r_load_row 26 _ _ rfl _ _ _ b6 Tryd.underlying26 rfl Tryd.ibinfo rfl ?_) | (refine r_store_row 26 26 _ _ _ rfl (bv (W) (sl)) _ rfl b2 Tryd.ibsize rfl (bv_one (honeS)) rfl ?_; intro w14 u14 b2'; have z14 := u14.size; have gg := u14.gr gg (by omega); clear b2; have b2 := b2'; clear b2'; obtain ⟨b2_0, b2_1⟩ := bcells b2))
            refine bodyPost_ret (results_row_bool rfl _ _ _ _ _ _ rfl b2 Tryd.underlying26 rfl Tryd.ibinfo) rfl ?_
            refine ⟨gg, sl, fin_vb2 HO.out.1.symm HO.out.2.2.symm, ?_⟩
            rw [HO.out.2.1]
            exact u14.row own hne
    · have HOWN := hidI hown
      obtain ⟨p, m, q, rfl⟩ := own_slice hown
      clear hown
      have hw' : wordB s = false := by simpa using hw
      have HV := hidI h1
      have HW := hidI hw'
      have HO := hidI (mw_no (mwR_word (z := (W : Int)) (L := L) hw'))
      clear h1 h2 hw hw' hn hA
      go_enter Tryd.func14, Tryd.ntmps14
      go_wp2_with (first | (refine r_box (dst := some 2) 26 _ (bv (W) (.slice p m q)) rfl rfl ?_; intro w1 B1 N1; have g1 := N1.gr; have b1 : Blk w1 B1 (bv (W) (.slice p m q)) 26 := N1.blk; have l1 := N1.lo; have t1 := N1.hi; have z1 := g1.size; have gg := gg.trans g1; clear N1; obtain ⟨b1_0, b1_1⟩ := bcells b1) | (refine r_alloc (dst := some 4) 26 _ Tryd.ibzero rfl ?_; intro w2 B2 N2; have g2 := N2.gr; have b2 : Blk w2 B2 (bv 0 (.slice none 0 0)) 26 := N2.blk; have l2 := N2.lo; have t2 := N2.hi; have z2 := g2.size; have b1 := g2.blk b1; have gg := gg.trans g2; clear N2; obtain ⟨b2_0, b2_1⟩ := bcells b2) | (refine r_load_row 26 _ _ rfl _ _ _ b1 Tryd.underlying26 rfl Tryd.ibinfo rfl ?_) | (go_at_call 27; refine (blGood_any W L _ base _ (gg.row HOWN.out) hl).mono ?_; rintro e w9 ⟨rfl, g9⟩; rw [HV.out]; have z9 := g9.size; have b2 := g9.blk b2; have gg := gg.trans g9) | (go_at_call 28; refine (tiWord_any s _).mono ?_; rintro e w8 ⟨rfl, g8⟩; rw [HW.out]; have z8 := g8.size; have b2 := g8.blk b2; have gg := gg.trans g8) | (refine r_build 26 [] [] _ (Tryd.ibbuild0 _) rfl rfl ?_) | (refine r_store_row 26 26 _ _ _ rfl (bv (0) (.slice none 0 0)) _ rfl b2 Tryd.ibsize rfl (bv_one (rfl)) rfl ?_; intro w5 u5 b2'; have z5 := u5.size; have gg := u5.gr gg (by omega); clear b2; have b2 := b2'; clear b2'; obtain ⟨b2_0, b2_1⟩ := bcells b2))
      refine bodyPost_ret (results_row_bool rfl _ _ _ _ _ _ rfl b2 Tryd.underlying26 rfl Tryd.ibinfo) rfl ?_
      refine ⟨gg, _, fin_vb2 HO.out.1.symm HO.out.2.2.symm, ?_⟩
      rw [HO.out.2.1]
      exact World.ownsRow_nil _ _ _ _
end Go.Proofs.YtgibpcmjfnmkdaaDoor
