/-
  Orders in the program: the ways of a list, and whether a list is an order.
-/
import Derived.Test.YtdebiobhmpoiiaaDoorOrdI
namespace Go.Proofs.YtdebiobhmpoiiaaDoor
open Go.RowKit
theorem fin_sbO {a b : ByteArray} {c d : Bool} (h1 : a = b) (h2 : c = d) : Ending.returned (.tuple #[.string a, .bool c]) = .returned (.tuple #[.string b, .bool d]) := by rw [h1, h2]
theorem fin_bbO {a b c d : Bool} (h1 : a = c) (h2 : b = d) : Ending.returned (.tuple #[.bool a, .bool b]) = .returned (.tuple #[.bool c, .bool d]) := by rw [h1, h2]
theorem od_bad {l : List UInt8} {L : List Int} (h : fmOk l = false) : odOk l L = false ∧ odB l L = ByteArray.empty := by
  have e : odOk l L = false := by unfold odOk; rw [h]; rfl
  exact ⟨e, by unfold odB; rw [e]; rfl⟩
theorem od_of {l : List UInt8} {L : List Int} {g : Grid} (h : fmOk l = true) (hg : rdG l = g) : odOk l L = orOkG g L ∧ odB l L = if orOkG g L then mkS (orW g.w g.h L L.length) else ByteArray.empty := by
  have e : odOk l L = orOkG g L := by unfold odOk; rw [h, hg]; rfl
  exact ⟨e, by unfold odB; rw [e, hg]⟩
set_option maxHeartbeats 1000000 in
set_option maxRecDepth 100000 in
theorem iWaysOfOrder (s : ByteArray) (L : List Int) (sl : Value) (bL : Nat) (w : World) (hm : ML w) (hs : s.size ≤ 1048576) (hL : L.length ≤ 1048576) (hown : w.ownsRow bL 3 1 sl L.length (intsV L)) :
    Calls Tryd.prog 22 #[.string s, sl] w (Ret (.tuple #[.string (odB s.data.toList L), .bool (odOk s.data.toList L)]) w) := by
  have gg := Gr.refl w
  have HRB := hidI (fun w (hm : ML w) => readBuilding_any s w hm hs)
  obtain ⟨p, q, rfl⟩ := own_slO hown
  rcases fm_cases s.data.toList with ⟨hk, hg⟩ | ⟨g, hp, hg, hk, hf, hfg, F⟩
  · have HK := hidI hk
    have HG := hidI hg
    obtain ⟨e1, e2⟩ := od_bad (L := L) hk
    have HO := hidI e1
    have HV := hidI e2
    clear hk hg e1 e2
    go_enter Tryd.func22, Tryd.ntmps22
    go_wp2_with (first | (go_at_call 43; refine (HRB.out _ (gg.ml hm)).mono ?_; rintro e w1 ⟨g1, B1, rfl⟩; rw [HK.out]; have gg := gg.trans g1; have z1 := gg.size) | (refine r_alloc (dst := some 6) 82 _ Tryd.bdzero rfl ?_; intro w2 B2 N2; have g2 := N2.gr; have b2 : Blk w2 B2 (bdv ⟨0, 0, []⟩ (.map none)) 82 := N2.blk; have l2 := N2.lo; have t2 := N2.hi; have z2 := g2.size; have gg := gg.trans g2; clear N2) | (refine r_store_row 82 82 _ _ B2 rfl (bdv (fmG s.data.toList) (.map (some B1))) _ rfl b2 (Tryd.bdsize _ _) (by simp only [bdv_size]) (bdv_one _ rfl) rfl ?_; intro w3 u3 b23; have gg := u3.gr gg (by omega)))
    go_ret2
    exact ⟨fin_sbO HV.out.symm HO.out.symm, gg⟩
  · have HK := hidI hf
    have HG := hidI hfg
    obtain ⟨e1, e2⟩ := od_of (L := L) hf hg
    have HO := hidI e1
    have HV := hidI e2
    have HWO := hidI (fun (m : Value) w' (ho : w'.ownsRow bL 3 1 (.slice p L.length q) L.length (intsV L)) => waysOf_any g m L _ bL w' F hL ho)
    unfold RetOd at HWO
    obtain ⟨ok, hok⟩ : ∃ ok, ok = orOkG g L := ⟨_, rfl⟩
    obtain ⟨t, ht⟩ : ∃ t, t = if orOkG g L then mkS (orW g.w g.h L L.length) else ByteArray.empty := ⟨_, rfl⟩
    rw [← ht, ← hok] at HWO
    rw [← hok] at HO
    rw [← ht] at HV
    have HROW := hidI hown
    clear hk hg hf hfg hp e1 e2 hok ht F hown
    go_enter Tryd.func22, Tryd.ntmps22
    go_wp2_with (first | (go_at_call 43; refine (HRB.out _ (gg.ml hm)).mono ?_; rintro e w1 ⟨g1, B1, rfl⟩; rw [HK.out, HG.out]; have gg := gg.trans g1; have z1 := gg.size) | (refine r_alloc (dst := some 6) 82 _ Tryd.bdzero rfl ?_; intro w2 B2 N2; have g2 := N2.gr; have b2 : Blk w2 B2 (bdv ⟨0, 0, []⟩ (.map none)) 82 := N2.blk; have l2 := N2.lo; have t2 := N2.hi; have z2 := g2.size; have gg := gg.trans g2; clear N2) | (refine r_store_row 82 82 _ _ B2 rfl (bdv g (.map (some B1))) _ rfl b2 (Tryd.bdsize _ _) (by simp only [bdv_size]) (bdv_one _ rfl) rfl ?_; intro w3 u3 b23; have gg := u3.gr gg (by omega)) | (refine r_load_row 82 _ _ rfl _ _ _ b23 Tryd.underlying82 rfl (Tryd.bdinfo _ _) rfl ?_) | (go_at_call 46; refine (HWO.out _ _ (gg.row HROW.out)).mono ?_; rintro e w5 ⟨rfl, g5⟩; have gg := gg.trans g5))
    go_ret2
    exact ⟨fin_sbO HV.out.symm HO.out.symm, gg⟩
theorem any_fiO (q : Int → Bool) (L : List Int) : decide (0 ≤ fiO (fun j => q (gi L j)) L.length) = L.any q := by
  cases hf : (List.range L.length).find? (fun j => q (gi L j)) with
  | none =>
    have e : fiO (fun j => q (gi L j)) L.length = -1 := by unfold fiO; rw [hf]
    rw [e, List.find?_eq_none] at *
    rw [decide_eq_false (by decide)]
    symm
    rw [List.any_eq_false]
    intro x hx
    obtain ⟨j, hj, e⟩ := List.getElem_of_mem hx
    have := hf j (List.mem_range.2 hj)
    unfold gi at this
    rw [List.getD_eq_getElem?_getD, List.getElem?_eq_getElem hj] at this
    rw [← e]
    exact this
  | some j =>
    have e : fiO (fun j => q (gi L j)) L.length = j := by unfold fiO; rw [hf]
    rw [e, decide_eq_true (Int.natCast_nonneg _)]
    symm
    rw [List.any_eq_true]
    rw [List.find?_range_eq_some] at hf
    obtain ⟨h1, h2, -⟩ := hf
    have hj := List.mem_range.1 h2
    refine ⟨L[j], List.getElem_mem hj, ?_⟩
    unfold gi at h1
    rw [List.getD_eq_getElem?_getD, List.getElem?_eq_getElem hj] at h1
    exact h1
theorem all_any (g : Grid) (L : List Int) : (L.any fun x => !inB x (nn g.w g.h)) = !(L.all fun x => inB x (nn g.w g.h)) := by
  induction L with
  | nil => rfl
  | cons x r ih => rw [List.any_cons, List.all_cons, ih]; cases inB x (nn g.w g.h) <;> rfl
def eV (B : Nat) : Value := .func (.func 44) #[] #[.pointer (some ⟨B, 0, none⟩)]
set_option maxHeartbeats 1000000 in
set_option maxRecDepth 100000 in
theorem outside_any (g : Grid) (m : Value) (B : Nat) (x : Int) (w : World) (w7 : g.w ≤ 7) (h7 : g.h ≤ 7) (hb : Blk w B (bdv g m) 82) : Calls Tryd.prog 44 #[.int .i64 x, .pointer (some ⟨B, 0, none⟩)] w (Ret (.bool (!inB x (nn g.w g.h))) w) := by
  have gg := Gr.refl w
  have HHN := hidI (fun w' => show Calls Tryd.prog 38 #[.agg (gvG g), .int .i64 x] w' (Ret (.bool (inB x (nn g.w g.h))) w') from hasNumber_any g.w g.h g.c x w' w7 h7)
  obtain ⟨v, hv⟩ : ∃ v, v = inB x (nn g.w g.h) := ⟨_, rfl⟩
  rw [← hv] at HHN ⊢
  clear hv
  go_enter Tryd.func44, Tryd.ntmps44
  go_wp2_with (first | (refine r_fld 82 _ 0 (.pointer (some ⟨B, 0, none⟩)) (.pointer (some ⟨B, 0, none⟩)) rfl (Tryd.bdf0 _ _) rfl ?_) | (refine r_ldm 72 _ B 0 (gvG g) _ rfl (bdv_grid hb) Tryd.underlying72 rfl (Tryd.ginfo' _ _ _) rfl ?_) | (go_at_call 38; refine (HHN.out _).mono ?_; rintro e w2 ⟨rfl, g2⟩; have z2 := g2.size; have gg := gg.trans g2))
  go_ret
  exact ⟨rfl, gg⟩
set_option maxHeartbeats 800000 in
set_option maxRecDepth 100000 in
theorem indexP_any (q : Int → Bool) (L : List Int) (B base : Nat) (sl : Value) (w0 w : World) (hl : L.length ≤ 1000) (hown : w.ownsRow base 3 1 sl L.length (intsV L)) (g0 : Gr w0 w)
    (HP : ∀ l ∈ L, ∀ w', Gr w0 w' → Calls Tryd.prog 44 #[.int .i64 l, .pointer (some ⟨B, 0, none⟩)] w' (Ret (.bool (q l)) w')) :
    Calls Tryd.prog 79 #[sl, eV B] w (Ret (.int .i64 (fiO (fun j => q (gi L j)) L.length)) w) := by
  have gg := Gr.refl w
  obtain ⟨N, hN⟩ : ∃ N, N = L.length := ⟨_, rfl⟩
  rw [← hN] at hown hl ⊢
  have HAT := hidI (fun j (h : ∀ k, k < j → q (gi L k) = false) (hp : q (gi L j) = true) (hj : j < N) => fiO_at (p := fun k => q (gi L k)) h hp hj)
  have HNO := hidI (fun (h : ∀ k, k < N → q (gi L k) = false) => fiO_no (p := fun k => q (gi L k)) h)
  obtain ⟨R, hR⟩ : ∃ R, R = fiO (fun k => q (gi L k)) N := ⟨_, rfl⟩
  rw [← hR] at HAT HNO ⊢
  have HPP := hidI (fun j (hj : j < N) => HP (gi L j) (mem_giO (by omega)))
  have HG := hidI (fun j (hj : j < N) => intsV_getO L j (by omega))
  clear hR HP hN
  obtain ⟨p, cap, rfl⟩ := own_slO hown
  unfold eV
  go_enter Tryd.func79, Tryd.ntmps79
  go_wp2
  go_loopw [8] (fun iv wr => ∃ j : Nat, j ≤ N ∧ iv = .int .i64 j ∧ (∀ k, k < j → q (gi L k) = false) ∧ Gr w wr) (fun iv _ => N - (intOf iv).toNat)
  case atStart => exact ⟨0, Nat.zero_le _, rfl, fun k hk => absurd hk (Nat.not_lt_zero _), gg⟩
  case round =>
    obtain ⟨j, hj, rfl, hall, gg⟩ := hrel
    have own := gg.row hown
    by_cases hlt : j < N
    · have HALL := hidI hall
      clear hall
      obtain ⟨G, cap', he, -, -⟩ := own_shape own (by omega)
      obtain ⟨rfl, rfl⟩ : p = some ⟨G, 0, none⟩ ∧ cap = cap' := by
        simp only [Value.slice.injEq] at he
        exact ⟨he.1, he.2.2⟩
      have hcell := (own.cellAt j (by omega)).trans (HG.out j hlt)
      have HC := hidI (HPP.out j hlt _ (g0.trans gg))
      obtain ⟨l, hl⟩ : ∃ l, l = gi L j := ⟨_, rfl⟩
      have HLJ := hidI hl
      rw [← hl] at hcell HC
      skip
      clear he hl
      cases hb : q l
      · rw [hb] at HC
        have HB := hidI hb
        clear hb
        go_wp2_with (first | (refine r_idx 34 _ _ (.slice (some ⟨G, 0, none⟩) N cap) (.int .i64 j) _ rfl rfl (Tryd.nixO G N cap j hlt _) rfl ?_) | (refine r_ldc 3 _ ⟨G, j, none⟩ (.int .i64 l) rfl (Tryd.isAgg3 _) hcell rfl ?_) | (refine r_callc 44 (.tmp 11) [.tmp 15] _ [.int .i64 l] [.pointer (some ⟨B, 0, none⟩)] (.bool false) (fun w' => Gr _ w') Tryd.call44 rfl rfl rfl HC.out ?_; intro w5 g5; have gg := gg.trans g5))
        go_roundw
        case rel => exact ⟨j + 1, by omega, by go_num, fun k hk => (by rcases Nat.lt_succ_iff_lt_or_eq.1 hk with h | rfl; exact HALL.out k h; rw [← HLJ.out]; exact HB.out), gg⟩
        case measure => simp [intOf]; omega
      · rw [hb] at HC
        have HB := hidI hb
        clear hb
        go_wp2_with (first | (refine r_idx 34 _ _ (.slice (some ⟨G, 0, none⟩) N cap) (.int .i64 j) _ rfl rfl (Tryd.nixO G N cap j hlt _) rfl ?_) | (refine r_ldc 3 _ ⟨G, j, none⟩ (.int .i64 l) rfl (Tryd.isAgg3 _) hcell rfl ?_) | (refine r_callc 44 (.tmp 11) [.tmp 15] _ [.int .i64 l] [.pointer (some ⟨B, 0, none⟩)] (.bool true) (fun w' => Gr _ w') Tryd.call44 rfl rfl rfl HC.out ?_; intro w5 g5; have gg := gg.trans g5))
        go_ret
        exact ⟨ret_int (HAT.out j HALL.out (by rw [← HLJ.out]; exact HB.out) hlt).symm, gg⟩
    · obtain rfl : j = N := by omega
      have HV := hidI (HNO.out hall)
      clear hlt hall
      go_wp2
      go_ret
      exact ⟨ret_int HV.out.symm, gg⟩
set_option maxHeartbeats 1000000 in
set_option maxRecDepth 100000 in
theorem containsP_any (g : Grid) (m : Value) (L : List Int) (B bL : Nat) (sl : Value) (w : World) (w7 : g.w ≤ 7) (h7 : g.h ≤ 7) (hl : L.length ≤ 1000) (hb : Blk w B (bdv g m) 82) (hown : w.ownsRow bL 3 1 sl L.length (intsV L)) :
    Calls Tryd.prog 45 #[sl, eV B] w (Ret (.bool (!(L.all fun x => inB x (nn g.w g.h)))) w) := by
  have gg := Gr.refl w
  have HIX := hidI (indexP_any (fun x => !inB x (nn g.w g.h)) L B bL sl w w hl hown (Gr.refl w) (fun l _ w' h => outside_any g m B l w' w7 h7 (h.blk hb)))
  have HV := hidI ((any_fiO (fun x => !inB x (nn g.w g.h)) L).trans (all_any g L))
  obtain ⟨z, hz⟩ : ∃ z, z = fiO (fun j => !inB (gi L j) (nn g.w g.h)) L.length := ⟨_, rfl⟩
  have HV := hidI (show decide (0 ≤ z) = _ from hz ▸ HV.out)
  have HIX := hidI (show Calls Tryd.prog 79 #[sl, eV B] w (Ret (.int .i64 z) w) from hz ▸ HIX.out)
  obtain ⟨r, hr⟩ : ∃ r, r = !(L.all fun x => inB x (nn g.w g.h)) := ⟨_, rfl⟩
  rw [← hr] at HV ⊢
  clear hz hr
  obtain ⟨p, q, rfl⟩ := own_slO hown
  unfold eV at *
  go_enter Tryd.func45, Tryd.ntmps45
  go_wp2_with (go_at_call 79; refine HIX.out.mono ?_; rintro e w1 ⟨rfl, g1⟩; have gg := gg.trans g1)
  go_ret
  exact ⟨ret_bool HV.out, gg⟩
set_option maxHeartbeats 2000000 in
set_option maxRecDepth 100000 in
theorem iIsOrder (s : ByteArray) (L : List Int) (sl : Value) (bL : Nat) (w : World) (hm : ML w) (hs : s.size ≤ 1048576) (hL : L.length ≤ 1048576) (hown : w.ownsRow bL 3 1 sl L.length (intsV L)) :
    Calls Tryd.prog 19 #[.string s, sl] w (Ret (.tuple #[.bool (odOk s.data.toList L), .bool (odIn s.data.toList L)]) w) := by
  have gg := Gr.refl w
  have HRB := hidI (fun w (hm : ML w) => readBuilding_any s w hm hs)
  obtain ⟨p, q, rfl⟩ := own_slO hown
  rcases fm_cases s.data.toList with ⟨hk, hg⟩ | ⟨g, hp, hg, hk, hf, hfg, F⟩
  · have HK := hidI hk
    have HG := hidI hg
    obtain ⟨e1, e2⟩ := od_bad (L := L) hk
    have HO := hidI e1
    have HI := hidI (show odIn s.data.toList L = false from by unfold odIn; rw [hk]; rfl)
    clear hk hg e1 e2
    go_enter Tryd.func19, Tryd.ntmps19
    go_wp2_with (first | (go_at_call 43; refine (HRB.out _ (gg.ml hm)).mono ?_; rintro e w1 ⟨g1, B1, rfl⟩; rw [HK.out]; have gg := gg.trans g1; have z1 := gg.size) | (refine r_alloc (dst := some 6) 82 _ Tryd.bdzero rfl ?_; intro w2 B2 N2; have g2 := N2.gr; have b2 : Blk w2 B2 (bdv ⟨0, 0, []⟩ (.map none)) 82 := N2.blk; have l2 := N2.lo; have t2 := N2.hi; have z2 := g2.size; have gg := gg.trans g2; clear N2) | (refine r_store_row 82 82 _ _ B2 rfl (bdv (fmG s.data.toList) (.map (some B1))) _ rfl b2 (Tryd.bdsize _ _) (by simp only [bdv_size]) (bdv_one _ rfl) rfl ?_; intro w3 u3 b23; have gg := u3.gr gg (by omega)))
    go_ret2
    exact ⟨fin_bbO HO.out.symm HI.out.symm, gg⟩
  · have HK := hidI hf
    have HG := hidI hfg
    obtain ⟨e1, -⟩ := od_of (L := L) hf hg
    have w7 := F.t.w7
    have h7 := F.t.h7
    have HIN := hidI (fun h => od_in F hg hf (L := L) h)
    have HWO := hidI (fun (m : Value) w' (ho : w'.ownsRow bL 3 1 (.slice p L.length q) L.length (intsV L)) => waysOf_any g m L _ bL w' F hL ho)
    unfold RetOd at HWO
    have HI := hidI (show odIn s.data.toList L = (decide (L.length ≤ 10) && L.all fun x => inB x (nn g.w g.h)) from by unfold odIn; rw [hf, hg]; rfl)
    obtain ⟨ok, hok⟩ : ∃ ok, ok = orOkG g L := ⟨_, rfl⟩
    rw [← hok] at HWO HIN
    have HO := hidI (e1.trans hok.symm)
    obtain ⟨t, ht⟩ : ∃ t, t = if ok then mkS (orW g.w g.h L L.length) else ByteArray.empty := ⟨_, rfl⟩
    rw [← ht] at HWO
    have HROW := hidI hown
    clear hk hg hf hfg hp e1 hok ht F hown
    by_cases h10 : L.length ≤ 10
    · have HCP := hidI (fun (m : Value) (B : Nat) w' (hb : Blk w' B (bdv g m) 82) (ho : w'.ownsRow bL 3 1 (.slice p L.length q) L.length (intsV L)) => containsP_any g m L B bL _ w' w7 h7 (by omega) hb ho)
      obtain ⟨al, hal⟩ : ∃ al, al = L.all fun x => inB x (nn g.w g.h) := ⟨_, rfl⟩
      have HI := hidI (show odIn s.data.toList L = al from by rw [HI.out, decide_eq_true h10, Bool.true_and, hal])
      have HCP := hidI (fun (m : Value) (B : Nat) w' (hb : Blk w' B (bdv g m) 82) (ho : w'.ownsRow bL 3 1 (.slice p L.length q) L.length (intsV L)) => show Calls Tryd.prog 45 #[.slice p L.length q, eV B] w' (Ret (.bool (!al)) w') from hal ▸ HCP.out m B w' hb ho)
      unfold eV at HCP
      clear hal
      cases al with
      | false =>
        have HO2 := hidI (show ok = false from by
          cases hok : ok with
          | false => rfl
          | true => have := HIN.out hok; rw [HI.out] at this; cases this)
        have h10' : ¬ (10 : Int) < (L.length : Int) := by omega
        go_enter Tryd.func19, Tryd.ntmps19
        go_wp2_with (first | (go_at_call 43; refine (HRB.out _ (gg.ml hm)).mono ?_; rintro e w1 ⟨g1, B1, rfl⟩; rw [HK.out, HG.out]; have gg := gg.trans g1; have z1 := gg.size) | (refine r_alloc (dst := some 6) 82 _ Tryd.bdzero rfl ?_; intro w2 B2 N2; have g2 := N2.gr; have b2 : Blk w2 B2 (bdv ⟨0, 0, []⟩ (.map none)) 82 := N2.blk; have l2 := N2.lo; have t2 := N2.hi; have z2 := g2.size; have gg := gg.trans g2; clear N2) | (refine r_store_row 82 82 _ _ B2 rfl (bdv g (.map (some B1))) _ rfl b2 (Tryd.bdsize _ _) (by simp only [bdv_size]) (bdv_one _ rfl) rfl ?_; intro w3 u3 b23; have gg := u3.gr gg (by omega)) | (go_at_call 45; refine (HCP.out _ _ _ b23 (gg.row HROW.out)).mono ?_; rintro e w4 ⟨rfl, g4⟩; have gg := gg.trans g4))
        go_ret2
        exact ⟨fin_bbO (by rw [HO.out, HO2.out]) HI.out.symm, gg⟩
      | true =>
        have h10' : ¬ (10 : Int) < (L.length : Int) := by omega
        go_enter Tryd.func19, Tryd.ntmps19
        go_wp2_with (first | (go_at_call 43; refine (HRB.out _ (gg.ml hm)).mono ?_; rintro e w1 ⟨g1, B1, rfl⟩; rw [HK.out, HG.out]; have gg := gg.trans g1; have z1 := gg.size) | (refine r_alloc (dst := some 6) 82 _ Tryd.bdzero rfl ?_; intro w2 B2 N2; have g2 := N2.gr; have b2 : Blk w2 B2 (bdv ⟨0, 0, []⟩ (.map none)) 82 := N2.blk; have l2 := N2.lo; have t2 := N2.hi; have z2 := g2.size; have gg := gg.trans g2; clear N2) | (refine r_store_row 82 82 _ _ B2 rfl (bdv g (.map (some B1))) _ rfl b2 (Tryd.bdsize _ _) (by simp only [bdv_size]) (bdv_one _ rfl) rfl ?_; intro w3 u3 b23; have gg := u3.gr gg (by omega)) | (go_at_call 45; refine (HCP.out _ _ _ b23 (gg.row HROW.out)).mono ?_; rintro e w4 ⟨rfl, g4⟩; have gg := gg.trans g4; have b23 := g4.blk b23) | (refine r_load_row 82 _ _ rfl _ _ _ b23 Tryd.underlying82 rfl (Tryd.bdinfo _ _) rfl ?_) | (go_at_call 46; refine (HWO.out _ _ (gg.row HROW.out)).mono ?_; rintro e w5 ⟨rfl, g5⟩; have gg := gg.trans g5))
        go_ret2
        exact ⟨fin_bbO HO.out.symm HI.out.symm, gg⟩
    · have HI2 := hidI (show odIn s.data.toList L = false from by rw [HI.out, decide_eq_false h10]; rfl)
      have HO2 := hidI (show ok = false from by
        cases hok : ok with
        | false => rfl
        | true => have := HIN.out hok; rw [HI2.out] at this; cases this)
      have h10' : (10 : Int) < (L.length : Int) := by omega
      go_enter Tryd.func19, Tryd.ntmps19
      go_wp2_with (first | (go_at_call 43; refine (HRB.out _ (gg.ml hm)).mono ?_; rintro e w1 ⟨g1, B1, rfl⟩; rw [HK.out, HG.out]; have gg := gg.trans g1; have z1 := gg.size) | (refine r_alloc (dst := some 6) 82 _ Tryd.bdzero rfl ?_; intro w2 B2 N2; have g2 := N2.gr; have b2 : Blk w2 B2 (bdv ⟨0, 0, []⟩ (.map none)) 82 := N2.blk; have l2 := N2.lo; have t2 := N2.hi; have z2 := g2.size; have gg := gg.trans g2; clear N2) | (refine r_store_row 82 82 _ _ B2 rfl (bdv g (.map (some B1))) _ rfl b2 (Tryd.bdsize _ _) (by simp only [bdv_size]) (bdv_one _ rfl) rfl ?_; intro w3 u3 b23; have gg := u3.gr gg (by omega)))
      go_ret2
      exact ⟨fin_bbO (by rw [HO.out, HO2.out]) HI2.out.symm, gg⟩
end Go.Proofs.YtdebiobhmpoiiaaDoor
