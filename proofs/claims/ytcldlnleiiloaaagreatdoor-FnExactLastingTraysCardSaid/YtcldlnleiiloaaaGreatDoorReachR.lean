/-
  The texts of the trays that a tray reaches, in their order: in the program and in the model, and the law.
-/
import Derived.Test.YtcldlnleiiloaaaGreatDoorReachN
import Derived.Test.YtcldlnleiiloaaaGreatDoorSortT
import Derived.Test.YtcldlnleiiloaaaGreatDoorShelfS
namespace Go.Proofs.YtcldlnleiiloaaaGreatDoor
open Go.RowKit Go.Sort Go.Lib
def txG (s : Sta Grid) : List UInt8 := txtL s.t.w s.t.c s.t.h
/-- The texts of the first k states. -/
def trT (S : List (Sta Grid)) (k : Nat) : List (List UInt8) := (List.range k).map fun j => txG (sta S j)
theorem trT_length (S : List (Sta Grid)) (k : Nat) : (trT S k).length = k := by simp [trT]
theorem trT_succ (S : List (Sta Grid)) (k : Nat) : strV (trT S k) ++ [tx (txG (sta S k))] = strV (trT S (k + 1)) := by
  unfold strV trT
  rw [List.range_succ, List.map_append, List.map_append]
  rfl
def rtL (l : List UInt8) : List (List UInt8) := match rcS l with
  | none => []
  | some S => srtT (trT S S.length)
theorem rtL_le (l : List UInt8) : (rtL l).length ≤ 300 := by
  unfold rtL
  cases h : rcS l with
  | none => exact Nat.zero_le _
  | some S =>
    obtain ⟨g, -, hi⟩ := rcS_inv h
    show (srtT (trT S S.length)).length ≤ 300
    rw [srtT_length, trT_length]
    exact hi.le
/-- Grids whose text can be written. -/
def Okt (g : Grid) : Prop := 1 ≤ g.w ∧ g.w ≤ 7 ∧ g.h ≤ 7 ∧ nn g.w g.h ≤ 36
theorem rcS_okt {l : List UInt8} {S : List (Sta Grid)} (h : rcS l = some S) : ∀ j, j < S.length → Okt (sta S j).t := by
  intro j hj
  unfold rcS at h
  cases hp : parse l with
  | none => rw [hp] at h; cases h
  | some g =>
    rw [hp] at h
    obtain ⟨hc, h1, -, -⟩ := cel_of hp
    have hi := reachS_inv Sized.tilt ⟨hc, rfl, rfl⟩ h
    have hz := hi.good j hj
    exact ⟨by rw [hz.w]; exact h1, hz.cel.w7, hz.cel.h7, hz.cel.n36⟩
def RetStrs (T : TypeId) (L : List (List UInt8)) (ok : Bool) (w : World) (e : Ending) (w' : World) : Prop :=
  Gr w w' ∧ ∃ v, e = .returned (.tuple #[v, .bool ok]) ∧ w'.ownsRow w.heap.size T 1 v L.length (strV L)
theorem Tryz.stzeroR (w : World) : (zeroValue 63).run Tryz.prog w = .ok (.agg (newL ⟨0, 0, []⟩ 0 0 0 0).toArray) w := by kernel_rfl
theorem Tryz.stinfoR : (Tryz.prog.info? 63).map (·.size) = some 43 := by kernel_rfl
theorem wholeR {base g cap : Nat} {w : World} {S : List (Sta Grid)} {nx : Nat → Value} (h : w.ownsRow base 63 43 (.slice (some ⟨g, 0, none⟩) S.length cap) S.length (rowsI S nx).flatten) {j : Nat} (hj : j < S.length) :
    w.rangeAt g (j * 43) (cellS (sta S j) (nx j)).toArray.toList := by
  have := own_flat_range h (rowsI_wide _ _) (rowsI_length _ _) hj (o := 0) (cs := (cellS (sta S j) (nx j)).toArray.toList) (by simp [cellS_length]) (fun i hi => by
    rw [rowsI_get S nx j hj, Nat.zero_add])
  rwa [Nat.add_zero] at this
set_option maxHeartbeats 4000000 in
set_option maxRecDepth 100000 in
theorem textsOf_any (v : Value) (S : List (Sta Grid)) (nx : Nat → Value) (base : Nat) (w : World) (h : w.ownsRow base 63 43 v S.length (rowsI S nx).flatten) (hnx : ∀ j, j < S.length → (nx j).oneCell' = true) (hC : ∀ j, j < S.length → Okt (sta S j).t) (h300 : S.length ≤ 300) :
    Calls Tryz.prog 30 #[v] w fun e w' => Gr w w' ∧ ∃ u, e = .returned u ∧ w'.ownsRow w.heap.size 9 1 u S.length (strV (srtT (trT S S.length))) := by
  have gg := Gr.refl w
  obtain ⟨pv, mv, cap, rfl⟩ := own_slice h
  obtain rfl : mv = S.length := own_len h
  have HNX := hidI hnx
  have HCC := hidI hC
  clear hnx hC
  have own0 : w.ownsRow w.heap.size 9 1 (.slice none 0 0) 0 (strV (trT S 0)) := World.ownsRow_nil _ _ _ _
  go_enter Tryz.func30, Tryz.ntmps30
  go_wp2
  go_loopw [3, 8] (fun ov iv wr => ∃ j : Nat, j ≤ S.length ∧ iv = .int .i64 j ∧ wr.ownsRow w.heap.size 9 1 ov j (strV (trT S j)) ∧ wr.ownsRow base 63 43 (.slice pv S.length cap) S.length (rowsI S nx).flatten ∧ Gr w wr) (fun _ iv _ => S.length - (intOf iv).toNat)
  case atStart => exact ⟨0, Nat.zero_le _, rfl, own0, h, gg⟩
  case round =>
    clear own0 h gg
    obtain ⟨j, hj, rfl, own, row, gg⟩ := hrel
    have zr := gg.size
    by_cases hlt : j < S.length
    · obtain ⟨gB, cap', e1, -, -⟩ := own_shape row (by omega)
      cases e1
      have cr := wholeR row hlt
      have hgB := (row.lt gB rfl).2
      obtain ⟨s, hs⟩ : ∃ s, s = sta S j := ⟨_, rfl⟩
      obtain ⟨v0, hv0⟩ : ∃ v0, v0 = nx j := ⟨_, rfl⟩
      have hok := HCC.out j hlt
      rw [← hs] at hok
      obtain ⟨k1, k2, k3, k4⟩ := hok
      have HON := hidI (show ∀ u ∈ (cellS s v0).toArray.toList, u.oneCell' = true from cellS_one _ _ (by rw [hv0]; exact HNX.out j hlt))
      have HSZ := hidI (show (cellS s v0).toArray.size = 43 from by rw [List.size_toArray, cellS_length])
      have HR := hidI (fun (W' : World) (A : Nat) (b : Blk W' A (cellS s v0).toArray 63) => show W'.rangeAt A 0 (gvG s.t).toList from fun j u hj => by
        have h38 : j < 38 := by
          rcases Nat.lt_or_ge j 38 with h | h
          · exact h
          · rw [List.getElem?_eq_none (by rw [gvl]; exact h)] at hj; cases hj
        rw [Nat.zero_add, b.cell j, List.getElem?_toArray, cellS_hd s v0 j h38, hj])
      have HSU := hidI (show strV (trT S j) ++ [tx (txG s)] = strV (trT S (j + 1)) from by rw [hs]; exact trT_succ S j)
      rw [← hs, ← hv0] at cr
      clear hs hv0
      obtain ⟨p5, n5, k5, rfl⟩ := own_slice own
      obtain rfl : n5 = j := own_len own
      go_wp2_with (first | (refine r_idx 51 _ _ (.slice (some ⟨gB, 0, none⟩) S.length cap) (.int .i64 n5) _ rfl rfl (Tryz.stix gB S.length cap n5 hlt _) rfl ?_) | (refine r_ldm 63 _ gB (n5 * 43) (cellS s v0).toArray _ rfl cr Tryz.underlying63 rfl (by rw [HSZ.out]; exact Tryz.stinfoR) rfl ?_) | (refine r_alloc 63 _ Tryz.stzeroR rfl ?_; intro w8 B8 N8; have g8 := N8.gr; have b8 : Blk w8 B8 (newL ⟨0, 0, []⟩ 0 0 0 0).toArray 63 := N8.blk; have l8 := N8.lo; have z8 := g8.size; have own := g8.row own; have row := g8.row row; have gg := gg.trans g8; have hB8 : gB ≠ B8 := (by omega); clear N8) | (refine r_store_row 63 63 _ _ B8 rfl (cellS s v0).toArray _ rfl b8 (by intro w; rw [HSZ.out]; exact Tryz.sizeOf63 w) (by rw [HSZ.out, List.size_toArray, newL_length]) HON.out rfl ?_; intro w9 u9 b9; have own := u9.row own (own_ne own b8 (by decide)); have row := u9.row row (fun e => by cases e; exact hB8 rfl); have z9 := u9.size; have gg := u9.gr gg (by omega)) | (refine r_fld 63 _ 0 (.pointer (some ⟨B8, 0, none⟩)) (.pointer (some ⟨B8, 0, none⟩)) rfl (Tryz.stf0 B8 0 _) rfl ?_) | (refine r_ldm 61 _ B8 0 (gvG s.t) _ rfl (HR.out _ _ b9) Tryz.underlying61 rfl (Tryz.ginfo' _ _ _) rfl ?_) | (go_at_call 57; refine (trayText_any s.t.w s.t.h s.t.c _ (.inl k1) k2 k3 k4).mono ?_; rintro e w10 ⟨rfl, g10⟩; have gg := gg.trans g10; have own := g10.row own; have row := g10.row row; have z10 := g10.size) | (refine r_slice1 22 9 (.tmp 15) (tx (txG s)) rfl (Tryz.bstr1 _ _) rfl ?_; intro w11 B11 N11; have g11 := N11.gr; have own := g11.row own; have row := g11.row row; have gg := gg.trans g11; have z11 := g11.size) | (refine r_append (.tmp 12) (.tmp 16) 22 9 _ 1 16 w.heap.size Tryz.strJ (.slice p5 n5 k5) n5 (strV (trT S n5)) rfl own ⟨B11, 0, none⟩ 1 1 [tx (txG s)] rfl rfl N11.cell1 (by intro u hu; simp at hu; subst hu; rfl) (by omega) (by decide) (by omega) rfl ?_; intro v12 w12 own12 g12))
      have row := g12.row row (own_ne2 row own (by decide))
      have gg := g12.gr gg (own_gr own (Nat.le_refl _))
      rw [HSU.out] at own12
      go_roundw
      case rel => exact ⟨n5 + 1, by omega, by go_num, own12, row, gg⟩
      case measure => simp [intOf]; omega
    · obtain rfl : j = S.length := by omega
      clear hlt
      obtain ⟨p5, n5, k5, rfl⟩ := own_slice own
      obtain rfl : n5 = S.length := own_len own
      rcases Nat.eq_zero_or_pos S.length with h0 | h0
      · have HE := hidI (show strV (srtT (trT S S.length)) = strV (trT S S.length) from by rw [h0]; simp [srtT, trT])
        have HS := hidI (fun (w : World) => show Calls Tryz.prog 58 #[.slice p5 S.length k5] w fun e w' => e = .returned (.tuple #[]) ∧ w' = w from by rw [h0]; exact Tryz.slices_Sort_string_none p5 k5 w)
        clear h0
        go_wp2_with (go_at_call 58; refine (HS.out _).mono ?_; rintro e w13 ⟨rfl, rfl⟩)
        go_ret
        exact ⟨gg, _, rfl, by rw [HE.out]; exact own⟩
      · obtain ⟨g5, c5, e5, -, -⟩ := own_shape own h0
        cases e5
        have hh : Holds encStr wr g5 0 (trT S S.length).toArray := own_holds encStr own _ (by simp [trT_length]) fun i hi => by
          rw [strV_get _ _ (by rw [trT_length]; exact hi)]
          have hi' : i < (trT S S.length).length := by rw [trT_length]; exact hi
          rw [getElem!_pos (trT S S.length).toArray i (by simpa using hi')]
          unfold ts
          rw [List.getD_eq_getElem?_getD, List.getElem?_eq_getElem hi']
          rfl
        have hblk := (own.lt g5 rfl).2
        have HS := hidI (Tryz.slices_Sort_string g5 0 k5 (trT S S.length) wr hh hblk (by rw [trT_length]; omega))
        rw [trT_length] at HS
        clear hh
        go_wp2_with (go_at_call 58; refine HS.out.mono ?_; rintro e w13 ⟨rfl, n, os, rfl⟩)
        obtain ⟨own13, g13⟩ := sort_own encStr own ((trT S S.length).mergeSort fun x y => decide (x ≤ y)).toArray (by simp [trT_length]) n os
        have gg := g13.gr gg (own_gr own (Nat.le_refl _))
        go_wp2
        go_ret
        exact ⟨gg, _, rfl, own13⟩
set_option maxHeartbeats 1000000 in
set_option maxRecDepth 100000 in
theorem iReachedTrays (s : ByteArray) (w : World) (hm : ML w) (hs : s.size ≤ 1048576) : Calls Tryz.prog 9 #[.string s] w (RetStrs 9 (rtL s.data.toList) (crOk s.data.toList) w) := by
  have gg := Gr.refl w
  have HA := readStates_any s w hm hs
  unfold RetI at HA
  cases hR : rcS s.data.toList with
  | none =>
    rw [hR] at HA
    have HN := hidI (show rtL s.data.toList = [] from by unfold rtL; rw [hR])
    have HO := hidI (show crOk s.data.toList = false from by unfold crOk; rw [hR]; rfl)
    have HT := hidI (fun (w : World) => textsOf_any (.slice none 0 0) [] (fun _ => .slice none 0 0) 0 w (World.ownsRow_nil _ _ _ _) (fun j hj => by cases hj) (fun j hj => by cases hj) (by decide))
    clear hR
    go_enter Tryz.func9, Tryz.ntmps9
    go_wp2_with (first | (go_at_call 29; refine HA.mono ?_; rintro e w1 ⟨g1, rfl⟩; have gg := gg.trans g1) | (go_at_call 30; refine (HT.out _).mono ?_; rintro e w2 ⟨g2, u2, rfl, own2⟩; have gg := gg.trans g2))
    go_ret2
    exact ⟨gg, _, fin_vb HO.out.symm, by
      rw [HN.out]
      have z := own_up own2 (b0 := w.heap.size) g1.size
      simpa [srtT, trT, strV] using z⟩
  | some S =>
    rw [hR] at HA
    obtain ⟨g, -, hi⟩ := rcS_inv hR
    have h0 := hi.pos
    have h300 := hi.le
    have HN := hidI (show rtL s.data.toList = srtT (trT S S.length) from by unfold rtL; rw [hR])
    have HO := hidI (show crOk s.data.toList = true from by unfold crOk; rw [hR]; rfl)
    have HK := hidI (rcS_okt hR)
    clear hR hi
    go_enter Tryz.func9, Tryz.ntmps9
    go_wp2_with (first | (go_at_call 29; refine HA.mono ?_; rintro e w1 ⟨g1, v, nx, rfl, IS⟩; have gg := gg.trans g1) | (go_at_call 30; refine (textsOf_any v S nx _ _ IS.row (fun j hj => own_one (IS.nxt j hj)) HK.out h300).mono ?_; rintro e w2 ⟨g2, u2, rfl, own2⟩; have gg := gg.trans g2))
    go_ret2
    exact ⟨gg, _, fin_vb HO.out.symm, by
      rw [HN.out, srtT_length, trT_length]
      exact own_up own2 g1.size⟩
theorem SSt.keepT {base b n : Nat} {w w' : World} {v o : Value} {S : List (Sta Grid)} {bk : Nat → Nat} {sl nx : Nat → Value} {xs : List Value} (h : SSt base w v S bk sl nx) (ho : w.ownsRow b 9 1 o n xs) (g : Grb o.ownBlock w w') : SSt base w' v S bk sl nx :=
  ⟨g.row h.row (own_ne2 h.row ho (by decide)), fun j hj => g.blk (h.blk j hj) (own_ne ho (h.blk j hj) (by decide)), h.lo, h.inj, fun j hj => g.row (h.grd j hj) (own_ne2 (h.grd j hj) ho (by decide))⟩
set_option maxHeartbeats 2000000 in
set_option maxRecDepth 100000 in
theorem sReachedTrays (s : ByteArray) (w : World) (hs : s.size ≤ 1048576) : Calls Tryz.prog 8 #[.string s] w (RetStrs 9 (rtL s.data.toList) (crOk s.data.toList) w) := by
  have gg := Gr.refl w
  have HA := reAll_any s w hs
  unfold RetM at HA
  cases hR : rcS s.data.toList with
  | none =>
    rw [hR] at HA
    have HN := hidI (show rtL s.data.toList = [] from by unfold rtL; rw [hR])
    have HO := hidI (show crOk s.data.toList = false from by unfold crOk; rw [hR]; rfl)
    have HT := hidI (fun (w : World) => reSorted_any (.slice none 0 0) [] 0 w (World.ownsRow_nil _ _ _ _) (by decide))
    clear hR
    go_enter Tryz.func8, Tryz.ntmps8
    go_wp2_with (go_at_call 27; refine HA.mono ?_; rintro e w1 ⟨g1, rfl⟩)
    have gg := gg.trans g1
    have z1 := g1.size
    go_loopw [6, 16] (fun ov iv wr => ov = .slice none 0 0 ∧ iv = .int .i64 0 ∧ wr = w1) (fun _ _ _ => 0)
    case atStart => exact ⟨rfl, rfl, rfl⟩
    case round =>
      obtain ⟨rfl, rfl, rfl⟩ := hrel
      go_wp2_with (go_at_call 28; refine (HT.out _).mono ?_; rintro e w2 ⟨g2, u2, base2, rfl, hb2, own2⟩; have gg := gg.trans g2)
      go_ret2
      exact ⟨gg, _, fin_vb HO.out.symm, by
        rw [HN.out]
        have z := own_up own2 (b0 := w.heap.size) (by omega)
        simpa [srtT, trT, strV] using z⟩
  | some S =>
    rw [hR] at HA
    obtain ⟨g, -, hi⟩ := rcS_inv hR
    have h0 := hi.pos
    have h300 := hi.le
    have HN := hidI (show rtL s.data.toList = srtT (trT S S.length) from by unfold rtL; rw [hR])
    have HO := hidI (show crOk s.data.toList = true from by unfold crOk; rw [hR]; rfl)
    clear hR hi
    go_enter Tryz.func8, Tryz.ntmps8
    go_wp2_with (first | (go_at_call 27; refine HA.mono ?_; rintro e w1 ⟨g1, v, bk, sl, nx, rfl, M, -⟩; obtain ⟨gB, cap, rfl, hlo, hcap⟩ := own_shape M.row h0; have gg := gg.trans g1; have z1 := g1.size))
    have own0 : w1.ownsRow w.heap.size 9 1 (.slice none 0 0) 0 (strV (trT S 0)) := World.ownsRow_nil _ _ _ _
    go_loopw [6, 16] (fun ov iv wr => ∃ j : Nat, j ≤ S.length ∧ iv = .int .i64 j ∧ wr.ownsRow w.heap.size 9 1 ov j (strV (trT S j)) ∧ SSt w.heap.size wr (.slice (some ⟨gB, 0, none⟩) S.length cap) S bk sl nx ∧ Gr w wr) (fun _ iv _ => S.length - (intOf iv).toNat)
    case atStart => exact ⟨0, Nat.zero_le _, rfl, own0, M, gg⟩
    case round =>
      clear own0 M gg
      obtain ⟨j, hj, rfl, own, M, gg⟩ := hrel
      have zr := gg.size
      by_cases hlt : j < S.length
      · obtain ⟨b, hb⟩ : ∃ b, b = bk j := ⟨_, rfl⟩
        obtain ⟨t, ht⟩ : ∃ t, t = txG (sta S j) := ⟨_, rfl⟩
        have cp := M.ptr hlt
        have c3 : wr.cell? ⟨b, 3, none⟩ = some (tx t) := by rw [hb, ht]; exact M.cell hlt 3
        rw [← hb] at cp
        have HSU := hidI (show strV (trT S j) ++ [tx t] = strV (trT S (j + 1)) from by rw [ht]; exact trT_succ S j)
        clear hb ht
        obtain ⟨p5, n5, k5, rfl⟩ := own_slice own
        obtain rfl : n5 = j := own_len own
        go_wp2_with (first | (refine r_idx 41 _ _ (.slice (some ⟨gB, 0, none⟩) S.length cap) (.int .i64 n5) _ rfl rfl (Tryz.psix gB S.length cap n5 hlt _) rfl ?_) | (refine r_ldc 44 _ ⟨gB, n5, none⟩ (ptrV b) rfl (Tryz.isAgg44 _) cp rfl ?_) | (refine r_nil _ ⟨b, 0, none⟩ rfl rfl ?_) | (refine r_fld 49 _ 1 (.pointer (some ⟨b, 0, none⟩)) (.pointer (some ⟨b, 3, none⟩)) rfl (Tryz.rf1 _ _) rfl ?_) | (refine r_ldc 9 _ ⟨b, 3, none⟩ (tx t) rfl (Tryz.isAgg9 _) c3 rfl ?_) | (refine r_slice1 22 9 (.tmp 24) (tx t) rfl (Tryz.bstr1 _ _) rfl ?_; intro w11 B11 N11; have g11 := N11.gr; have own := g11.row own; have M := M.gr g11; have gg := gg.trans g11; have z11 := g11.size) | (refine r_append (.tmp 20) (.tmp 25) 22 9 _ 1 16 w.heap.size Tryz.strJ (.slice p5 n5 k5) n5 (strV (trT S n5)) rfl own ⟨B11, 0, none⟩ 1 1 [tx t] rfl rfl N11.cell1 (by intro u hu; simp at hu; subst hu; rfl) (by omega) (by decide) (by omega) rfl ?_; intro v12 w12 own12 g12))
        have M := M.keepT own g12
        have gg := g12.gr gg (own_gr own (Nat.le_refl _))
        rw [HSU.out] at own12
        go_roundw
        case rel => exact ⟨n5 + 1, by omega, by go_num, own12, M, gg⟩
        case measure => simp [intOf]; omega
      · obtain rfl : j = S.length := by omega
        clear hlt
        obtain ⟨T0, hT0⟩ : ∃ T0, T0 = trT S S.length := ⟨_, rfl⟩
        have hTl : T0.length = S.length := by rw [hT0, trT_length]
        rw [← hT0] at own HN
        clear hT0
        obtain ⟨p5, n5, k5, rfl⟩ := own_slice own
        obtain rfl : n5 = S.length := own_len own
        have own' : wr.ownsRow w.heap.size 9 1 (.slice p5 S.length k5) T0.length (strV T0) := by rw [hTl]; exact own
        have HOW := hidI own'
        have HTL := hidI hTl
        have hT3 : T0.length ≤ 65536 := by omega
        clear own own' hTl
        go_wp2_with (go_at_call 28; refine (reSorted_any _ T0 _ _ HOW.out hT3).mono ?_; rintro e w2 ⟨g2, u2, base2, rfl, hb2, own2⟩; have gg := gg.trans g2)
        go_ret2
        exact ⟨gg, _, fin_vb HO.out.symm, by
          rw [HN.out, srtT_length]
          exact own_up own2 (by omega)⟩
set_option maxHeartbeats 4000000 in
set_option maxRecDepth 100000 in
theorem lawReachedTrays (s : ByteArray) (w : World) (hm : ML w) : Calls Tryz.prog 3 #[.string s] w (Ret (.bool true) w) := by
  have gg := Gr.refl w
  by_cases hs : 1048576 < s.size
  · go_enter Tryz.func3, Tryz.ntmps3
    go_wp2
    go_ret
    exact ⟨rfl, gg⟩
  · have hs' : s.size ≤ 1048576 := by omega
    have hle := rtL_le s.data.toList
    clear hs
    obtain ⟨L, hL⟩ : ∃ L, L = rtL s.data.toList := ⟨_, rfl⟩
    obtain ⟨ok, hok⟩ : ∃ ok, ok = crOk s.data.toList := ⟨_, rfl⟩
    have HL := hidI hL
    have HOK := hidI hok
    rw [← hL] at hle
    clear hL hok
    go_enter Tryz.func3, Tryz.ntmps3
    go_wp2_with fail
    refine (sReachedTrays s _ hs').mono ?_
    rintro e w1 ⟨g1, v1, rfl, own1⟩
    rw [← HL.out] at own1
    have gg := gg.trans g1
    rw [← HOK.out]
    go_wp2_with fail
    refine (iReachedTrays s _ (gg.ml hm) hs').mono ?_
    rintro e w2 ⟨g2, v2, rfl, own2⟩
    rw [← HL.out] at own2
    rw [← HOK.out]
    have gg := gg.trans g2
    have HAP := hidI (own_far own1 own2 (Nat.le_refl _))
    have own1 := g2.row own1
    go_wp2_with fail
    refine (eqStringS_any v2 v1 L _ _ _ own2 own1 (by omega)).mono ?_
    rintro e w3 ⟨rfl, g3⟩
    have own1 := g3.row own1
    have own2 := g3.row own2
    have gg := gg.trans g3
    go_wp2_with fail
    refine (markStringS_any v2 L _ _ own2 (by omega)).mono ?_
    rintro e w4 ⟨rfl, own2', g4⟩
    have own1 := g4.row own1 HAP.out
    have gg := g4.gr gg (own_gr own2 (by have := g1.size; omega))
    obtain ⟨Mk, hMk⟩ : ∃ Mk, Mk = markST L 1 L.length := ⟨_, rfl⟩
    rw [← hMk] at own2'
    have HML := hidI (show Mk.length = L.length from by rw [hMk, markST_length])
    have HMA := hidI (show ∀ i, i < Mk.length → ts Mk i = mkT (1 + i) from fun i hi => by
      rw [HML.out] at hi
      rw [hMk]
      exact markST_at L 1 L.length i (Nat.le_refl _) hi)
    have own2 := own2'
    rw [← HML.out] at own2
    clear own2' hMk
    have hM8 : Mk.length ≤ 800 := by rw [HML.out]; omega
    obtain ⟨n, hn⟩ : ∃ n : Nat, n = 1 + L.length := ⟨_, rfl⟩
    rw [← hn]
    have HN := hidI (show 1 + Mk.length = n from by rw [HML.out, hn])
    have hn2 : n ≤ 302 := by omega
    clear hn
    go_wp2_with fail
    refine (heldStringS_any v2 Mk _ _ own2 HMA.out hM8).mono ?_
    rintro e w5 ⟨rfl, g5⟩
    rw [HN.out]
    have own1 := g5.row own1
    have own2 := g5.row own2
    have gg := gg.trans g5
    go_wp2_with fail
    refine (iReachedTrays s _ (gg.ml hm) hs').mono ?_
    rintro e w6 ⟨g6, v6, rfl, own6⟩
    rw [← HL.out] at own6
    rw [← HOK.out]
    have gg := gg.trans g6
    have own1 := g6.row own1
    have own2 := g6.row own2
    go_wp2_with fail
    refine (eqStringS_any v6 v1 L _ _ _ own6 own1 (by omega)).mono ?_
    rintro e w7 ⟨rfl, g7⟩
    have own2 := g7.row own2
    have gg := gg.trans g7
    go_wp2_with fail
    refine (heldStringS_any v2 Mk _ _ own2 HMA.out hM8).mono ?_
    rintro e w8 ⟨rfl, g8⟩
    rw [HN.out]
    have gg := gg.trans g8
    go_wp2
    go_ret
    exact ⟨rfl, gg⟩
end Go.Proofs.YtcldlnleiiloaaaGreatDoor
