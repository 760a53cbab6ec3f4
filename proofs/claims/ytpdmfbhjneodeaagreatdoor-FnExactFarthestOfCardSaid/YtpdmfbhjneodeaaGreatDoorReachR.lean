/-
  The texts of the trays that a tray reaches, in their order: in the program and in the model, and the law.
-/
import Derived.Test.YtpdmfbhjneodeaaGreatDoorReachN
import Derived.Test.YtpdmfbhjneodeaaGreatDoorSortT
import Derived.Test.YtpdmfbhjneodeaaGreatDoorShelfS
namespace Go.Proofs.YtpdmfbhjneodeaaGreatDoor
open Go.RowKit Go.Sort Go.Lib
def txG (s : Sta Grid) : List UInt8 := txtL s.t.w s.t.c s.t.h
/-- The texts of the first k states. -/
def trT (S : List (Sta Grid)) (k : Nat) : List (List UInt8) := (List.range k).map fun j => txG (sta S j)
theorem trT_length (S : List (Sta Grid)) (k : Nat) : (trT S k).length = k := by simp [trT]
theorem trT_succ (S : List (Sta Grid)) (k : Nat) : strV (trT S k) ++ [tx (txG (sta S k))] = strV (trT S (k + 1)) := by
  unfold strV trT
  rw [List.range_succ, List.map_append, List.map_append]
  rfl
def rtL (l : List UInt8) : List (List UInt8) := match rcS l with
  | none => []
  | some S => srtT (trT S S.length)
theorem rtL_le (l : List UInt8) : (rtL l).length ≤ 300 := by
  unfold rtL
  cases h : rcS l with
  | none => exact Nat.zero_le _
  | some S =>
    obtain ⟨g, -, hi⟩ := rcS_inv h
    show (srtT (trT S S.length)).length ≤ 300
    rw [srtT_length, trT_length]
    exact hi.le
/-- Grids whose text can be written. -/
def Okt (g : Grid) : Prop := 1 ≤ g.w ∧ g.w ≤ 7 ∧ g.h ≤ 7 ∧ nn g.w g.h ≤ 36
theorem rcS_okt {l : List UInt8} {S : List (Sta Grid)} (h : rcS l = some S) : ∀ j, j < S.length → Okt (sta S j).t := by
  intro j hj
  unfold rcS at h
  cases hp : parse l with
  | none => rw [hp] at h; cases h
  | some g =>
    rw [hp] at h
    obtain ⟨hc, h1, -, -⟩ := cel_of hp
    have hi := reachS_inv Sized.tilt ⟨hc, rfl, rfl⟩ h
    have hz := hi.good j hj
    exact ⟨by rw [hz.w]; exact h1, hz.cel.w7, hz.cel.h7, hz.cel.n36⟩
def RetStrs (T : TypeId) (L : List (List UInt8)) (ok : Bool) (w : World) (e : Ending) (w' : World) : Prop :=
  Gr w w' ∧ ∃ v, e = .returned (.tuple #[v, .bool ok]) ∧ w'.ownsRow w.heap.size T 1 v L.length (strV L)
theorem Tryz.stzeroR (w : World) : (zeroValue 45).run Tryz.prog w = .ok (.agg (newL ⟨0, 0, []⟩ 0 0 0 0).toArray) w := by kernel_rfl
theorem Tryz.stinfoR : (Tryz.prog.info? 45).map (·.size) = some 43 := by kernel_rfl
theorem wholeR {base g cap : Nat} {w : World} {S : List (Sta Grid)} {nx : Nat → Value} (h : w.ownsRow base 45 43 (.slice (some ⟨g, 0, none⟩) S.length cap) S.length (rowsI S nx).flatten) {j : Nat} (hj : j < S.length) :
    w.rangeAt g (j * 43) (cellS (sta S j) (nx j)).toArray.toList := by
  have := own_flat_range h (rowsI_wide _ _) (rowsI_length _ _) hj (o := 0) (cs := (cellS (sta S j) (nx j)).toArray.toList) (by simp [cellS_length]) (fun i hi => by
    rw [rowsI_get S nx j hj, Nat.zero_add])
  rwa [Nat.add_zero] at this
set_option maxHeartbeats 4000000 in
set_option maxRecDepth 100000 in
theorem textsOf_any (v : Value) (S : List (Sta Grid)) (nx : Nat → Value) (base : Nat) (w : World) (h : w.ownsRow base 45 43 v S.length (rowsI S nx).flatten) (hnx : ∀ j, j < S.length → (nx j).oneCell' = true) (hC : ∀ j, j < S.length → Okt (sta S j).t) (h300 : S.length ≤ 300) :
    Calls Tryz.prog 12 #[v] w fun e w' => Gr w w' ∧ ∃ u, e = .returned u ∧ w'.ownsRow w.heap.size 9 1 u S.length (strV (srtT (trT S S.length))) := by
  have gg := Gr.refl w
  obtain ⟨pv, mv, cap, rfl⟩ := own_slice h
  obtain rfl : mv = S.length := own_len h
  have HNX := hidI hnx
  have HCC := hidI hC
  clear hnx hC
  have own0 : w.ownsRow w.heap.size 9 1 (.slice none 0 0) 0 (strV (trT S 0)) := World.ownsRow_nil _ _ _ _
  go_enter Tryz.func12, Tryz.ntmps12
  go_wp2
  go_loopw [3, 8] (fun ov iv wr => ∃ j : Nat, j ≤ S.length ∧ iv = .int .i64 j ∧ wr.ownsRow w.heap.size 9 1 ov j (strV (trT S j)) ∧ wr.ownsRow base 45 43 (.slice pv S.length cap) S.length (rowsI S nx).flatten ∧ Gr w wr) (fun _ iv _ => S.length - (intOf iv).toNat)
  case atStart => exact ⟨0, Nat.zero_le _, rfl, own0, h, gg⟩
  case round =>
    clear own0 h gg
    obtain ⟨j, hj, rfl, own, row, gg⟩ := hrel
    have zr := gg.size
    by_cases hlt : j < S.length
    · obtain ⟨gB, cap', e1, -, -⟩ := own_shape row (by omega)
      cases e1
      have cr := wholeR row hlt
      have hgB := (row.lt gB rfl).2
      obtain ⟨s, hs⟩ : ∃ s, s = sta S j := ⟨_, rfl⟩
      obtain ⟨v0, hv0⟩ : ∃ v0, v0 = nx j := ⟨_, rfl⟩
      have hok := HCC.out j hlt
      rw [← hs] at hok
      obtain ⟨k1, k2, k3, k4⟩ := hok
      have HON := hidI (show ∀ u ∈ (cellS s v0).toArray.toList, u.oneCell' = true from cellS_one _ _ (by rw [hv0]; exact HNX.out j hlt))
      have HSZ := hidI (show (cellS s v0).toArray.size = 43 from by rw [List.size_toArray, cellS_length])
      have HR := hidI (fun (W' : World) (A : Nat) (b : Blk W' A (cellS s v0).toArray 45) => show W'.rangeAt A 0 (gvG s.t).toList from fun j u hj => by
        have h38 : j < 38 := by
          rcases Nat.lt_or_ge j 38 with h | h
          · exact h
          · rw [List.getElem?_eq_none (by rw [gvl]; exact h)] at hj; cases hj
        rw [Nat.zero_add, b.cell j, List.getElem?_toArray, cellS_hd s v0 j h38, hj])
      have HSU := hidI (show strV (trT S j) ++ [tx (txG s)] = strV (trT S (j + 1)) from by rw [hs]; exact trT_succ S j)
      rw [← hs, ← hv0] at cr
      clear hs hv0
      obtain ⟨p5, n5, k5, rfl⟩ := own_slice own
      obtain rfl : n5 = j := own_len own
      go_wp2_with (first | (refine r_idx 36 _ _ (.slice (some ⟨gB, 0, none⟩) S.length cap) (.int .i64 n5) _ rfl rfl (Tryz.stix gB S.length cap n5 hlt _) rfl ?_) | (refine r_ldm 45 _ gB (n5 * 43) (cellS s v0).toArray _ rfl cr Tryz.underlying45 rfl (by rw [HSZ.out]; exact Tryz.stinfoR) rfl ?_) | (refine r_alloc 45 _ Tryz.stzeroR rfl ?_; intro w8 B8 N8; have g8 := N8.gr; have b8 : Blk w8 B8 (newL ⟨0, 0, []⟩ 0 0 0 0).toArray 45 := N8.blk; have l8 := N8.lo; have z8 := g8.size; have own := g8.row own; have row := g8.row row; have gg := gg.trans g8; have hB8 : gB ≠ B8 := (by omega); clear N8) | (refine r_store_row 45 45 _ _ B8 rfl (cellS s v0).toArray _ rfl b8 (by intro w; rw [HSZ.out]; exact Tryz.sizeOf45 w) (by rw [HSZ.out, List.size_toArray, newL_length]) HON.out rfl ?_; intro w9 u9 b9; have own := u9.row own (own_ne own b8 (by decide)); have row := u9.row row (fun e => by cases e; exact hB8 rfl); have z9 := u9.size; have gg := u9.gr gg (by omega)) | (refine r_fld 45 _ 0 (.pointer (some ⟨B8, 0, none⟩)) (.pointer (some ⟨B8, 0, none⟩)) rfl (Tryz.stf0 B8 0 _) rfl ?_) | (refine r_ldm 43 _ B8 0 (gvG s.t) _ rfl (HR.out _ _ b9) Tryz.underlying43 rfl (Tryz.ginfo' _ _ _) rfl ?_) | (go_at_call 20; refine (trayText_any s.t.w s.t.h s.t.c _ (.inl k1) k2 k3 k4).mono ?_; rintro e w10 ⟨rfl, g10⟩; have gg := gg.trans g10; have own := g10.row own; have row := g10.row row; have z10 := g10.size) | (refine r_slice1 47 9 (.tmp 15) (tx (txG s)) rfl (Tryz.bstr1 _ _) rfl ?_; intro w11 B11 N11; have g11 := N11.gr; have own := g11.row own; have row := g11.row row; have gg := gg.trans g11; have z11 := g11.size) | (refine r_append (.tmp 12) (.tmp 16) 47 9 _ 1 16 w.heap.size Tryz.strJ (.slice p5 n5 k5) n5 (strV (trT S n5)) rfl own ⟨B11, 0, none⟩ 1 1 [tx (txG s)] rfl rfl N11.cell1 (by intro u hu; simp at hu; subst hu; rfl) (by omega) (by decide) (by omega) rfl ?_; intro v12 w12 own12 g12))
      have row := g12.row row (own_ne2 row own (by decide))
      have gg := g12.gr gg (own_gr own (Nat.le_refl _))
      rw [HSU.out] at own12
      go_roundw
      case rel => exact ⟨n5 + 1, by omega, by go_num, own12, row, gg⟩
      case measure => simp [intOf]; omega
    · obtain rfl : j = S.length := by omega
      clear hlt
      obtain ⟨p5, n5, k5, rfl⟩ := own_slice own
      obtain rfl : n5 = S.length := own_len own
      rcases Nat.eq_zero_or_pos S.length with h0 | h0
      · have HE := hidI (show strV (srtT (trT S S.length)) = strV (trT S S.length) from by rw [h0]; simp [srtT, trT])
        have HS := hidI (fun (w : World) => show Calls Tryz.prog 21 #[.slice p5 S.length k5] w fun e w' => e = .returned (.tuple #[]) ∧ w' = w from by rw [h0]; exact Tryz.slices_Sort_string_none p5 k5 w)
        clear h0
        go_wp2_with (go_at_call 21; refine (HS.out _).mono ?_; rintro e w13 ⟨rfl, rfl⟩)
        go_ret
        exact ⟨gg, _, rfl, by rw [HE.out]; exact own⟩
      · obtain ⟨g5, c5, e5, -, -⟩ := own_shape own h0
        cases e5
        have hh : Holds encStr wr g5 0 (trT S S.length).toArray := own_holds encStr own _ (by simp [trT_length]) fun i hi => by
          rw [strV_get _ _ (by rw [trT_length]; exact hi)]
          have hi' : i < (trT S S.length).length := by rw [trT_length]; exact hi
          rw [getElem!_pos (trT S S.length).toArray i (by simpa using hi')]
          unfold ts
          rw [List.getD_eq_getElem?_getD, List.getElem?_eq_getElem hi']
          rfl
        have hblk := (own.lt g5 rfl).2
        have HS := hidI (Tryz.slices_Sort_string g5 0 k5 (trT S S.length) wr hh hblk (by rw [trT_length]; omega))
        rw [trT_length] at HS
        clear hh
        go_wp2_with (go_at_call 21; refine HS.out.mono ?_; rintro e w13 ⟨rfl, n, os, rfl⟩)
        obtain ⟨own13, g13⟩ := sort_own encStr own ((trT S S.length).mergeSort fun x y => decide (x ≤ y)).toArray (by simp [trT_length]) n os
        have gg := g13.gr gg (own_gr own (Nat.le_refl _))
        go_wp2
        go_ret
        exact ⟨gg, _, rfl, own13⟩
end Go.Proofs.YtpdmfbhjneodeaaGreatDoor
