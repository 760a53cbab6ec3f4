/-
  What the program's reader of trays returns: a grid exactly for the texts that are trays.
-/
import Derived.Test.YthjkeohnjggmiaaDoorImpl1c
namespace Go.Proofs.YthjkeohnjggmiaaDoor
open Go.RowKit
def rdG (l : List UInt8) : Grid := (parse l).getD ⟨0, 0, []⟩
def rdOk (l : List UInt8) : Bool := (parse l).isSome
theorem rd_none {l : List UInt8} (h : ∀ w, ¬ OkR (pieces l) w) : rdG l = ⟨0, 0, []⟩ ∧ rdOk l = false := by
  unfold rdG rdOk; rw [parse_none h]; exact ⟨rfl, rfl⟩
theorem rd_of {l : List UInt8} {w : Nat} (h : OkR (pieces l) w) : rdG l = ⟨w, (pieces l).length, (pieces l).flatten⟩ ∧ rdOk l = true := by
  unfold rdG rdOk; rw [parse_of h]; exact ⟨rfl, rfl⟩
def rowAt (rows : List ByteArray) (k : Nat) : ByteArray := rows.getD k ⟨#[]⟩
theorem rowAt_map (rows : List ByteArray) (k : Nat) (h : k < rows.length) : (rows.map (·.data.toList))[k]? = some (rowAt rows k).data.toList := by
  unfold rowAt; simp [List.getD, h]
theorem rowAt_cell {w : World} {B : Nat} {rows : List ByteArray} {T : TypeId} {fr : Nat × Nat} (h : Own w B (.cells (rows.map Value.string).toArray T fr)) (k : Nat) (hk : k < rows.length) :
    w.cell? ⟨B, k, none⟩ = some (.string (rowAt rows k)) := by
  rw [h.cell k]; unfold rowAt; simp [List.getD, hk]
theorem size_eq (s : ByteArray) : s.data.toList.length = s.size := Array.length_toList
theorem fin2 {A C : Array Value} {x y : Bool} (h1 : A = C) (h2 : x = y) : Ending.returned (.tuple #[.agg A, .bool x]) = .returned (.tuple #[.agg C, .bool y]) := by rw [h1, h2]
theorem take_flat {p : List (List UInt8)} {w : Nat} (k : Nat) (hk : k ≤ p.length) (h : ∀ (j : Nat) r, j < k → p[j]? = some r → r.length = w) : ((p.take k).flatten).length = nn w k := by
  have h2 : ∀ r ∈ p.take k, r.length = w := by
    intro r hr
    obtain ⟨j, hj, rfl⟩ := List.getElem_of_mem hr
    rw [List.length_take] at hj
    refine h j _ (by omega) ?_
    rw [List.getElem_take, List.getElem?_eq_getElem]
  rw [flatten_len h2, List.length_take, Nat.min_eq_left hk]
  rfl
theorem take_flat_succ {p : List (List UInt8)} {k : Nat} {r : List UInt8} (h : p[k]? = some r) : (p.take (k + 1)).flatten = (p.take k).flatten ++ r := by
  rw [List.take_add_one, h]; simp
theorem okR_mk {p : List (List UInt8)} {w : Nat} (h1 : 1 ≤ w) (h7 : w ≤ 7) (p1 : 1 ≤ p.length) (p7 : p.length ≤ 7) (h36 : nn w p.length ≤ 36) (hr : ∀ (j : Nat) r, j < p.length → p[j]? = some r → r.length = w) (hg : goodC p.flatten = true) : OkR p w := by
  unfold goodC at hg
  rw [Bool.and_eq_true] at hg
  refine ⟨h1, h7, p1, p7, h36, ?_, fun b hb => (List.all_eq_true.1 hg.1) b hb, hg.2⟩
  intro r hr'
  obtain ⟨j, hj, rfl⟩ := List.getElem_of_mem hr'
  exact hr j _ hj (List.getElem?_eq_getElem hj)
theorem okR_good {p : List (List UInt8)} {w : Nat} (h : OkR p w) : goodC p.flatten = true := by
  unfold goodC
  rw [Bool.and_eq_true]
  exact ⟨List.all_eq_true.2 h.cells, h.once⟩
theorem Tryd.u8size : (Tryd.prog.info? 5).map (·.size) = some 1 := by kernel_rfl
set_option maxHeartbeats 4000000 in
set_option maxRecDepth 100000 in
theorem readTray_any (s : ByteArray) (w : World) (hm : ML w) (hs : s.size ≤ 1048576) :
    Calls Tryd.prog 44 #[.string s] w (Ret (.tuple #[.agg (gvG (rdG s.data.toList)), .bool (rdOk s.data.toList)]) w) := by
  have gg := Gr.refl w
  by_cases h42 : 42 < s.size
  · have HV := hidI (rd_none (l := s.data.toList) (fun W h => by
      have := parse_len (parse_of h)
      rw [size_eq] at this
      omega))
    go_enter Tryd.func44, Tryd.ntmps44
    go_wp2_with (first | (refine r_alloc 46 _ Tryd.gzero rfl ?_; intro w1 B1 N1; have g1 := N1.gr; have b1 : Blk w1 B1 (gv 0 0 []) 46 := N1.blk; have l1 := N1.lo; have t1 := N1.hi; have z1 := g1.size; have gg := gg.trans g1; clear N1; obtain ⟨b1_0, b1_1, b1_2⟩ := gcells b1) | (refine r_build 46 [] [] _ (Tryd.gbuild0 _) rfl rfl ?_) | (refine r_store_row 46 46 _ _ _ rfl (gv _ _ _) _ rfl b1 (Tryd.gsize' _ _ _) (by simp only [gv_size]) (gv_one _ _ _) rfl ?_; intro w2 u2 b1'; have z2 := u2.size; have gg := u2.gr gg (by omega); clear b1; have b1 := b1'; clear b1'; obtain ⟨b1_0, b1_1, b1_2⟩ := gcells b1))
    refine bodyPost_ret (results_row_bool rfl _ _ _ _ _ _ rfl b1 Tryd.underlying46 rfl (Tryd.ginfo' _ _ _)) rfl ⟨?_, gg⟩
    exact fin2 (by rw [HV.out.1]; rfl) (by rw [HV.out.2])
  · go_enter Tryd.func44, Tryd.ntmps44
    go_wp2_with (refine r_alloc 46 _ Tryd.gzero rfl ?_; intro w1 B1 N1; have g1 := N1.gr; have b1 : Blk w1 B1 (gv 0 0 []) 46 := N1.blk; have l1 := N1.lo; have t1 := N1.hi; have z1 := g1.size; have gg := gg.trans g1; clear N1; obtain ⟨b1_0, b1_1, b1_2⟩ := gcells b1)
    refine (split_any s _ (by omega) (gg.ml hm)).mono ?_
    rintro e w2 ⟨rows, B2, hrows, rfl, ho, hB2, g2⟩
    have b1 := g2.blk b1
    have z2 := g2.size
    have gg := gg.trans g2
    have hlen : rows.length = (pieces s.data.toList).length := by rw [← hrows, List.length_map]
    have hpos := pieces_length_pos s.data.toList
    rw [← hlen] at hpos
    have hc0 := rowAt_cell ho 0 (by omega)
    obtain ⟨n, hn⟩ : ∃ n, rows.length = n := ⟨_, rfl⟩
    obtain ⟨r0, hr0⟩ : ∃ r0, rowAt rows 0 = r0 := ⟨_, rfl⟩
    rw [hr0] at hc0
    rw [hn] at hpos ⊢
    have HR0 := hidI hr0
    have HN := hidI hn
    have HROWS := hidI hrows
    have HO := hidI ho
    have HLEN := hidI hlen
    have HW0 := hidI (show ((pieces s.data.toList).headD []).length = r0.size from by
      have h1 := rowAt_map rows 0 (by omega)
      rw [hrows, hr0] at h1
      rw [← size_eq r0]
      cases hp : pieces s.data.toList with
      | nil => rw [hp] at h1; cases h1
      | cons a b => rw [hp] at h1; simp at h1; simp [h1])
    clear hr0 hn hrows ho hlen
    by_cases hsz : isSz r0.size n = true
    · obtain ⟨hw1, hw7, hn1, hn7, h36⟩ := isSz_iff.1 hsz
      have h36' : nn r0.size n ≤ 36 := by have := nn_int r0.size n; omega
      have hw7' : r0.size ≤ 7 := by omega
      have hw1' : 1 ≤ r0.size := by omega
      have hn7' : n ≤ 7 := by omega
      have HSZ := hidI hsz
      clear hsz h36 hw1 hw7 hn1 hn7
      have HROW := hidI (show ∀ k, k < n → (pieces s.data.toList)[k]? = some (rowAt rows k).data.toList from by
        intro k hk
        rw [← HROWS.out]
        exact rowAt_map rows k (by rw [HN.out]; exact hk))
      go_wp2_with (first | (refine r_alloc 46 _ Tryd.gzero rfl ?_; intro w3 B3 N3; have g3 := N3.gr; have b3 : Blk w3 B3 (gv 0 0 []) 46 := N3.blk; have l3 := N3.lo; have t3 := N3.hi; have z3 := g3.size; have b1 := g3.blk b1; have gg := gg.trans g3; clear N3; obtain ⟨b3_0, b3_1, b3_2⟩ := gcells b3) | (refine r_build 46 [(0, .tmp 17), (1, .tmp 19)] [(0, .int .i64 (r0.size)), (1, .int .i64 (n))] _ (Tryd.gbuild _ _ _) rfl rfl ?_) | (refine r_store_row 46 46 _ _ _ rfl (gv _ _ _) _ rfl b3 (Tryd.gsize' _ _ _) (by simp only [gv_size]) (gv_one _ _ _) rfl ?_; intro w4 u4 b3'; have z4 := u4.size; have gg := u4.gr gg (by omega); have b1 := u4.blk b1 (by omega); clear b3; have b3 := b3'; clear b3'; obtain ⟨b3_0, b3_1, b3_2⟩ := gcells b3) | (go_at_call 80; refine (isSize_any _ _ _).mono ?_; rintro e wSame ⟨rfl, rfl⟩; rw [HSZ.out]))
      have ho3 := u4.keep (g3.own HO.out) (by have := Gr.lt (g3.own HO.out); have := Gr.lt HO.out; omega)
      go_loopw [6, 7, 30] (fun _ _ i wr => ∃ k : Nat, k ≤ n ∧ i = .int .i64 k ∧ Own wr B2 (.cells (rows.map Value.string).toArray 9 (0, 0)) ∧ Blk wr B1 (gv 0 0 []) 46 ∧
          Blk wr B3 (gv r0.size n ((pieces s.data.toList).take k).flatten) 46 ∧ Gr w wr ∧ Hid (∀ j, j < k → (rowAt rows j).size = r0.size)) (fun _ _ i _ => n - (intOf i).toNat)
      case atStart => exact ⟨0, Nat.zero_le _, rfl, ho3, b1, b3, gg, fun j hj => by omega⟩
      case round =>
        obtain ⟨k, hk, rfl, ho, b1, b3, gg, HA⟩ := hrel
        have hB13 : B1 < B3 := by omega
        have hlo3 : w.heap.size ≤ B3 := by omega
        have hcl := take_flat (p := pieces s.data.toList) (w := r0.size) k (by rw [← HLEN.out, HN.out]; exact hk) (fun j r hj hr => by
          rw [HROW.out j (by omega)] at hr
          cases hr
          rw [size_eq]
          exact HA.out j hj)
        have HCL := hidI hcl
        clear hcl
        by_cases hlt : k < n
        · have hc := rowAt_cell ho k (by rw [HN.out]; exact hlt)
          have hrow := HROW.out k hlt
          obtain ⟨r, hr⟩ : ∃ r, rowAt rows k = r := ⟨_, rfl⟩
          rw [hr] at hc hrow
          have HR := hidI hr
          have HRW := hidI hrow
          clear hr hrow
          have HO3 := hidI ho
          clear ho
          obtain ⟨b3_0, b3_1, b3_2⟩ := gcells b3
          clear b3_2
          by_cases hrs : r.size = r0.size
          · have hle : nn r0.size k + r0.size ≤ nn r0.size n := by
              unfold nn
              have : r0.size * k + r0.size = r0.size * (k + 1) := by rw [Nat.mul_succ]
              rw [this]; exact Nat.mul_le_mul_left _ hlt
            have HCOPY := hidI (gv_copy r0.size n _ r.data.toList _ HCL.out (by rw [size_eq]; omega))
            have HRS := hidI hrs
            have hne : ((r.size : Int) != (r0.size : Int)) = false := by rw [hrs]; simp
            clear hrs
            go_wp2_with (first
              | (go_at_call 54; refine (rowOf_any B3 r0.size n k _ _ b3 hw1' hw7' hlt h36' hn7').mono ?_; rintro e w6 ⟨rfl, m, rfl⟩)
              | (refine r_copy_string _ _ 38 9 5 46 Tryd.underlying38 Tryd.u8size B3 (2 + nn r0.size k) r0.size r0.size _ r rfl rfl (((Gr.refl wr).drewN m).blk b3) (by rw [HRS.out]; omega) (by rw [gv_size, HRS.out]; omega) rfl ?_; intro w7 u7 b7))
            rw [← size_eq r, HCOPY.out, ← take_flat_succ HRW.out] at b7
            go_roundw
            case rel =>
              have g7 := ((Gr.refl wr).drewN m)
              have hB2 := Gr.lt HO.out
              exact ⟨k + 1, by omega, by go_num, u7.keep (g7.own HO3.out) (by omega), u7.blk (g7.blk b1) (by omega), b7, u7.gr (gg.drewN m) hlo3, fun j hj => if h : j < k then HA.out j h else by rw [show j = k by omega, HR.out]; exact HRS.out⟩
            case measure => simp [intOf]; omega
          · have hne : ((r.size : Int) != (r0.size : Int)) = true := by rw [bne_iff_ne]; omega
            have HV := hidI (rd_none (l := s.data.toList) (fun W h => by
              have e1 := (okRows_of h).2
              rw [HW0.out] at e1
              have e2 := h.rows r.data.toList (List.mem_of_getElem? HRW.out)
              rw [size_eq] at e2
              omega))
            clear hrs
            go_wp2_with (first | (refine r_build 46 [] [] _ (Tryd.gbuild0 _) rfl rfl ?_) | (refine r_store_row 46 46 _ _ _ rfl (gv _ _ _) _ rfl b1 (Tryd.gsize' _ _ _) (by simp only [gv_size]) (gv_one _ _ _) rfl ?_; intro w8 u8 b1'; have z8 := u8.size; have gg := u8.gr gg (by omega); have b3 := u8.blk b3 (by omega); clear b1; have b1 := b1'; clear b1'; obtain ⟨b1_0, b1_1, b1_2⟩ := gcells b1))
            refine bodyPost_ret (results_row_bool rfl _ _ _ _ _ _ rfl b1 Tryd.underlying46 rfl (Tryd.ginfo' _ _ _)) rfl ⟨?_, gg⟩
            exact fin2 (by rw [HV.out.1]; rfl) (by rw [HV.out.2])
        · obtain rfl : k = n := by omega
          have hall : ((pieces s.data.toList).take k) = pieces s.data.toList := List.take_of_length_le (by have := HLEN.out; rw [HN.out] at this; omega)
          rw [hall] at b3 HCL
          have HC := hidI HCL.out
          have hlen : (pieces s.data.toList).length = k := by rw [← HLEN.out, HN.out]
          have HRD := hidI (show goodC (pieces s.data.toList).flatten = true → rdG s.data.toList = ⟨r0.size, k, (pieces s.data.toList).flatten⟩ ∧ rdOk s.data.toList = true from fun hg => by
            have := rd_of (okR_mk hw1' hw7' (by omega) (by omega) (by rw [hlen]; exact h36') (fun j r hj hr => by
              rw [HROW.out j (by omega)] at hr
              cases hr
              rw [size_eq]
              exact HA.out j (by omega)) hg)
            rw [hlen] at this
            exact this)
          have HRN := hidI (show goodC (pieces s.data.toList).flatten = false → rdG s.data.toList = ⟨0, 0, []⟩ ∧ rdOk s.data.toList = false from fun hg => rd_none (fun W h => by
            rw [okR_good h] at hg; cases hg))
          clear hall hlen hlt
          by_cases hg : goodC (pieces s.data.toList).flatten = true
          · have HV := hidI (HRD.out hg)
            have HG := hidI hg
            clear hg
            go_wp2_with (first | (refine r_load_row 46 _ _ rfl _ _ _ b3 Tryd.underlying46 rfl (Tryd.ginfo' _ _ _) rfl ?_) | (go_at_call 81; refine (hasCells_any r0.size k _ _ hw7' hn7' h36' HC.out).mono ?_; rintro e w6 ⟨rfl, g6⟩; rw [HG.out]; have b1 := g6.blk b1; have b3 := g6.blk b3; have z6 := g6.size; have gg := gg.trans g6) | (refine r_store_row 46 46 _ _ _ rfl (gv _ _ _) _ rfl b1 (Tryd.gsize' _ _ _) (by simp only [gv_size]) (gv_one _ _ _) rfl ?_; intro w8 u8 b1'; have z8 := u8.size; have gg := u8.gr gg (by omega); have b3 := u8.blk b3 (by omega); clear b1; have b1 := b1'; clear b1'; obtain ⟨b1_0, b1_1, b1_2⟩ := gcells b1))
            refine bodyPost_ret (results_row_bool rfl _ _ _ _ _ _ rfl b1 Tryd.underlying46 rfl (Tryd.ginfo' _ _ _)) rfl ⟨?_, gg⟩
            exact fin2 (by rw [HV.out.1]; rfl) (by rw [HV.out.2])
          · have hg' : goodC (pieces s.data.toList).flatten = false := by simpa using hg
            have HV := hidI (HRN.out hg')
            have HG := hidI hg'
            clear hg hg'
            go_wp2_with (first | (refine r_load_row 46 _ _ rfl _ _ _ b3 Tryd.underlying46 rfl (Tryd.ginfo' _ _ _) rfl ?_) | (go_at_call 81; refine (hasCells_any r0.size k _ _ hw7' hn7' h36' HC.out).mono ?_; rintro e w6 ⟨rfl, g6⟩; rw [HG.out]; have b1 := g6.blk b1; have b3 := g6.blk b3; have z6 := g6.size; have gg := gg.trans g6) | (refine r_build 46 [] [] _ (Tryd.gbuild0 _) rfl rfl ?_) | (refine r_store_row 46 46 _ _ _ rfl (gv _ _ _) _ rfl b1 (Tryd.gsize' _ _ _) (by simp only [gv_size]) (gv_one _ _ _) rfl ?_; intro w8 u8 b1'; have z8 := u8.size; have gg := u8.gr gg (by omega); have b3 := u8.blk b3 (by omega); clear b1; have b1 := b1'; clear b1'; obtain ⟨b1_0, b1_1, b1_2⟩ := gcells b1))
            refine bodyPost_ret (results_row_bool rfl _ _ _ _ _ _ rfl b1 Tryd.underlying46 rfl (Tryd.ginfo' _ _ _)) rfl ⟨?_, gg⟩
            exact fin2 (by rw [HV.out.1]; rfl) (by rw [HV.out.2])
    · have hsz' : isSz r0.size n = false := by simpa using hsz
      have HV := hidI (rd_none (l := s.data.toList) (fun W h => by
        refine hsz (isSz_iff.2 ?_)
        have e1 := (okRows_of h).2
        rw [HW0.out] at e1
        have e2 := HLEN.out
        rw [HN.out] at e2
        have := h.w1; have := h.w7; have := h.h1; have := h.h7; have := h.c36
        rw [← e2] at *
        rw [← e1] at *
        have e3 : ((r0.size * n : Nat) : Int) = (r0.size : Int) * n := by simp
        omega))
      have HSZ := hidI hsz'
      clear hsz hsz'
      go_wp2_with (first | (refine r_alloc 46 _ Tryd.gzero rfl ?_; intro w3 B3 N3; have g3 := N3.gr; have b3 : Blk w3 B3 (gv 0 0 []) 46 := N3.blk; have l3 := N3.lo; have t3 := N3.hi; have z3 := g3.size; have b1 := g3.blk b1; have gg := gg.trans g3; clear N3; obtain ⟨b3_0, b3_1, b3_2⟩ := gcells b3) | (refine r_build 46 [] [] _ (Tryd.gbuild0 _) rfl rfl ?_) | (refine r_build 46 [(0, .tmp 17), (1, .tmp 19)] [(0, .int .i64 (r0.size)), (1, .int .i64 (n))] _ (Tryd.gbuild _ _ _) rfl rfl ?_) | (refine r_store_row 46 46 _ _ _ rfl (gv _ _ _) _ rfl b3 (Tryd.gsize' _ _ _) (by simp only [gv_size]) (gv_one _ _ _) rfl ?_; intro w4 u4 b3'; have z4 := u4.size; have gg := u4.gr gg (by omega); have b1 := u4.blk b1 (by omega); clear b3; have b3 := b3'; clear b3'; obtain ⟨b3_0, b3_1, b3_2⟩ := gcells b3) | (go_at_call 80; refine (isSize_any _ _ _).mono ?_; rintro e wSame ⟨rfl, rfl⟩; rw [HSZ.out]) | (refine r_store_row 46 46 _ _ _ rfl (gv _ _ _) _ rfl b1 (Tryd.gsize' _ _ _) (by simp only [gv_size]) (gv_one _ _ _) rfl ?_; intro w5 u5 b1'; have z5 := u5.size; have gg := u5.gr gg (by omega); clear b1; have b1 := b1'; clear b1'; obtain ⟨b1_0, b1_1, b1_2⟩ := gcells b1))
      refine bodyPost_ret (results_row_bool rfl _ _ _ _ _ _ rfl b1 Tryd.underlying46 rfl (Tryd.ginfo' _ _ _)) rfl ⟨?_, gg⟩
      exact fin2 (by rw [HV.out.1]; rfl) (by rw [HV.out.2])
end Go.Proofs.YthjkeohnjggmiaaDoor
