/-
  The cells that a ball comes to: the program's list, and the law.
-/
import Derived.Test.YtoadoeahbekkoaaGreatDoorCellsS
namespace Go.Proofs.YtoadoeahbekkoaaGreatDoor
open Go.RowKit Go.Lib Go.Sort
/-- The cells of the first k states, as they come. -/
def cbT (S : List (Sta Grid)) (b : UInt8) (k : Nat) : List Int := (List.range k).map (cbX S b)
theorem cbT_length (S : List (Sta Grid)) (b : UInt8) (k : Nat) : (cbT S b k).length = k := by simp [cbT]
theorem cbT_succ (S : List (Sta Grid)) (b : UInt8) (k : Nat) : cbT S b (k + 1) = cbT S b k ++ [cbX S b k] := by
  unfold cbT
  rw [List.range_succ, List.map_append]
  rfl
theorem mem_cbT (S : List (Sta Grid)) (b : UInt8) (k : Nat) (x : Int) : x ∈ cbT S b k ↔ ∃ j, j < k ∧ cbX S b j = x := by
  unfold cbT
  rw [List.mem_map]
  exact ⟨fun ⟨j, hj, e⟩ => ⟨j, List.mem_range.1 hj, e⟩, fun ⟨j, hj, e⟩ => ⟨j, List.mem_range.2 hj, e⟩⟩
theorem compact_inv (d : Array Int) (hd : ∀ i j, i ≤ j → j < d.size → d[i]! ≤ d[j]!) : ∀ m, m ≤ d.size → (compactUpTo d m).Pairwise (· < ·) ∧ ∀ x, x ∈ compactUpTo d m ↔ ∃ j, j < m ∧ d[j]! = x
  | 0, _ => ⟨List.Pairwise.nil, fun x => ⟨fun h => (by cases h), fun ⟨j, hj, _⟩ => absurd hj (Nat.not_lt_zero _)⟩⟩
  | m + 1, hm => by
    obtain ⟨h1, h2⟩ := compact_inv d hd m (by omega)
    rw [compactUpTo_succ]
    by_cases hk : keeps d m = true
    · rw [if_pos hk]
      refine ⟨?_, fun x => ?_⟩
      · rw [List.pairwise_append]
        refine ⟨h1, by simp, fun a ha c hc => ?_⟩
        obtain rfl : c = d[m]! := by simpa using hc
        obtain ⟨j, hj, rfl⟩ := (h2 a).1 ha
        unfold keeps at hk
        rw [decide_eq_true_eq] at hk
        rcases hk with hk | hk
        · omega
        · have a1 := hd j (m - 1) (by omega) (by omega)
          have a2 := hd (m - 1) m (by omega) (by omega)
          omega
      · rw [List.mem_append, h2, List.mem_singleton]
        constructor
        · rintro (⟨j, hj, e⟩ | e)
          · exact ⟨j, by omega, e⟩
          · exact ⟨m, by omega, e.symm⟩
        · rintro ⟨j, hj, e⟩
          rcases Nat.lt_or_ge j m with h | h
          · exact .inl ⟨j, h, e⟩
          · obtain rfl : j = m := by omega
            exact .inr e.symm
    · rw [if_neg hk, List.append_nil]
      refine ⟨h1, fun x => ?_⟩
      rw [h2]
      constructor
      · rintro ⟨j, hj, e⟩; exact ⟨j, by omega, e⟩
      · rintro ⟨j, hj, e⟩
        rcases Nat.lt_or_ge j m with h | h
        · exact ⟨j, h, e⟩
        · obtain rfl : j = m := by omega
          have hk' : ¬ (j = 0 ∨ d[j]! ≠ d[j - 1]!) := fun h => hk (by unfold keeps; exact decide_eq_true h)
          have e2 : d[j]! = d[j - 1]! := Classical.byContradiction fun h => hk' (.inr h)
          exact ⟨j - 1, by omega, by rw [← e2]; exact e⟩
theorem compact_sorted (zs : List Int) (hz : zs.Pairwise (· ≤ ·)) : (Lib.compact zs).Pairwise (· < ·) ∧ ∀ x, x ∈ Lib.compact zs ↔ x ∈ zs := by
  have hg : ∀ j (h : j < zs.length), zs.toArray[j]! = zs[j] := fun j h => by rw [getElem!_pos zs.toArray j (by simpa using h)]; simp
  have hs : zs.toArray.size = zs.length := by simp
  obtain ⟨h1, h2⟩ := compact_inv zs.toArray (fun i j hij hj => by
    rw [hs] at hj
    rw [hg i (by omega), hg j hj]
    rcases Nat.lt_or_ge i j with h | h
    · exact List.pairwise_iff_getElem.1 hz i j (by omega) hj h
    · have e : i = j := by omega
      subst e
      exact Int.le_refl _) zs.length (by omega)
  refine ⟨h1, fun x => ?_⟩
  unfold Lib.compact
  rw [h2]
  constructor
  · rintro ⟨j, hj, e⟩
    rw [hg j hj] at e
    rw [← e]
    exact List.getElem_mem hj
  · intro hx
    obtain ⟨j, hj, e⟩ := List.getElem_of_mem hx
    exact ⟨j, hj, by rw [hg j hj]; exact e⟩
theorem own_cut {w : World} {base : Nat} {e : TypeId} {g n cap q : Nat} {xs : List Value} (h : w.ownsRow base e 1 (.slice (some ⟨g, 0, none⟩) n cap) n xs) (hq : q ≤ n) : w.ownsRow base e 1 (.slice (some ⟨g, 0, none⟩) q cap) q (xs.take q) := by
  obtain ⟨h1, ⟨h', _⟩ | ⟨g', cap', cur, h', hb, hg, hnc, hcm, hcs, ht⟩⟩ := h
  · cases h'
  · simp only [Value.slice.injEq, Option.some.injEq, Addr.mk.injEq, and_true, true_and] at h'
    obtain ⟨rfl, rfl⟩ := h'
    refine ⟨by rw [List.length_take]; omega, .inr ⟨g, cap, cur, rfl, hb, hg, by omega, hcm, hcs, ?_⟩⟩
    rw [← ht, List.take_take]
    congr 1
    omega
theorem Tryz.cg2 (B : Nat) (w : World) : (Instr.fieldAt 53 (.pointer (some ⟨B, 0, none⟩)) 2).run Tryz.prog w = .ok (.pointer (some ⟨B, 2, none⟩)) w := by kernel_rfl
set_option maxHeartbeats 1000000 in
set_option maxRecDepth 100000 in
theorem index36_any (B : Nat) (c : List UInt8) (b : UInt8) (w : World) (hcc : ∀ i, i < 36 → w.cell? ⟨B, 2 + i, none⟩ = some (.int .u8 (at0 c i).toNat)) :
    Calls Tryz.prog 23 #[.slice (some ⟨B, 2, none⟩) 36 36, .int .u8 b.toNat] w (Ret (.int .i64 (ixC c b 36)) w) := by
  have gg := Gr.refl w
  have HCC := hidI hcc
  clear hcc
  go_enter Tryz.func23, Tryz.ntmps23
  go_wp2
  go_loop [5, 8] (fun _ i => ∃ k : Nat, k ≤ 36 ∧ i = .int .i64 k ∧ Hid (∀ j, j < k → at0 c j ≠ b)) (fun _ i => 36 - (intOf i).toNat)
  case atStart => exact ⟨0, Nat.zero_le _, rfl, fun j hj => by omega⟩
  case round =>
    obtain ⟨k, hk, rfl, HA⟩ := hrel
    by_cases hlt : k < 36
    · have hc := HCC.out k hlt
      by_cases hb : at0 c k = b
      · have e1 : ((b.toNat : Int) == ((at0 c k).toNat : Int)) = true := beq_byte hb.symm
        have HV := hidI (ixC_some hlt hb HA.out)
        clear hb
        go_wp2
        go_ret
        exact ⟨ret_int HV.out.symm, gg⟩
      · have e1 : ((b.toNat : Int) == ((at0 c k).toNat : Int)) = false := bne_byte (fun e => hb e.symm)
        have HB := hidI hb
        clear hb
        go_wp2
        go_round
        case rel => exact ⟨k + 1, by omega, by go_num, fun j hj => if h : j < k then HA.out j h else by rw [show j = k by omega]; exact HB.out⟩
        case measure => simp [intOf]; omega
    · obtain rfl : k = 36 := by omega
      have HV := hidI (ixC_none HA.out)
      clear hlt
      go_wp2
      go_ret
      exact ⟨ret_int HV.out.symm, gg⟩
set_option maxHeartbeats 4000000 in
set_option maxRecDepth 100000 in
theorem iCellsOfBall (s n : ByteArray) (w : World) (hm : ML w) (hs : s.size ≤ 1048576) : Calls Tryz.prog 7 #[.string s, .string n] w (RetP2 3 (cbL s.data.toList n) (cbOk s.data.toList n) w) := by
  have gg := Gr.refl w
  have HA := readStatesOfBall_any s n w hm hs
  unfold RetI at HA
  cases hR : rbS s.data.toList n with
  | none =>
    rw [hR] at HA
    have HN := hidI (show cbL s.data.toList n = [] from by unfold cbL; rw [hR])
    have HO := hidI (show cbOk s.data.toList n = false from by unfold cbOk; rw [hR]; rfl)
    have HSO := hidI (fun (w : World) => (Tryz.slices_Sort_int_none none 0 w).mono (R' := fun e w' => e = .returned (.tuple #[]) ∧ w = w') fun e w' ⟨h1, h2⟩ => ⟨h1, h2.symm⟩)
    have HCO := hidI (fun (w : World) => (Tryz.slices_Compact_int_empty none 0 w).mono (R' := fun e w' => e = .returned (.slice none 0 0) ∧ w = w') fun e w' ⟨h1, h2⟩ => ⟨h1, h2.symm⟩)
    clear hR
    go_enter Tryz.func7, Tryz.ntmps7
    go_wp2_with (go_at_call 22; refine HA.mono ?_; rintro e w1 ⟨g1, rfl⟩)
    have gg := gg.trans g1
    go_loopw [8, 19] (fun ov iv wr => ov = .slice none 0 0 ∧ iv = .int .i64 0 ∧ wr = w1) (fun _ _ _ => 0)
    case atStart => exact ⟨rfl, rfl, rfl⟩
    case round =>
      obtain ⟨rfl, rfl, rfl⟩ := hrel
      go_wp2_with (first | (go_at_call 24; refine (HSO.out _).mono ?_; rintro e wSame ⟨rfl, rfl⟩) | (go_at_call 25; refine (HCO.out _).mono ?_; rintro e wSame ⟨rfl, rfl⟩))
      go_ret2
      exact ⟨gg, _, fin_vb HO.out.symm, by rw [HN.out]; exact World.ownsRow_nil _ _ _ _⟩
  | some S =>
    rw [hR] at HA
    obtain ⟨hrc, hnm⟩ := rbS_some hR
    obtain ⟨h0, h300, -⟩ := rcS_knownC hrc
    unfold nameS at hnm
    rw [Bool.and_eq_true, decide_eq_true_eq] at hnm
    have hn1 := one_of n hnm.1
    obtain ⟨b, hb⟩ : ∃ b, hd n = b := ⟨_, rfl⟩
    have HN := hidI (show cbL s.data.toList n = cbS S b from by unfold cbL; rw [hR, ← hb])
    have HO := hidI (show cbOk s.data.toList n = true from by unfold cbOk; rw [hR]; rfl)
    rw [hb] at hn1
    have HN1 := hidI hn1
    clear hR hrc hnm hb hn1
    go_enter Tryz.func7, Tryz.ntmps7
    go_wp2_with (first | (go_at_call 22; refine HA.mono ?_; rintro e w1 ⟨g1, v, nx, rfl, IS⟩; obtain ⟨gB, cap, rfl, hlo, hcap⟩ := own_shape IS.row h0; have gg := gg.trans g1; have z1 := g1.size))
    have own0 : w1.ownsRow w.heap.size 3 1 (.slice none 0 0) (cbT S b 0).length (intsV (cbT S b 0)) := World.ownsRow_nil _ _ _ _
    have row := IS.row
    have HNX := hidI (fun j (hj : j < S.length) => own_one (IS.nxt j hj))
    go_loopw [8, 19] (fun ov iv wr => ∃ k : Nat, k ≤ S.length ∧ iv = .int .i64 k ∧ wr.ownsRow w.heap.size 3 1 ov k (intsV (cbT S b k)) ∧ wr.ownsRow w.heap.size 55 43 (.slice (some ⟨gB, 0, none⟩) S.length cap) S.length (rowsI S nx).flatten ∧ Gr w wr) (fun _ iv _ => S.length - (intOf iv).toNat)
    case atStart => exact ⟨0, Nat.zero_le _, rfl, by have := own0; rwa [cbT_length] at this, row, gg⟩
    case round =>
      clear own0 row gg
      obtain ⟨j, hj, rfl, own, row, gg⟩ := hrel
      have zr := gg.size
      by_cases hlt : j < S.length
      · have cr := wholeR row hlt
        have hgB := (row.lt gB rfl).2
        obtain ⟨st, hst⟩ : ∃ st, st = sta S j := ⟨_, rfl⟩
        obtain ⟨v0, hv0⟩ : ∃ v0, v0 = nx j := ⟨_, rfl⟩
        obtain ⟨X, hX⟩ : ∃ X, X = cbX S b j := ⟨_, rfl⟩
        have HON := hidI (show ∀ u ∈ (cellS st v0).toArray.toList, u.oneCell' = true from cellS_one _ _ (by rw [hv0]; exact HNX.out j hlt))
        have HSZ := hidI (show (cellS st v0).toArray.size = 43 from by rw [List.size_toArray, cellS_length])
        have HSU := hidI (show intsV (cbT S b j) ++ [.int .i64 X] = intsV (cbT S b (j + 1)) from by rw [cbT_succ, ← intsV_append, hX]; rfl)
        have HIX := hidI (fun (W' : World) (A : Nat) (h : Blk W' A (cellS st v0).toArray 55) => show Calls Tryz.prog 23 #[.slice (some ⟨A, 2, none⟩) 36 36, .int .u8 b.toNat] W' (Ret (.int .i64 X) W') from by
          have := index36_any A st.t.c b W' (fun i hi => by
            rw [h.cell (2 + i), List.getElem?_toArray, cellS_hd st v0 (2 + i) (by omega)]
            have e := gv_c st.t.w st.t.h st.t.c i hi
            rw [← Array.getElem?_toList] at e
            exact e)
          rw [hX, hst] at *
          exact this)
        rw [← hst, ← hv0] at cr
        clear hst hv0 hX
        obtain ⟨p5, n5, k5, rfl⟩ := own_slice own
        obtain rfl : n5 = j := own_len own
        go_wp2_with (first | (refine r_idx 48 _ _ (.slice (some ⟨gB, 0, none⟩) S.length cap) (.int .i64 n5) _ rfl rfl (Tryz.stix gB S.length cap n5 hlt _) rfl ?_) | (refine r_ldm 55 _ gB (n5 * 43) (cellS st v0).toArray _ rfl cr Tryz.underlying55 rfl (by rw [HSZ.out]; exact Tryz.stinfoR) rfl ?_) | (refine r_alloc (dst := some 10) 55 _ Tryz.stzeroR rfl ?_; intro w8 B8 N8; have g8 := N8.gr; have b8 : Blk w8 B8 (newL ⟨0, 0, []⟩ 0 0 0 0).toArray 55 := N8.blk; have l8 := N8.lo; have z8 := g8.size; have own := g8.row own; have row := g8.row row; have gg := gg.trans g8; have hB8 : gB ≠ B8 := (by omega); clear N8) | (refine r_store_row 55 55 _ _ B8 rfl (cellS st v0).toArray _ rfl b8 (by intro w; rw [HSZ.out]; exact Tryz.sizeOf55 w) (by rw [HSZ.out, List.size_toArray, newL_length]) HON.out rfl ?_; intro w9 u9 b9; have own := u9.row own (own_ne own b8 (by decide)); have row := u9.row row (fun e => by cases e; exact hB8 rfl); have z9 := u9.size; have gg := u9.gr gg (by omega)))
        have gdr := (Gr.refl w9).drew
        have own := gdr.row own
        have row := gdr.row row
        have b9 := gdr.blk b9
        have gg := gg.trans gdr
        have zd := gdr.size
        refine F_begin (fun w => True) 8 10 #[false, false, false, false, false, false, false, false, false, false] rfl (by kernel_rfl) (by kernel_rfl) ?_
        generalize w9.drew = wd at *
        refine F_free (v := .slice p5 n5 k5) 0 #[true, false, false, false, false, false, false, false, false, false] rfl (by kernel_rfl) (fun _ _ _ h => h) rfl (fun _ => rfl) (trivial) ?_; simp only [Act.put, List.setIfInBounds_toArray, List.set_cons_succ, List.set_cons_zero]
        refine F_free (v := .pointer (some ⟨B8, 0, none⟩)) 1 #[true, true, false, false, false, false, false, false, false, false] rfl (by kernel_rfl) (fun _ _ _ h => h) rfl (fun _ => e_val _ _ (Tryz.stf0 B8 0 _)) (trivial) ?_; simp only [Act.put, List.setIfInBounds_toArray, List.set_cons_succ, List.set_cons_zero]
        refine F_free (v := .pointer (some ⟨B8, 2, none⟩)) 2 #[true, true, true, false, false, false, false, false, false, false] rfl (by kernel_rfl) (fun _ _ _ h => h) rfl (fun _ => e_val _ _ (Tryz.cg2 B8 _)) (trivial) ?_; simp only [Act.put, List.setIfInBounds_toArray, List.set_cons_succ, List.set_cons_zero]
        refine F_free (v := .slice (some ⟨B8, 2, none⟩) 36 36) 3 #[true, true, true, true, false, false, false, false, false, false] rfl (by kernel_rfl) (fun _ _ _ h => h) rfl (fun _ => e_val _ _ (Tryz.gall B8 _)) (trivial) ?_; simp only [Act.put, List.setIfInBounds_toArray, List.set_cons_succ, List.set_cons_zero]
        refine F_free (v := .string n) 4 #[true, true, true, true, true, false, false, false, false, false] rfl (by kernel_rfl) (fun _ _ _ h => h) rfl (fun _ => rfl) (trivial) ?_; simp only [Act.put, List.setIfInBounds_toArray, List.set_cons_succ, List.set_cons_zero]
        refine F_free (v := .int .u8 b.toNat) 5 #[true, true, true, true, true, true, false, false, false, false] rfl (by kernel_rfl) (fun _ _ _ h => h) rfl (fun _ => e_val _ _ (by rw [show (Act.eval _ (.tmp 27)) = Value.string n from rfl, HN1.out]; exact s_idx0 Tryz.underlying9 b _)) (trivial) ?_; simp only [Act.put, List.setIfInBounds_toArray, List.set_cons_succ, List.set_cons_zero]
        refine F_one 6 #[true, true, true, true, true, true, true, false, false, false] rfl (by kernel_rfl) ?_
        refine r_call 23 [.tmp 26, .tmp 28] _ [.slice (some ⟨B8, 2, none⟩) 36 36, .int .u8 b.toNat] (.int .i64 X) (fun w' => Gr wd w') Tryz.call23 rfl rfl (HIX.out wd B8 b9) ?_
        intro wi gi
        have own := gi.row own
        have row := gi.row row
        have gg := gg.trans gi
        have zi := gi.size
        refine ⟨fun _ => trivial, ?_⟩
        simp only [Act.put, List.setIfInBounds_toArray, List.set_cons_succ, List.set_cons_zero]
        refine F_one 7 #[true, true, true, true, true, true, true, true, false, false] rfl (by kernel_rfl) ?_
        refine r_slice1 22 3 (.tmp 29) (.int .i64 X) rfl (Tryz.bsi1 _ _) rfl ?_
        intro we Be Ne
        have ge := Ne.gr
        have own := ge.row own
        have row := ge.row row
        have gg := gg.trans ge
        have ze := ge.size
        refine ⟨fun _ => trivial, ?_⟩
        simp only [Act.put, List.setIfInBounds_toArray, List.set_cons_succ, List.set_cons_zero]
        refine F_one 8 #[true, true, true, true, true, true, true, true, true, false] rfl (by kernel_rfl) ?_
        refine r_append (.tmp 23) (.tmp 30) 22 3 _ 1 8 w.heap.size Tryz.intsI (.slice p5 n5 k5) n5 (intsV (cbT S b n5)) rfl own ⟨Be, 0, none⟩ 1 1 [.int .i64 X] rfl rfl Ne.cell1 (by intro u hu; simp at hu; subst hu; rfl) (by omega) (by decide) (by omega) rfl ?_
        intro vf wf ownf gf
        refine ⟨fun _ => trivial, ?_⟩
        simp only [Act.put, List.setIfInBounds_toArray, List.set_cons_succ, List.set_cons_zero]
        refine F_one 9 #[true, true, true, true, true, true, true, true, true, true] rfl (by kernel_rfl) ?_
        refine r_val vf rfl rfl ?_
        simp only [Act.put, List.setIfInBounds_toArray, List.set_cons_succ, List.set_cons_zero]
        refine ⟨fun _ => trivial, ?_⟩
        refine F_done (by kernel_rfl) ?_
        go_wp2
        rw [HSU.out] at ownf
        go_roundw
        case rel => exact ⟨n5 + 1, by omega, by go_num, ownf, gf.row row (own_ne2 row own (by decide)), gf.gr gg (own_gr own (Nat.le_refl _))⟩
        case measure => simp [intOf]; omega
      · obtain rfl : j = S.length := by omega
        clear hlt
        obtain ⟨p5, n5, k5, rfl⟩ := own_slice own
        obtain rfl : n5 = S.length := own_len own
        obtain ⟨g5, c5, e5, lo5, hc5⟩ := own_shape own h0
        cases e5
        obtain ⟨zs, hzs⟩ : ∃ zs, zs = cbT S b S.length := ⟨_, rfl⟩
        have hzl : zs.length = S.length := by rw [hzs, cbT_length]
        rw [← hzs] at own
        obtain ⟨M, hM⟩ : ∃ M, M = zs.mergeSort fun x y => decide (x ≤ y) := ⟨_, rfl⟩
        have hMl : M.length = S.length := by rw [hM, List.length_mergeSort, hzl]
        have hcells : ∀ (L : List Int) i, i < L.length → (intsV L)[i]? = some (Value.int .i64 L.toArray[i]!) := fun L i hi => by
          rw [getElem!_pos L.toArray i (by simpa using hi), intsV_get L i hi]
          unfold gi
          rw [List.getD_eq_getElem?_getD, List.getElem?_eq_getElem hi]
          simp
        have hsort : M.Pairwise (· ≤ ·) := by
          rw [hM]
          refine List.Pairwise.imp (fun h => of_decide_eq_true h) (List.pairwise_mergeSort (le := fun x y : Int => decide (x ≤ y)) (fun a b c h1 h2 => by
            rw [decide_eq_true_eq] at h1 h2 ⊢
            omega) (fun a b => by
            rw [Bool.or_eq_true, decide_eq_true_eq, decide_eq_true_eq]
            omega) zs)
        have hcomp : Lib.compact M = cbS S b := by
          obtain ⟨q1, q2⟩ := compact_sorted M hsort
          refine strict_eq q1 (cbS_lt S b) fun x => ?_
          rw [q2, hM, List.mem_mergeSort, hzs, mem_cbT, mem_cbS]
        have hcl : (cbS S b).length ≤ S.length := by rw [← hcomp, ← hMl]; exact Lib.compact_length_le M
        have HS := hidI (show Calls Tryz.prog 24 #[.slice (some ⟨g5, 0, none⟩) S.length k5] wr fun e w' => e = .returned (.tuple #[]) ∧ w'.ownsRow w.heap.size 3 1 (.slice (some ⟨g5, 0, none⟩) S.length k5) S.length (intsV M) ∧ Grb (some g5) wr w' from by
          have hh : Holds (Value.int .i64) wr g5 0 zs.toArray := own_holds (Value.int .i64) own zs.toArray (by simp [hzl]) fun i hi => hcells zs i (by omega)
          have h := Tryz.slices_Sort_int g5 0 k5 zs wr hh (own.lt g5 rfl).2 (by omega)
          rw [hzl, ← hM] at h
          refine h.mono fun e w' ⟨h1, n, os, h2⟩ => ?_
          subst h2
          obtain ⟨a1, a2⟩ := sort_own (Value.int .i64) own M.toArray (by simp [hMl]) n os
          exact ⟨h1, a1, a2⟩)
        have HC := hidI (fun (w' : World) (ho : w'.ownsRow w.heap.size 3 1 (.slice (some ⟨g5, 0, none⟩) S.length k5) S.length (intsV M)) => show Calls Tryz.prog 25 #[.slice (some ⟨g5, 0, none⟩) S.length k5] w' fun e w2 => e = .returned (.slice (some ⟨g5, 0, none⟩) (cbS S b).length k5) ∧ w2.ownsRow w.heap.size 3 1 (.slice (some ⟨g5, 0, none⟩) (cbS S b).length k5) (cbS S b).length (intsV (cbS S b)) ∧ Grb (some g5) w' w2 from by
          have hh : Holds (Value.int .i64) w' g5 0 M.toArray := own_holds (Value.int .i64) ho M.toArray (by simp [hMl]) fun i hi => hcells M i (by omega)
          have h := Tryz.slices_Compact_int g5 0 k5 M w' hh (by omega) (by omega)
          rw [hMl, hcomp] at h
          refine h.mono fun e w2 ⟨h1, q, h2⟩ => ?_
          subst h2
          obtain ⟨a1, a2⟩ := sort_own (Value.int .i64) ho (cbS S b ++ List.replicate (S.length - (cbS S b).length) 0).toArray (by simp; omega) q #[]
          have e1 : sortWorld (Value.int .i64) w' g5 0 q (cbS S b ++ List.replicate (S.length - (cbS S b).length) 0).toArray #[] = putRow (Value.int .i64) (Sort.ahead w' q) g5 0 (cbS S b ++ List.replicate (S.length - (cbS S b).length) 0).toArray := by unfold sortWorld; rw [grow_empty]
          rw [e1] at a1 a2
          have a3 := own_cut a1 hcl
          refine ⟨h1, ?_, a2⟩
          have e2 : (List.map (Value.int .i64) (cbS S b ++ List.replicate (S.length - (cbS S b).length) 0).toArray.toList).take (cbS S b).length = intsV (cbS S b) := by
            simp only [List.map_append]
            rw [List.take_left' (by simp)]
            rfl
          rw [e2] at a3
          exact a3)
        clear hsort hcomp hcells hM hzs
        go_wp2_with (first | (go_at_call 24; refine HS.out.mono ?_; rintro e w13 ⟨rfl, own13, g13⟩) | (go_at_call 25; refine (HC.out _ own13).mono ?_; rintro e w14 ⟨rfl, own14, g14⟩))
        have gg := g14.gr (g13.gr gg (fun k e => by cases e; exact lo5)) (fun k e => by cases e; exact lo5)
        go_ret2
        exact ⟨gg, _, fin_vb HO.out.symm, by rw [HN.out]; exact own14⟩
set_option maxHeartbeats 4000000 in
set_option maxRecDepth 100000 in
theorem lawCellsOfBall (s n : ByteArray) (w : World) (hm : ML w) : Calls Tryz.prog 3 #[.string s, .string n] w (Ret (.bool true) w) := by
  have gg := Gr.refl w
  by_cases hs : 1048576 < s.size
  · go_enter Tryz.func3, Tryz.ntmps3
    go_wp2
    go_ret
    exact ⟨rfl, gg⟩
  · have hs' : s.size ≤ 1048576 := by omega
    clear hs
    by_cases hc : 1048576 < n.size
    · go_enter Tryz.func3, Tryz.ntmps3
      go_wp2
      go_ret
      exact ⟨rfl, gg⟩
    · have hc' : n.size ≤ 1048576 := by omega
      clear hc
      have hle := cbL_le s.data.toList n
      obtain ⟨L, hL⟩ : ∃ L, L = cbL s.data.toList n := ⟨_, rfl⟩
      obtain ⟨ok, hok⟩ : ∃ ok, ok = cbOk s.data.toList n := ⟨_, rfl⟩
      have HL := hidI hL
      have HOK := hidI hok
      rw [← hL] at hle
      clear hL hok
      go_enter Tryz.func3, Tryz.ntmps3
      go_wp2_with fail
      refine (sCellsOfBall s n _ hs').mono ?_
      rintro e w1 ⟨g1, v1, rfl, own1⟩
      rw [← HL.out] at own1
      have gg := gg.trans g1
      rw [← HOK.out]
      go_wp2_with fail
      refine (iCellsOfBall s n _ (gg.ml hm) hs').mono ?_
      rintro e w2 ⟨g2, v2, rfl, own2⟩
      rw [← HL.out] at own2
      rw [← HOK.out]
      have gg := gg.trans g2
      have HAP := hidI (own_apart' own1 own2 (Nat.le_refl _))
      have own1 := g2.row own1
      go_wp2_with fail
      refine (eqIntS_any v2 v1 L L _ _ _ own2 own1 (by omega)).mono ?_
      rintro e w3 ⟨rfl, g3⟩
      rw [decide_eq_true rfl]
      have own1 := g3.row own1
      have own2 := g3.row own2
      have gg := gg.trans g3
      go_wp2_with fail
      refine (markIntS_any v2 L 1 _ _ own2 (by omega) (by decide)).mono ?_
      rintro e w4 ⟨rfl, own2', g4, z4⟩
      have own1 := g4.row own1 HAP.out
      have gg := g4.gr gg (own_gr own2 (by have := g1.size; omega))
      obtain ⟨m, hn⟩ : ∃ m : Nat, m = 1 + L.length := ⟨_, rfl⟩
      rw [← hn]
      have HN := hidI hn
      have hn2 : m ≤ 42 := by omega
      clear hn
      have own2 := own2'
      clear own2'
      go_wp2_with fail
      refine (heldIntS_any v2 L.length 1 _ _ own2 (by omega) (by decide)).mono ?_
      rintro e w5 ⟨rfl, g5⟩
      rw [← HN.out]
      have own1 := g5.row own1
      have own2 := g5.row own2
      have gg := gg.trans g5
      go_wp2_with fail
      refine (iCellsOfBall s n _ (gg.ml hm) hs').mono ?_
      rintro e w6 ⟨g6, v6, rfl, own6⟩
      rw [← HL.out] at own6
      rw [← HOK.out]
      have gg := gg.trans g6
      have own1 := g6.row own1
      have own2 := g6.row own2
      go_wp2_with fail
      refine (eqIntS_any v6 v1 L L _ _ _ own6 own1 (by omega)).mono ?_
      rintro e w7 ⟨rfl, g7⟩
      rw [decide_eq_true rfl]
      have own2 := g7.row own2
      have gg := gg.trans g7
      go_wp2_with fail
      refine (heldIntS_any v2 L.length 1 _ _ own2 (by omega) (by decide)).mono ?_
      rintro e w8 ⟨rfl, g8⟩
      rw [← HN.out]
      have gg := gg.trans g8
      go_wp2
      go_ret
      exact ⟨rfl, gg⟩
end Go.Proofs.YtoadoeahbekkoaaGreatDoor
