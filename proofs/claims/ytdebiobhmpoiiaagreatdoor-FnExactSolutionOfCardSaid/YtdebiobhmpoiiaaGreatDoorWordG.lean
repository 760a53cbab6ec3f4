/-
  The first one of the shortest solutions of a puzzle: the program, the model, and the law.
-/
import Derived.Test.YtdebiobhmpoiiaaGreatDoorWordK
import Derived.Test.YtdebiobhmpoiiaaGreatDoorBPv
namespace Go.Proofs.YtdebiobhmpoiiaaGreatDoor
open Go.RowKit
def slnB (l : List UInt8) (n : ByteArray) (z : Int) : ByteArray := match slvS l n z with
  | none => ByteArray.empty
  | some (S, _, _, j) => wrdB S j
theorem slvG_parts {g : Grid} {b : UInt8} {k j : Nat} {S : List (Sta Grid)} (h : slvG g b k = some (S, j)) : reachS tiltG g = some S ∧ fsS S b k = some j ∧ (sta S j).far ≤ 40 := by
  unfold slvG at h
  cases hR : reachS tiltG g with
  | none => rw [hR] at h; cases h
  | some U =>
    rw [hR] at h
    have h' : (match fsS U b k with | none => none | some i => if (sta U i).far ≤ 40 then some (U, i) else none) = some (S, j) := h
    cases hf : fsS U b k with
    | none => rw [hf] at h'; cases h'
    | some i =>
      rw [hf] at h'
      have h2 : (if (sta U i).far ≤ 40 then some (U, i) else none) = some (S, j) := h'
      by_cases h40 : (sta U i).far ≤ 40
      · rw [if_pos h40] at h2
        have e := Option.some.inj h2
        have e1 : U = S := congrArg Prod.fst e
        have e2 : i = j := congrArg Prod.snd e
        rw [← e1, ← e2]
        exact ⟨rfl, hf, h40⟩
      · rw [if_neg h40] at h2
        cases h2
theorem slvS_parts {l : List UInt8} {n : ByteArray} {z : Int} {S : List (Sta Grid)} {b : UInt8} {k j : Nat} (h : slvS l n z = some (S, b, k, j)) : ∃ g, pzS l n z = some (g, b, k) ∧ slvG g b k = some (S, j) := by
  unfold slvS at h
  cases hp : pzS l n z with
  | none => rw [hp] at h; cases h
  | some x =>
    obtain ⟨g, b', k'⟩ := x
    rw [hp] at h
    have h' : (slvG g b' k').map (fun p => (p.1, b', k', p.2)) = some (S, b, k, j) := h
    cases hs : slvG g b' k' with
    | none => rw [hs] at h'; cases h'
    | some y =>
      rw [hs] at h'
      have e : (y.1, b', k', y.2) = (S, b, k, j) := Option.some.inj h'
      have e1 : y.1 = S := congrArg Prod.fst e
      have e2 : b' = b := congrArg (fun p => p.2.1) e
      have e3 : k' = k := congrArg (fun p => p.2.2.1) e
      have e4 : y.2 = j := congrArg (fun p => p.2.2.2) e
      rw [← e1, ← e2, ← e3, ← e4]
      exact ⟨g, rfl, hs⟩
theorem slv_parts {l : List UInt8} {n : ByteArray} {z : Int} {S : List (Sta Grid)} {b : UInt8} {k j : Nat} (h : slvS l n z = some (S, b, k, j)) :
    rcS l = some S ∧ j < S.length ∧ (sta S j).far ≤ 40 ∧ wcB l n z = wrdB S j ∧ wcOk l n z = true ∧ fsS S b k = some j := by
  obtain ⟨g, hp, hs⟩ := slvS_parts h
  have hz := pz_some hp
  obtain ⟨hR, hf, h40⟩ := slvG_parts hs
  have hR' : rcS l = some S := (slvG_rc hz.pr).trans hR
  have hj := (fsS_some hf).1
  have hrb : rbS l n = some S := by
    unfold rbS
    rw [hz.pr]
    show (if nameS n && decide (0 ≤ ixC g.c (hd n) g.c.length) then rcS l else none) = some S
    rw [hz.nm, hz.hd, decide_eq_true hz.ix]
    exact hR'
  have hone := rc_one hz.pr hz.isN hz.ix hR'
  have hin : inB z (sta S 0).t.c.length = true := by
    rw [hone.len 0 (by omega), hz.ze]
    exact inB_true.2 ⟨by omega, by have := hz.kl; omega⟩
  have hw := wc_in hrb hin
  have hzk : z.toNat = k := by rw [hz.ze]; rfl
  rw [hz.hd, hzk, hf] at hw
  obtain ⟨e1, e2⟩ := wc_some hw
  exact ⟨hR', hj, h40, by rw [e1]; exact if_pos h40, by rw [e2]; exact decide_eq_true h40, hf⟩
set_option maxHeartbeats 2000000 in
set_option maxRecDepth 100000 in
theorem iSolutionOf (s n : ByteArray) (z : Int) (w : World) (hm : ML w) (hs : s.size ≤ 1048576) : Calls Tryz.prog 10 #[.agg (pv s n z)] w (Ret (.tuple #[.string (slnB s.data.toList n z), .bool (lnOk s.data.toList n z)]) w) := by
  have gg := Gr.refl w
  have HA := fun w (hm : ML w) => readSolving_any s n z w hm hs
  unfold RetSv at HA
  cases hR : slvS s.data.toList n z with
  | none =>
    rw [hR] at HA
    have HA := hidI HA
    have HN := hidI (show slnB s.data.toList n z = ByteArray.empty from by unfold slnB; rw [hR])
    have HO := hidI (show lnOk s.data.toList n z = false from by unfold lnOk; rw [hR]; rfl)
    clear hR
    go_enter Tryz.func10, Tryz.ntmps10
    go_wp2_with (first | (refine r_box 27 _ (pv (s) (n) (z)) rfl rfl ?_; intro w1 B1 N1; have g1 := N1.gr; have b1 : Blk w1 B1 (pv (s) (n) (z)) 27 := N1.blk; have l1 := N1.lo; have t1 := N1.hi; have z1 := g1.size; have gg := gg.trans g1; clear N1; obtain ⟨b1_0, b1_1, b1_2⟩ := pcells b1) | (refine r_load_row 27 _ _ rfl _ _ _ b1 Tryz.underlying27 rfl Tryz.ipinfo rfl ?_) | (go_at_call 24; refine (HA.out _ (gg.ml hm)).mono ?_; rintro e w2 ⟨g2, rfl⟩; have gg := gg.trans g2; have z2 := gg.size) | (refine r_alloc (dst := some 4) 49 _ Tryz.slvzero rfl ?_; intro w3 B3 N3; have g3 := N3.gr; have b3 : Blk w3 B3 (slV (.slice none 0 0) (.slice none 0 0)) 49 := N3.blk; have l3 := N3.lo; have t3 := N3.hi; have z3 := g3.size; have gg := gg.trans g3; clear N3) | (refine r_store_row 49 49 _ _ _ rfl (slV (.slice none 0 0) (.slice none 0 0)) _ rfl b3 Tryz.slvsize rfl (slV_one rfl rfl) rfl ?_; intro w6 u6 b3'; have gg := u6.gr gg (by omega)))
    go_ret2
    exact ⟨fin_sbC HN.out.symm HO.out.symm, gg⟩
  | some x =>
    obtain ⟨S, b, k, j⟩ := x
    rw [hR] at HA
    obtain ⟨hrc, hj, h40, -, -, hfs⟩ := slv_parts hR
    obtain ⟨h0, h300, -⟩ := rcS_knownC hrc
    have hW := rcS_ways hrc
    obtain ⟨r, hr⟩ : ∃ r, sdTo S b k (sta S j).far S.length = j :: r := sdTo_head hfs
    have HA : ∀ w, ML w → Calls Tryz.prog 24 #[.agg (pv s n z)] w fun e w' => Gr w w' ∧ ∃ v u nx, e = .returned (.tuple #[.agg (slV v u), .bool true]) ∧ ISt w.heap.size w' v S nx ∧ w'.ownsRow w.heap.size 3 1 u (sdTo S b k (sta S j).far S.length).length (natsV (sdTo S b k (sta S j).far S.length)) := HA
    have HN := hidI (show slnB s.data.toList n z = wrdB S j from by unfold slnB; rw [hR])
    have HO := hidI (show lnOk s.data.toList n z = true from by unfold lnOk; rw [hR]; rfl)
    have HCH := hidI (fun i (hi : i ≤ (sta S j).far) => (chn_far hW hj i hi).1)
    have HWD := hidI (show wdTo S (some j) = wrdB S j from if_pos h40)
    have HWO := hidI (show wdOk S (some j) = true from decide_eq_true h40)
    have HR2 := hidI hr
    obtain ⟨L, hL⟩ : ∃ L, L = sdTo S b k (sta S j).far S.length := ⟨_, rfl⟩
    rw [hL.symm] at HA
    have HR2 := hidI (hL.trans HR2.out)
    have HA := hidI HA
    have hl0 : 0 < L.length := by rw [HR2.out]; simp
    have HL0 := hidI (show L.getD 0 0 = j from by rw [HR2.out]; rfl)
    clear hR hrc hr h40 hW hL hfs
    go_enter Tryz.func10, Tryz.ntmps10
    go_wp2_with (first | (refine r_box 27 _ (pv (s) (n) (z)) rfl rfl ?_; intro w1 B1 N1; have g1 := N1.gr; have b1 : Blk w1 B1 (pv (s) (n) (z)) 27 := N1.blk; have l1 := N1.lo; have t1 := N1.hi; have z1 := g1.size; have gg := gg.trans g1; clear N1; obtain ⟨b1_0, b1_1, b1_2⟩ := pcells b1) | (refine r_load_row 27 _ _ rfl _ _ _ b1 Tryz.underlying27 rfl Tryz.ipinfo rfl ?_) | (have zp := gg.size; go_at_call 24; refine (HA.out _ (gg.ml hm)).mono ?_; rintro e w2 ⟨g2, v, u, nx, rfl, IS, own⟩; have ov := own_one IS.row; have ou := own_one own; have gg := gg.trans g2; have z2 := gg.size; have hrow := own_up IS.row zp; have own := own_up own zp) | ((refine r_alloc (dst := some 4) 49 _ Tryz.slvzero rfl ?_; intro w3 B3 N3; have g3 := N3.gr; have b3 : Blk w3 B3 (slV (.slice none 0 0) (.slice none 0 0)) 49 := N3.blk; have l3 := N3.lo; have t3 := N3.hi; have z3 := g3.size; have gg := gg.trans g3; clear N3); have hrow := g3.row hrow; have own := g3.row own) | (refine r_store_row 49 49 _ _ _ rfl (slV v u) _ rfl b3 Tryz.slvsize rfl (slV_one ov ou) rfl ?_; intro w6 u6 b3'; have gg := u6.gr gg (by omega); have hrow := u6.row hrow (own_ne hrow b3 (by decide)); have own := u6.row own (own_ne own b3 (by decide))))
    obtain ⟨gB, cap, rfl, hlo, hcap⟩ := own_shape hrow h0
    obtain ⟨gL, capL, rfl, hloL, hcapL⟩ := own_shape own hl0
    obtain ⟨c0, c1⟩ := slcells b3'
    have cj := own_nat own 0 hl0 rfl
    rw [HL0.out] at cj
    have HWT := hidI (fun (w' : World) (h : w'.ownsRow w.heap.size 101 43 (.slice (some ⟨gB, 0, none⟩) S.length cap) S.length (rowsI S nx).flatten) => show Calls Tryz.prog 25 #[.slice (some ⟨gB, 0, none⟩) S.length cap, .int .i64 j] w' (Ret (.tuple #[.string (wrdB S j), .bool true]) w') from by
      have := wordTo_any S nx w.heap.size gB cap j w' h hj HCH.out
      rwa [HWD.out, HWO.out] at this)
    refine q_whole (by kernel_rfl) (by kernel_rfl) ?_
    refine q_take (.pointer (some ⟨B3, 0, none⟩)) rfl (fun w' hw' => e_val _ _ (Tryz.slvf0 _ _)) ?_; simp only [Act.put, List.setIfInBounds_toArray, List.set_cons_succ, List.set_cons_zero]
    refine q_take (.slice (some ⟨gB, 0, Option.none⟩) S.length cap) rfl (fun w' hw' => e_load 47 (.tmp 13) _ _ rfl (Tryz.isAgg47 _) (hw'.cell c0)) ?_; simp only [Act.put, List.setIfInBounds_toArray, List.set_cons_succ, List.set_cons_zero]
    refine q_take (.pointer (some ⟨B3, 1, none⟩)) rfl (fun w' hw' => e_val _ _ (Tryz.slvf1 _ _)) ?_; simp only [Act.put, List.setIfInBounds_toArray, List.set_cons_succ, List.set_cons_zero]
    refine q_take (.slice (some ⟨gL, 0, Option.none⟩) L.length capL) rfl (fun w' hw' => e_load 35 (.tmp 15) _ _ rfl (Tryz.isAgg35 _) (hw'.cell c1)) ?_; simp only [Act.put, List.setIfInBounds_toArray, List.set_cons_succ, List.set_cons_zero]
    refine q_take (.pointer (some ⟨gL, 0, Option.none⟩)) rfl (fun w' hw' => e_idxP _ _ (.slice (some ⟨gL, 0, Option.none⟩) L.length capL) (.int .i64 (0 : Nat)) _ rfl rfl (Tryz.nsixP gL L.length capL 0 hl0 _)) ?_
    simp only [Act.put, List.setIfInBounds_toArray, List.set_cons_succ, List.set_cons_zero]
    refine q_take (.int .i64 j) rfl (fun w' hw' => e_load 3 (.tmp 17) _ _ rfl (Tryz.isAgg3 _) (hw'.cell cj)) ?_; simp only [Act.put, List.setIfInBounds_toArray, List.set_cons_succ, List.set_cons_zero]
    refine q_call 25 [.tmp 14, .tmp 18] _ [.slice (some ⟨gB, 0, Option.none⟩) S.length cap, .int .i64 j] (.tuple #[.string (wrdB S j), .bool true]) Tryz.call25 rfl rfl (fun w' hw' => ((HWT.out w' (hw'.row hrow)).mono fun e w'' h => ⟨h.1, hw'.trans h.2⟩)) ?_; simp only [Act.put, List.setIfInBounds_toArray, List.set_cons_succ, List.set_cons_zero]
    refine q_take (.string (wrdB S j)) rfl (fun w' hw' => by unfold execOp; simp [go_sem, Act.eval]) ?_
    simp only [Act.put, List.setIfInBounds_toArray, List.set_cons_succ, List.set_cons_zero]
    refine q_take (.bool true) rfl (fun w' hw' => by unfold execOp; simp [go_sem, Act.eval]) ?_
    simp only [Act.put, List.setIfInBounds_toArray, List.set_cons_succ, List.set_cons_zero]
    refine q_assign _ (.string (wrdB S j)) rfl rfl ?_; simp only [Act.put, List.setIfInBounds_toArray, List.set_cons_succ, List.set_cons_zero]
    refine q_assign _ (.bool true) rfl rfl ?_; simp only [Act.put, List.setIfInBounds_toArray, List.set_cons_succ, List.set_cons_zero]
    refine wpQuiet_nil ?_; intro w9 g9; have z9 := g9.size; have gg := gg.trans g9
    go_wp2
    go_ret2
    exact ⟨fin_sbC HN.out.symm HO.out.symm, gg⟩
set_option maxHeartbeats 1000000 in
set_option maxRecDepth 100000 in
theorem sSolutionOf (s n : ByteArray) (z : Int) (w : World) (hs : s.size ≤ 1048576) : Calls Tryz.prog 8 #[.agg (pv s n z)] w (Ret (.tuple #[.string (slnB s.data.toList n z), .bool (lnOk s.data.toList n z)]) w) := by
  have gg := Gr.refl w
  have HA := fun w => puStates_any s n z w hs
  unfold RetPu at HA
  cases hR : slvS s.data.toList n z with
  | none =>
    rw [hR] at HA
    have HA := hidI HA
    have HN := hidI (show slnB s.data.toList n z = ByteArray.empty from by unfold slnB; rw [hR])
    have HO := hidI (show lnOk s.data.toList n z = false from by unfold lnOk; rw [hR]; rfl)
    clear hR
    go_enter Tryz.func8, Tryz.ntmps8
    go_wp2_with (first | (refine r_box 27 _ (pv (s) (n) (z)) rfl rfl ?_; intro w1 B1 N1; have g1 := N1.gr; have b1 : Blk w1 B1 (pv (s) (n) (z)) 27 := N1.blk; have l1 := N1.lo; have t1 := N1.hi; have z1 := g1.size; have gg := gg.trans g1; clear N1; obtain ⟨b1_0, b1_1, b1_2⟩ := pcells b1) | (refine r_load_row 27 _ _ rfl _ _ _ b1 Tryz.underlying27 rfl Tryz.ipinfo rfl ?_) | (go_at_call 22; refine (HA.out _).mono ?_; rintro e w2 ⟨g2, v, f, rfl⟩; have gg := gg.trans g2))
    go_ret2
    exact ⟨fin_sbC HN.out.symm HO.out.symm, gg⟩
  | some x =>
    obtain ⟨S, b, k, j⟩ := x
    rw [hR] at HA
    have HA := hidI HA
    obtain ⟨-, -, -, e1, e2, -⟩ := slv_parts hR
    have HN := hidI (show slnB s.data.toList n z = wrdB S j from by unfold slnB; rw [hR])
    have HO := hidI (show lnOk s.data.toList n z = true from by unfold lnOk; rw [hR]; rfl)
    have HWC := hidI (fun w' => show Calls Tryz.prog 23 #[.string s, .string n, .int .i64 z] w' (Ret (.tuple #[.string (wrdB S j), .bool true]) w') from by
      have := sWordToCell s n z w' hs
      rwa [e1, e2] at this)
    clear hR e1 e2
    go_enter Tryz.func8, Tryz.ntmps8
    go_wp2_with (first | (refine r_box 27 _ (pv (s) (n) (z)) rfl rfl ?_; intro w1 B1 N1; have g1 := N1.gr; have b1 : Blk w1 B1 (pv (s) (n) (z)) 27 := N1.blk; have l1 := N1.lo; have t1 := N1.hi; have z1 := g1.size; have gg := gg.trans g1; clear N1; obtain ⟨b1_0, b1_1, b1_2⟩ := pcells b1) | (refine r_load_row 27 _ _ rfl _ _ _ b1 Tryz.underlying27 rfl Tryz.ipinfo rfl ?_) | (go_at_call 22; refine (HA.out _).mono ?_; rintro e w2 ⟨g2, v, bk, sl, nx, rfl, M, X⟩; have b1 := g2.blk b1; have gg := gg.trans g2; obtain ⟨b1_0, b1_1, b1_2⟩ := pcells b1) | (refine r_fld 27 _ 0 (.pointer (some ⟨B1, 0, none⟩)) (.pointer (some ⟨B1, 0, none⟩)) rfl (Tryz.ipf0 _ _) rfl ?_) | (refine r_fld 27 _ 1 (.pointer (some ⟨B1, 0, none⟩)) (.pointer (some ⟨B1, 1, none⟩)) rfl (Tryz.ipf1 _ _) rfl ?_) | (refine r_fld 27 _ 2 (.pointer (some ⟨B1, 0, none⟩)) (.pointer (some ⟨B1, 2, none⟩)) rfl (Tryz.ipf2 _ _) rfl ?_) | (go_at_call 23; refine (HWC.out _).mono ?_; rintro e w3 ⟨rfl, g3⟩; have z3 := g3.size; have gg := gg.trans g3))
    go_ret2
    exact ⟨fin_sbC HN.out.symm HO.out.symm, gg⟩
set_option maxHeartbeats 1000000 in
theorem lawSolutionOf (s n : ByteArray) (z : Int) (w : World) (hbs : s.size ≤ maxLen) (hbn : n.size ≤ maxLen) (hm : ML w) : Calls Tryz.prog 3 #[.agg (pv s n z)] w (Ret (.bool true) w) := by
  have gg := Gr.refl w
  by_cases hl : 1048576 < s.size + n.size
  · have HZ := hidI (show szZ s.size n.size = -1 from if_pos hl)
    go_enter Tryz.func3, Tryz.ntmps3
    go_wp2_with (first | (refine r_box 23 _ (pv (s) (n) (z)) rfl rfl ?_; intro w1 B1 N1; have g1 := N1.gr; have b1 : Blk w1 B1 (pv (s) (n) (z)) 23 := N1.blk; have l1 := N1.lo; have t1 := N1.hi; have z1 := g1.size; have gg := gg.trans g1; clear N1; obtain ⟨b1_0, b1_1, b1_2⟩ := pcells b1) | (refine r_load_row 23 _ _ rfl _ _ _ b1 Tryz.underlying23 rfl Tryz.lpinfo rfl ?_) | (go_at_call 7; refine (szPuzzle_any s n z _ hbs hbn).mono ?_; rintro e w2 ⟨rfl, g2⟩; rw [HZ.out]; have z2 := g2.size; have gg := gg.trans g2))
    go_ret
    exact ⟨rfl, gg⟩
  · have hs : s.size ≤ 1048576 := by omega
    have HZ := hidI (show szZ s.size n.size = 1048576 - (s.size : Int) - n.size from if_neg hl)
    have hz0 : ¬ (1048576 - (s.size : Int) - n.size < 0) := by omega
    obtain ⟨ok, hok⟩ : ∃ ok, ok = lnOk s.data.toList n z := ⟨_, rfl⟩
    obtain ⟨t, ht⟩ : ∃ t, t = slnB s.data.toList n z := ⟨_, rfl⟩
    have HOK := hidI hok
    have HT := hidI ht
    clear hl hok ht
    go_enter Tryz.func3, Tryz.ntmps3
    go_wp2_with (first | (refine r_box 23 _ (pv (s) (n) (z)) rfl rfl ?_; intro w1 B1 N1; have g1 := N1.gr; have b1 : Blk w1 B1 (pv (s) (n) (z)) 23 := N1.blk; have l1 := N1.lo; have t1 := N1.hi; have z1 := g1.size; have gg := gg.trans g1; clear N1; obtain ⟨b1_0, b1_1, b1_2⟩ := pcells b1) | (refine r_load_row 23 _ _ rfl _ _ _ b1 Tryz.underlying23 rfl Tryz.lpinfo rfl ?_) | (go_at_call 7; refine (szPuzzle_any s n z _ hbs hbn).mono ?_; rintro e w2 ⟨rfl, g2⟩; rw [HZ.out]; have z2 := g2.size; have b1 := g2.blk b1; have gg := gg.trans g2) | (go_at_call 9; refine (toPuzzle_any s n z _).mono ?_; rintro e w3 ⟨rfl, g3⟩; have gg := gg.trans g3; have b1 := g3.blk b1; have z3 := g3.size) | (go_at_call 8; refine (sSolutionOf s n z _ hs).mono ?_; rintro e w4 ⟨rfl, g4⟩; rw [← HOK.out, ← HT.out]; have z4 := g4.size; have b1 := g4.blk b1; have gg := gg.trans g4) | (go_at_call 10; refine (iSolutionOf s n z _ (gg.ml hm) hs).mono ?_; rintro e w5 ⟨rfl, g5⟩; rw [← HOK.out, ← HT.out]; have z5 := g5.size; have b1 := g5.blk b1; have gg := gg.trans g5))
    go_ret
    exact ⟨rfl, gg⟩
end Go.Proofs.YtdebiobhmpoiiaaGreatDoor
