/-
  The program's GateTable.
-/
import Derived.Test.YtcjmikafomlbiaaGreatDoorGateB
namespace Go.Proofs.YtcjmikafomlbiaaGreatDoor
open Go.RowKit
theorem Tryz.tgelem : Tryz.prog.elem 49 = 3 := by kernel_rfl
theorem Tryz.tgarr : Tryz.prog.arrayLen 49 = 8 := by kernel_rfl
theorem Tryz.tcut (B n : Nat) (h : n ≤ 8) (w : World) : (Instr.sliceAt 49 (.pointer (some ⟨B, 1, none⟩)) none (some (.int .i64 n)) none).run Tryz.prog w = .ok (.slice (some ⟨B, 1, none⟩) n 8) w := by
  rw [run_sliceAt_array_h w 49 ⟨B, 1, none⟩ (by rw [Tryz.tgarr, Tryz.tgelem]; exact Tryz.underlying49) .i64 n (by omega) (by rw [Tryz.tgarr]; omega), Tryz.tgelem, Tryz.tgarr]
  have hs : (sizeOf 3).run Tryz.prog w = .ok 1 w := by kernel_rfl
  simp [hs, Result.andThen, slicedAt, add_zero']
theorem Tryz.tbf0 (B : Nat) (w : World) : (Instr.fieldAt 51 (.pointer (some ⟨B, 0, none⟩)) 0).run Tryz.prog w = .ok (.pointer (some ⟨B, 0, none⟩)) w := by kernel_rfl
theorem cloneT_any (B n : Nat) (c : Int) (S : Nat → Int) (T : TypeId) (w : World) (hb : Blk w B (tbC c S).toArray T) (hn : n ≤ 8) :
    Calls Tryz.prog 23 #[.slice (some ⟨B, 1, none⟩) n 8] w fun e w' => Gr w w' ∧ ∃ v, e = .returned v ∧ w'.ownsRow w.heap.size 3 1 v n (intsV ((List.range n).map S)) := by
  refine (Tryz.slices_Clone_int B 1 n 8 ((List.range n).map S) w (by simp) (by omega) (fun j hj => ?_)).mono ?_
  · have hj : j < n := by simpa using hj
    refine (hb.cell (1 + j)).trans ?_
    rw [List.getElem?_toArray, tbC_get c S (by omega), List.getD_eq_getElem?_getD, List.getElem?_map, List.getElem?_range hj]
    rfl
  rintro e w' ⟨v, rfl, own, -, g⟩
  rw [List.take_of_length_le (by simp)] at own
  exact ⟨g, v, rfl, own⟩
theorem gt_eq {g : Grid} {I O : List Int} {u : ByteArray} (hc : Cel g) (hu : wordB u = true) (hI : I.length ≤ 3) (c : Nat) :
    (List.range c).map (tdR (fun j => ((otN (dnF (wds u) (mcF g I c) c j).c O O.length : Nat) : Int)) c) = tabL (gtF g I O u) c := by
  unfold tabL
  apply List.map_congr_left
  intro j hj
  have hj := List.mem_range.1 hj
  unfold tdR
  rw [if_pos hj]
  unfold dnF mcF gtF
  dsimp only
  rw [if_pos hj, if_pos hj, ← mt_wi g (cellOf I) j hI, runB_eq (mt_cel hc (cellOf I) I.length j I.length) _ (wds_lt hu)]
set_option maxHeartbeats 2000000 in
set_option maxRecDepth 100000 in
theorem iGateTable (s u : ByteArray) (I O : List Int) (bI bO : Nat) (slI slO : Value) (w : World) (hm : ML w) (hs : s.size ≤ 1048576) (hI : w.ownsRow bI 3 1 slI I.length (intsV I)) (hO : w.ownsRow bO 3 1 slO O.length (intsV O))
    (wI : ∀ k, k < I.length → (Lit.int .i64 (gi I k)).wf = true) (wO : ∀ k, k < O.length → (Lit.int .i64 (gi O k)).wf = true) :
    Calls Tryz.prog 8 #[.string s, slI, slO, .string u] w (RetInts 3 (gtL s.data.toList I O u) (gtOk s.data.toList I O u) w) := by
  have gg := Gr.refl w
  have oneI := own_one hI
  have oneO := own_one hO
  cases hin : gtIn s.data.toList I O
  · have HN := hidI (show Calls Tryz.prog 18 #[.string s, slI, slO] w (Ret (.tuple #[.agg (mcC 0 (fun _ => g0) (.slice none 0 0)).toArray, .bool false]) w) from readMachine_no s I O bI bO slI slO w hm hs hin hI hO wI wO)
    have hok : gtOk s.data.toList I O u = false := by unfold gtOk; unfold gtIn at hin; rw [hin]; rfl
    have HC := hidI hok
    have HV := hidI (gtL_no hok)
    clear hok hin wI wO
    go_enter Tryz.func8, Tryz.ntmps8
    go_wp2_with (first | (go_at_call 18; refine (HN.out).mono ?_; rintro e w1 ⟨rfl, g1⟩; have gg := gg.trans g1; have z1 := g1.size) | (refine r_alloc (dst := some 10) 45 _ Tryz.mzero rfl ?_; intro w2 B2 N2; have g2 := N2.gr; have b2 : Blk w2 B2 ((mcC 0 (fun _ => g0) (.slice none 0 0)).toArray) 45 := N2.blk; have l2 := N2.lo; have t2 := N2.hi; have z2 := g2.size; have gg := gg.trans g2; clear N2) | (refine r_store_row 45 45 _ _ B2 rfl (mcC 0 (fun _ => g0) (.slice none 0 0)).toArray _ rfl b2 (Tryz.msize _ _ _) (by simp only [List.size_toArray, mcC_length]) (mcC_one _ _ _ rfl) rfl ?_; intro w3 u3 b23; have gg := u3.gr gg (by omega)))
    go_ret2
    exact ⟨gg, _, fin_vb HC.out.symm, by rw [HV.out]; exact World.ownsRow_nil _ _ _ _⟩
  · unfold gtIn at hin
    rw [Bool.and_eq_true] at hin
    obtain ⟨hrd, hmi⟩ := hin
    rcases rd_cases s.data.toList with ⟨hp, hg, hk⟩ | ⟨g, hp, hg, hk⟩
    · rw [hrd] at hk; cases hk
    rw [hg] at hmi
    obtain ⟨hc, -, -, hl⟩ := cel_of hp
    have HR := hidI (readMachine_yes s g I O bI bO slI slO w hm hs hp hmi hI hO wI wO)
    have hmi2 := hmi
    unfold mcIn at hmi2
    simp only [Bool.and_eq_true, Bool.not_eq_true'] at hmi2
    obtain ⟨⟨⟨a1, a2⟩, -⟩, -⟩ := hmi2
    have l3 := (adB_len a1).2
    have m3 := (adB_len a2).2
    obtain ⟨F1, hF1⟩ : ∃ F1, F1 = mcF g I (2 ^ I.length) := ⟨_, rfl⟩
    rw [← hF1] at HR
    cases hwb : wordB u
    · have hok : gtOk s.data.toList I O u = false := by unfold gtOk; rw [hwb, Bool.and_false]
      have HWB := hidI hwb
      have HC := hidI hok
      have HV := hidI (gtL_no hok)
      obtain ⟨c, hcc⟩ : ∃ c, c = 2 ^ I.length := ⟨_, rfl⟩
      rw [← hcc] at HR
      clear hok hwb wI wO hcc hF1 hmi a1 a2 hc hl hrd hg hk hp
      go_enter Tryz.func8, Tryz.ntmps8
      go_wp2_with (first | (go_at_call 18; refine (HR.out).mono ?_; rintro e w1 ⟨rfl, g1⟩; have gg := gg.trans g1; have z1 := g1.size) | (refine r_alloc (dst := some 10) 45 _ Tryz.mzero rfl ?_; intro w2 B2 N2; have g2 := N2.gr; have b2 : Blk w2 B2 ((mcC 0 (fun _ => g0) (.slice none 0 0)).toArray) 45 := N2.blk; have l2 := N2.lo; have t2 := N2.hi; have z2 := g2.size; have gg := gg.trans g2; clear N2) | (refine r_store_row 45 45 _ _ B2 rfl (mcC c F1 slO).toArray _ rfl b2 (Tryz.msize _ _ _) (by simp only [List.size_toArray, mcC_length]) (mcC_one _ _ _ oneO) rfl ?_; intro w3 u3 b23; have gg := u3.gr gg (by omega)) | (go_at_call 19; refine (iIsWord u _).mono ?_; rintro e w5 ⟨rfl, g5⟩; rw [HWB.out]; have z5 := g5.size; have gg := gg.trans g5))
      go_ret2
      exact ⟨gg, _, fin_vb HC.out.symm, by rw [HV.out]; exact World.ownsRow_nil _ _ _ _⟩
    · have hok : gtOk s.data.toList I O u = true := by unfold gtOk; rw [hwb, hrd, hg, hmi]; rfl
      have HWB := hidI hwb
      have HC := hidI hok
      have HGT := hidI (gt_eq (O := O) hc hwb l3 (2 ^ I.length))
      have HV := hidI (gtL_yes hg hok)
      have HCN : (2 : Nat) ^ I.length ≤ 8 := Nat.pow_le_pow_right (n := 2) (by decide) l3
      have hWal : ∀ k, Wal (F1 k) ∨ ¬ k < 2 ^ I.length := fun k => by
        by_cases hk : k < 2 ^ I.length
        · refine .inl ?_
          rw [hF1]
          unfold mcF
          rw [if_pos hk, ← mt_wi g (cellOf I) k l3]
          exact (mt_cel hc (cellOf I) I.length k I.length).wal
        · exact .inr hk
      rw [← hF1] at HGT
      obtain ⟨c, hcc⟩ : ∃ c, c = 2 ^ I.length := ⟨_, rfl⟩
      rw [← hcc] at HR HGT HV HCN hWal
      have HDN := hidI (fun (w0 : World) (Bu : Nat) (hb : Blk w0 Bu #[.string u] 9) => done_any c F1 slO u Bu w0 HCN oneO (fun k hk => (hWal k).resolve_right (fun h => h hk)) hwb hb)
      obtain ⟨F2, hF2⟩ : ∃ F2, F2 = dnF (wds u) F1 c := ⟨_, rfl⟩
      rw [← hF2] at HDN HGT
      have HTB := hidI (fun (w0 : World) (h : w0.ownsRow bO 3 1 slO O.length (intsV O)) => table_any c F2 slO O bO w0 HCN m3 h (fun k hk => by have := adB_in a2 hk; have := hc.n36; omega))
      obtain ⟨S, hS⟩ : ∃ S, S = tdR (fun j => ((otN (F2 j).c O O.length : Nat) : Int)) c := ⟨_, rfl⟩
      rw [← hS] at HTB HGT
      clear hok hwb wI wO hcc hF1 hF2 hS hmi a1 a2 hc hl hrd hg hk hp hWal
      go_enter Tryz.func8, Tryz.ntmps8
      go_wp2_with (first | (go_at_call 18; refine (HR.out).mono ?_; rintro e w1 ⟨rfl, g1⟩; have gg := gg.trans g1; have z1 := g1.size; have hO := g1.row hO) | ((refine r_alloc (dst := some 10) 45 _ Tryz.mzero rfl ?_; intro w2 B2 N2; have g2 := N2.gr; have b2 : Blk w2 B2 ((mcC 0 (fun _ => g0) (.slice none 0 0)).toArray) 45 := N2.blk; have l2 := N2.lo; have t2 := N2.hi; have z2 := g2.size; have gg := gg.trans g2; clear N2); have hO := g2.row hO) | (have nO := own_ne hO b2 (by decide); refine r_store_row 45 45 _ _ B2 rfl (mcC c F1 slO).toArray _ rfl b2 (Tryz.msize _ _ _) (by simp only [List.size_toArray, mcC_length]) (mcC_one _ _ _ oneO) rfl ?_; intro w3 u3 b23; have hO := u3.row hO nO; have gg := u3.gr gg (by omega)) | ((go_at_call 19; refine (iIsWord u _).mono ?_; rintro e w5 ⟨rfl, g5⟩; rw [HWB.out]; have z5 := g5.size; have b23 := g5.blk b23; have gg := gg.trans g5); have hO := g5.row hO))
      have gd := (Gr.refl w5).drew
      have b2 := gd.blk b23
      have hO := gd.row hO
      have gg := gg.trans gd
      have lo2 : w.heap.size ≤ B2 := by omega
      refine F_begin (fun w => Blk w B2 (mcC c F1 slO).toArray 45) 6 7 #[false, false, false, false, false, false, false] rfl (by kernel_rfl) (by kernel_rfl) ?_
      generalize w5.drew = wn at *
      have zn : w.heap.size ≤ wn.heap.size := gg.size
      refine F_take (v := .agg (mcC c F1 slO).toArray) 0 #[true, false, false, false, false, false, false] rfl (by kernel_rfl) (fun _ _ _ h => h) rfl (fun w hF => e_load_row 45 (.tmp 10) B2 _ _ _ rfl hF Tryz.underlying45 rfl (Tryz.minfo _ _ _)) (b2) ?_; simp only [Act.put, List.setIfInBounds_toArray, List.set_cons_succ, List.set_cons_zero]
      refine F_free (v := .string u) 1 #[true, true, false, false, false, false, false] rfl (by kernel_rfl) (fun _ _ _ h => h) rfl (fun _ => rfl) (b2) ?_; simp only [Act.put, List.setIfInBounds_toArray, List.set_cons_succ, List.set_cons_zero]
      refine F_two 2 5 #[true, true, true, false, false, false, false] #[true, true, false, false, false, true, false] rfl rfl (by kernel_rfl) ?_ ?_
      · skip
        refine r_callx 21 [.tmp 28] _ [.string u] (fun v w' => Gr wn w' ∧ ∃ B, v = doV B ∧ Blk w' B #[.string u] 9) Tryz.call21 rfl rfl ((doingOf_any u wn).mono fun e w' h => by obtain ⟨g, B, h1, h2⟩ := h; exact ⟨_, h1, g, B, rfl, h2⟩) ?_
        rintro vd wm ⟨gn, Bd, rfl, bd⟩
        have b2 := gn.blk b2
        have hO := gn.row hO
        try have b9 := gn.blk b9
        have gg := gg.trans gn
        obtain ⟨wn, rfl⟩ : ∃ wn : World, wn = wm := ⟨_, rfl⟩
        simp only [Act.put, List.setIfInBounds_toArray, List.set_cons_succ, List.set_cons_zero]
        refine ⟨fun _ => b2, ?_⟩
        refine F_two 3 5 #[true, true, true, true, false, false, false] #[true, true, true, false, false, true, false] rfl rfl (by kernel_rfl) ?_ ?_
        · skip
          refine r_call 20 [.tmp 27, .tmp 29] _ [.agg (mcC c F1 slO).toArray, doV Bd] (.agg (mcC c F2 slO).toArray) (fun w' => Gr wn w') Tryz.call20 rfl rfl (HDN.out wn Bd bd) ?_
          intro wm gn
          have b2 := gn.blk b2
          have hO := gn.row hO
          try have b9 := gn.blk b9
          have gg := gg.trans gn
          obtain ⟨wn, rfl⟩ : ∃ wn : World, wn = wm := ⟨_, rfl⟩
          simp only [Act.put, List.setIfInBounds_toArray, List.set_cons_succ, List.set_cons_zero]
          refine ⟨fun _ => b2, ?_⟩
          refine F_two 4 5 #[true, true, true, true, true, false, false] #[true, true, true, true, false, true, false] rfl rfl (by kernel_rfl) ?_ ?_
          · skip
            refine r_call 22 [.tmp 30] _ [.agg (mcC c F2 slO).toArray] (.agg (tbC c S).toArray) (fun w' => Gr wn w') Tryz.call22 rfl rfl (HTB.out wn hO) ?_
            intro wm gn
            have b2 := gn.blk b2
            have hO := gn.row hO
            try have b9 := gn.blk b9
            have gg := gg.trans gn
            obtain ⟨wn, rfl⟩ : ∃ wn : World, wn = wm := ⟨_, rfl⟩
            simp only [Act.put, List.setIfInBounds_toArray, List.set_cons_succ, List.set_cons_zero]
            refine ⟨fun _ => b2, ?_⟩
            refine F_one 5 #[true, true, true, true, true, true, false] rfl (by kernel_rfl) ?_
            refine r_alloc (dst := some 12) 51 _ Tryz.tbzero rfl ?_
            intro wm B9 N9
            have gn := N9.gr
            have b2 := gn.blk b2
            have hO := gn.row hO
            try have bd := gn.blk bd
            have b9 : Blk wm B9 (tbC 0 (fun _ => 0)).toArray 51 := N9.blk
            have lo9 : w.heap.size ≤ B9 := Nat.le_trans gg.size N9.lo
            have gg := gg.trans gn
            obtain ⟨wn, rfl⟩ : ∃ wn : World, wn = wm := ⟨_, rfl⟩
            simp only [Act.put, List.setIfInBounds_toArray, List.set_cons_succ, List.set_cons_zero]
            refine ⟨fun _ => b2, ?_⟩
            refine F_one 6 #[true, true, true, true, true, true, true] rfl (by kernel_rfl) ?_
            refine r_store_row 51 51 _ _ B9 rfl (tbC c S).toArray _ rfl b9 (Tryz.tbsize _ _) (by simp only [List.size_toArray, tbC_length]) (tbC_one _ _) rfl ?_
            intro w9 u9 b99
            have gg := u9.gr gg lo9
            refine ⟨fun h => (by cases h), ?_⟩
            simp only [Act.put]
            refine F_done (by kernel_rfl) ?_
            have hsl := Tryz.tcut B9 c HCN
            have hc0 : w9.cell? ⟨B9, 0, none⟩ = some (.int .i64 (c : Int)) := (b99.cell 0).trans (by rw [List.getElem?_toArray]; rfl)
            go_wp2_with (first | (refine r_fld 51 _ 1 (.pointer (some ⟨B9, 0, none⟩)) (.pointer (some ⟨B9, 1, none⟩)) rfl (Tryz.tbf1 B9 _) rfl ?_) | (refine r_fld 51 _ 0 (.pointer (some ⟨B9, 0, none⟩)) (.pointer (some ⟨B9, 0, none⟩)) rfl (Tryz.tbf0 B9 _) rfl ?_) | (refine r_ldc 3 _ ⟨B9, 0, none⟩ (.int .i64 (c : Int)) rfl (Tryz.isAgg3 _) hc0 rfl ?_))
            refine (cloneT_any B9 c c S _ _ b99 HCN).mono ?_
            rintro e w10 ⟨g10, v10, rfl, own10⟩
            have z9 := gg.size
            have gg := gg.trans g10
            have own11 : w10.ownsRow w.heap.size 3 1 v10 (gtL s.data.toList I O u).length (intsV (gtL s.data.toList I O u)) := by rw [HV.out, tabL_length, ← HGT.out]; exact own_up own10 z9
            go_wp2
            go_ret2
            exact ⟨gg, _, fin_vb HC.out.symm, own11⟩
          · skip
            refine r_alloc (dst := some 12) 51 _ Tryz.tbzero rfl ?_
            intro wm B9 N9
            have gn := N9.gr
            have b2 := gn.blk b2
            have hO := gn.row hO
            try have bd := gn.blk bd
            have b9 : Blk wm B9 (tbC 0 (fun _ => 0)).toArray 51 := N9.blk
            have lo9 : w.heap.size ≤ B9 := Nat.le_trans gg.size N9.lo
            have gg := gg.trans gn
            obtain ⟨wn, rfl⟩ : ∃ wn : World, wn = wm := ⟨_, rfl⟩
            simp only [Act.put, List.setIfInBounds_toArray, List.set_cons_succ, List.set_cons_zero]
            refine ⟨fun _ => b2, ?_⟩
            refine F_one 4 #[true, true, true, true, true, true, false] rfl (by kernel_rfl) ?_
            refine r_call 22 [.tmp 30] _ [.agg (mcC c F2 slO).toArray] (.agg (tbC c S).toArray) (fun w' => Gr wn w') Tryz.call22 rfl rfl (HTB.out wn hO) ?_
            intro wm gn
            have b2 := gn.blk b2
            have hO := gn.row hO
            try have b9 := gn.blk b9
            have gg := gg.trans gn
            obtain ⟨wn, rfl⟩ : ∃ wn : World, wn = wm := ⟨_, rfl⟩
            simp only [Act.put, List.setIfInBounds_toArray, List.set_cons_succ, List.set_cons_zero]
            refine ⟨fun _ => b2, ?_⟩
            refine F_one 6 #[true, true, true, true, true, true, true] rfl (by kernel_rfl) ?_
            refine r_store_row 51 51 _ _ B9 rfl (tbC c S).toArray _ rfl b9 (Tryz.tbsize _ _) (by simp only [List.size_toArray, tbC_length]) (tbC_one _ _) rfl ?_
            intro w9 u9 b99
            have gg := u9.gr gg lo9
            refine ⟨fun h => (by cases h), ?_⟩
            simp only [Act.put]
            refine F_done (by kernel_rfl) ?_
            have hsl := Tryz.tcut B9 c HCN
            have hc0 : w9.cell? ⟨B9, 0, none⟩ = some (.int .i64 (c : Int)) := (b99.cell 0).trans (by rw [List.getElem?_toArray]; rfl)
            go_wp2_with (first | (refine r_fld 51 _ 1 (.pointer (some ⟨B9, 0, none⟩)) (.pointer (some ⟨B9, 1, none⟩)) rfl (Tryz.tbf1 B9 _) rfl ?_) | (refine r_fld 51 _ 0 (.pointer (some ⟨B9, 0, none⟩)) (.pointer (some ⟨B9, 0, none⟩)) rfl (Tryz.tbf0 B9 _) rfl ?_) | (refine r_ldc 3 _ ⟨B9, 0, none⟩ (.int .i64 (c : Int)) rfl (Tryz.isAgg3 _) hc0 rfl ?_))
            refine (cloneT_any B9 c c S _ _ b99 HCN).mono ?_
            rintro e w10 ⟨g10, v10, rfl, own10⟩
            have z9 := gg.size
            have gg := gg.trans g10
            have own11 : w10.ownsRow w.heap.size 3 1 v10 (gtL s.data.toList I O u).length (intsV (gtL s.data.toList I O u)) := by rw [HV.out, tabL_length, ← HGT.out]; exact own_up own10 z9
            go_wp2
            go_ret2
            exact ⟨gg, _, fin_vb HC.out.symm, own11⟩
        · skip
          refine r_alloc (dst := some 12) 51 _ Tryz.tbzero rfl ?_
          intro wm B9 N9
          have gn := N9.gr
          have b2 := gn.blk b2
          have hO := gn.row hO
          try have bd := gn.blk bd
          have b9 : Blk wm B9 (tbC 0 (fun _ => 0)).toArray 51 := N9.blk
          have lo9 : w.heap.size ≤ B9 := Nat.le_trans gg.size N9.lo
          have gg := gg.trans gn
          obtain ⟨wn, rfl⟩ : ∃ wn : World, wn = wm := ⟨_, rfl⟩
          simp only [Act.put, List.setIfInBounds_toArray, List.set_cons_succ, List.set_cons_zero]
          refine ⟨fun _ => b2, ?_⟩
          refine F_one 3 #[true, true, true, true, false, true, false] rfl (by kernel_rfl) ?_
          refine r_call 20 [.tmp 27, .tmp 29] _ [.agg (mcC c F1 slO).toArray, doV Bd] (.agg (mcC c F2 slO).toArray) (fun w' => Gr wn w') Tryz.call20 rfl rfl (HDN.out wn Bd bd) ?_
          intro wm gn
          have b2 := gn.blk b2
          have hO := gn.row hO
          try have b9 := gn.blk b9
          have gg := gg.trans gn
          obtain ⟨wn, rfl⟩ : ∃ wn : World, wn = wm := ⟨_, rfl⟩
          simp only [Act.put, List.setIfInBounds_toArray, List.set_cons_succ, List.set_cons_zero]
          refine ⟨fun _ => b2, ?_⟩
          refine F_one 4 #[true, true, true, true, true, true, false] rfl (by kernel_rfl) ?_
          refine r_call 22 [.tmp 30] _ [.agg (mcC c F2 slO).toArray] (.agg (tbC c S).toArray) (fun w' => Gr wn w') Tryz.call22 rfl rfl (HTB.out wn hO) ?_
          intro wm gn
          have b2 := gn.blk b2
          have hO := gn.row hO
          try have b9 := gn.blk b9
          have gg := gg.trans gn
          obtain ⟨wn, rfl⟩ : ∃ wn : World, wn = wm := ⟨_, rfl⟩
          simp only [Act.put, List.setIfInBounds_toArray, List.set_cons_succ, List.set_cons_zero]
          refine ⟨fun _ => b2, ?_⟩
          refine F_one 6 #[true, true, true, true, true, true, true] rfl (by kernel_rfl) ?_
          refine r_store_row 51 51 _ _ B9 rfl (tbC c S).toArray _ rfl b9 (Tryz.tbsize _ _) (by simp only [List.size_toArray, tbC_length]) (tbC_one _ _) rfl ?_
          intro w9 u9 b99
          have gg := u9.gr gg lo9
          refine ⟨fun h => (by cases h), ?_⟩
          simp only [Act.put]
          refine F_done (by kernel_rfl) ?_
          have hsl := Tryz.tcut B9 c HCN
          have hc0 : w9.cell? ⟨B9, 0, none⟩ = some (.int .i64 (c : Int)) := (b99.cell 0).trans (by rw [List.getElem?_toArray]; rfl)
          go_wp2_with (first | (refine r_fld 51 _ 1 (.pointer (some ⟨B9, 0, none⟩)) (.pointer (some ⟨B9, 1, none⟩)) rfl (Tryz.tbf1 B9 _) rfl ?_) | (refine r_fld 51 _ 0 (.pointer (some ⟨B9, 0, none⟩)) (.pointer (some ⟨B9, 0, none⟩)) rfl (Tryz.tbf0 B9 _) rfl ?_) | (refine r_ldc 3 _ ⟨B9, 0, none⟩ (.int .i64 (c : Int)) rfl (Tryz.isAgg3 _) hc0 rfl ?_))
          refine (cloneT_any B9 c c S _ _ b99 HCN).mono ?_
          rintro e w10 ⟨g10, v10, rfl, own10⟩
          have z9 := gg.size
          have gg := gg.trans g10
          have own11 : w10.ownsRow w.heap.size 3 1 v10 (gtL s.data.toList I O u).length (intsV (gtL s.data.toList I O u)) := by rw [HV.out, tabL_length, ← HGT.out]; exact own_up own10 z9
          go_wp2
          go_ret2
          exact ⟨gg, _, fin_vb HC.out.symm, own11⟩
      · skip
        refine r_alloc (dst := some 12) 51 _ Tryz.tbzero rfl ?_
        intro wm B9 N9
        have gn := N9.gr
        have b2 := gn.blk b2
        have hO := gn.row hO
        try have bd := gn.blk bd
        have b9 : Blk wm B9 (tbC 0 (fun _ => 0)).toArray 51 := N9.blk
        have lo9 : w.heap.size ≤ B9 := Nat.le_trans gg.size N9.lo
        have gg := gg.trans gn
        obtain ⟨wn, rfl⟩ : ∃ wn : World, wn = wm := ⟨_, rfl⟩
        simp only [Act.put, List.setIfInBounds_toArray, List.set_cons_succ, List.set_cons_zero]
        refine ⟨fun _ => b2, ?_⟩
        refine F_one 2 #[true, true, true, false, false, true, false] rfl (by kernel_rfl) ?_
        refine r_callx 21 [.tmp 28] _ [.string u] (fun v w' => Gr wn w' ∧ ∃ B, v = doV B ∧ Blk w' B #[.string u] 9) Tryz.call21 rfl rfl ((doingOf_any u wn).mono fun e w' h => by obtain ⟨g, B, h1, h2⟩ := h; exact ⟨_, h1, g, B, rfl, h2⟩) ?_
        rintro vd wm ⟨gn, Bd, rfl, bd⟩
        have b2 := gn.blk b2
        have hO := gn.row hO
        try have b9 := gn.blk b9
        have gg := gg.trans gn
        obtain ⟨wn, rfl⟩ : ∃ wn : World, wn = wm := ⟨_, rfl⟩
        simp only [Act.put, List.setIfInBounds_toArray, List.set_cons_succ, List.set_cons_zero]
        refine ⟨fun _ => b2, ?_⟩
        refine F_one 3 #[true, true, true, true, false, true, false] rfl (by kernel_rfl) ?_
        refine r_call 20 [.tmp 27, .tmp 29] _ [.agg (mcC c F1 slO).toArray, doV Bd] (.agg (mcC c F2 slO).toArray) (fun w' => Gr wn w') Tryz.call20 rfl rfl (HDN.out wn Bd bd) ?_
        intro wm gn
        have b2 := gn.blk b2
        have hO := gn.row hO
        try have b9 := gn.blk b9
        have gg := gg.trans gn
        obtain ⟨wn, rfl⟩ : ∃ wn : World, wn = wm := ⟨_, rfl⟩
        simp only [Act.put, List.setIfInBounds_toArray, List.set_cons_succ, List.set_cons_zero]
        refine ⟨fun _ => b2, ?_⟩
        refine F_one 4 #[true, true, true, true, true, true, false] rfl (by kernel_rfl) ?_
        refine r_call 22 [.tmp 30] _ [.agg (mcC c F2 slO).toArray] (.agg (tbC c S).toArray) (fun w' => Gr wn w') Tryz.call22 rfl rfl (HTB.out wn hO) ?_
        intro wm gn
        have b2 := gn.blk b2
        have hO := gn.row hO
        try have b9 := gn.blk b9
        have gg := gg.trans gn
        obtain ⟨wn, rfl⟩ : ∃ wn : World, wn = wm := ⟨_, rfl⟩
        simp only [Act.put, List.setIfInBounds_toArray, List.set_cons_succ, List.set_cons_zero]
        refine ⟨fun _ => b2, ?_⟩
        refine F_one 6 #[true, true, true, true, true, true, true] rfl (by kernel_rfl) ?_
        refine r_store_row 51 51 _ _ B9 rfl (tbC c S).toArray _ rfl b9 (Tryz.tbsize _ _) (by simp only [List.size_toArray, tbC_length]) (tbC_one _ _) rfl ?_
        intro w9 u9 b99
        have gg := u9.gr gg lo9
        refine ⟨fun h => (by cases h), ?_⟩
        simp only [Act.put]
        refine F_done (by kernel_rfl) ?_
        have hsl := Tryz.tcut B9 c HCN
        have hc0 : w9.cell? ⟨B9, 0, none⟩ = some (.int .i64 (c : Int)) := (b99.cell 0).trans (by rw [List.getElem?_toArray]; rfl)
        go_wp2_with (first | (refine r_fld 51 _ 1 (.pointer (some ⟨B9, 0, none⟩)) (.pointer (some ⟨B9, 1, none⟩)) rfl (Tryz.tbf1 B9 _) rfl ?_) | (refine r_fld 51 _ 0 (.pointer (some ⟨B9, 0, none⟩)) (.pointer (some ⟨B9, 0, none⟩)) rfl (Tryz.tbf0 B9 _) rfl ?_) | (refine r_ldc 3 _ ⟨B9, 0, none⟩ (.int .i64 (c : Int)) rfl (Tryz.isAgg3 _) hc0 rfl ?_))
        refine (cloneT_any B9 c c S _ _ b99 HCN).mono ?_
        rintro e w10 ⟨g10, v10, rfl, own10⟩
        have z9 := gg.size
        have gg := gg.trans g10
        have own11 : w10.ownsRow w.heap.size 3 1 v10 (gtL s.data.toList I O u).length (intsV (gtL s.data.toList I O u)) := by rw [HV.out, tabL_length, ← HGT.out]; exact own_up own10 z9
        go_wp2
        go_ret2
        exact ⟨gg, _, fin_vb HC.out.symm, own11⟩
end Go.Proofs.YtcjmikafomlbiaaGreatDoor
