/-
  The program's GateNumber, and the law.
-/
import Derived.Test.YtcjmikafomlbiaaGreatDoorGateZ
namespace Go.Proofs.YtcjmikafomlbiaaGreatDoor
open Go.RowKit
theorem Tryz.nsix1 (B n cap x : Nat) (hx : x < n) (w : World) : (Instr.indexAt 22 (.slice (some ⟨B, 1, none⟩) n cap) (.int .i64 x)).run Tryz.prog w = .ok (.pointer (some ⟨B, 1 + x, none⟩)) w := by
  have hu : Tryz.prog.underlying 22 = some (.slice (Tryz.prog.elem 22)) := by kernel_rfl
  have he : Tryz.prog.elem 22 = 3 := by kernel_rfl
  rw [run_indexAt_slice w 22 ⟨B, 1, none⟩ n cap .i64 x hu, if_pos (by omega), he]
  simp [Tryz.sizeOf3, Result.andThen, Addr.add]
theorem wf_one {o : Int} (h : (Lit.int .i64 o).wf = true) : ∀ k, k < [o].length → (Lit.int .i64 (gi [o] k)).wf = true := by
  intro k hk
  obtain rfl : k = 0 := by simp at hk; omega
  exact h
set_option maxHeartbeats 1000000 in
set_option maxRecDepth 100000 in
theorem readGate_no (s : ByteArray) (I : List Int) (o : Int) (bI : Nat) (slI : Value) (w : World) (hm : ML w) (hs : s.size ≤ 1048576) (hno : ¬ (I.length = 2 ∧ gtIn s.data.toList I [o] = true))
    (hI : w.ownsRow bI 3 1 slI I.length (intsV I)) (wI : ∀ k, k < I.length → (Lit.int .i64 (gi I k)).wf = true) (wo : (Lit.int .i64 o).wf = true) :
    Calls Tryz.prog 26 #[.string s, slI, .int .i64 o] w (Ret (.tuple #[.agg (mcC 0 (fun _ => g0) (.slice none 0 0)).toArray, .bool false]) w) := by
  have gg := Gr.refl w
  by_cases h2 : I.length = 2
  · have hgi : gtIn s.data.toList I [o] = false := by
      cases h : gtIn s.data.toList I [o]
      · rfl
      · exact absurd ⟨h2, h⟩ hno
    have HN := hidI (fun (w0 : World) (g : Gr w w0) (b2 : Nat) (v : Value) (h1 : w0.ownsRow bI 3 1 slI I.length (intsV I)) (h : w0.ownsRow b2 3 1 v [o].length (intsV [o])) => show Calls Tryz.prog 18 #[.string s, slI, v] w0 (Ret (.tuple #[.agg (mcC 0 (fun _ => g0) (.slice none 0 0)).toArray, .bool false]) w0) from readMachine_no s I [o] bI b2 slI v w0 (g.ml hm) hs hgi h1 h wI (wf_one wo))
    obtain ⟨pI, kI, rfl⟩ := own_sliceN hI
    obtain ⟨n, hn⟩ : ∃ n, n = I.length := ⟨_, rfl⟩
    rw [← hn] at hI HN h2 ⊢
    clear hn hgi hno wI wo
    have e0 : ((n : Int) != 2) = false := by rw [h2]; rfl
    clear h2
    go_enter Tryz.func26, Tryz.ntmps26
    go_wp2_with (first | ((refine r_alloc (dst := some 6) 45 _ Tryz.mzero rfl ?_; intro w1 B1 N1; have g1 := N1.gr; have b1 : Blk w1 B1 ((mcC 0 (fun _ => g0) (.slice none 0 0)).toArray) 45 := N1.blk; have l1 := N1.lo; have t1 := N1.hi; have z1 := g1.size; have gg := gg.trans g1; clear N1); have hI := g1.row hI) | (refine r_slice1 22 3 (.tmp 14) (.int .i64 o) rfl (Tryz.bsi1 _ _) rfl ?_; intro w2 B2 N2; have ho := own_sl1 N2; have g2 := N2.gr; have b1 := g2.blk b1; have hI := g2.row hI; have z2 := g2.size; have gg := gg.trans g2))
    refine (HN.out _ gg _ _ hI ho).mono ?_
    rintro e w3 ⟨rfl, g3⟩
    have b1 := g3.blk b1
    have gg := gg.trans g3
    have z3 := g3.size
    go_wp2_with (refine r_store_row 45 45 _ _ B1 rfl (mcC 0 (fun _ => g0) (.slice none 0 0)).toArray _ rfl b1 (Tryz.msize _ _ _) (by simp only [List.size_toArray, mcC_length]) (mcC_one _ _ _ rfl) rfl ?_; intro w4 u4 b14; have gg := u4.gr gg (by omega))
    refine bodyPost_ret (results_row_bool rfl _ _ _ _ _ _ rfl b14 Tryz.underlying45 rfl (Tryz.minfo _ _ _)) rfl ⟨rfl, gg⟩
  · obtain ⟨pI, kI, rfl⟩ := own_sliceN hI
    obtain ⟨n, hn⟩ : ∃ n, n = I.length := ⟨_, rfl⟩
    rw [← hn] at hI h2 ⊢
    clear hn hno wI wo
    have e0 : ((n : Int) != 2) = true := by rw [bne_iff_ne]; omega
    go_enter Tryz.func26, Tryz.ntmps26
    go_wp2_with (first | ((refine r_alloc (dst := some 6) 45 _ Tryz.mzero rfl ?_; intro w1 B1 N1; have g1 := N1.gr; have b1 : Blk w1 B1 ((mcC 0 (fun _ => g0) (.slice none 0 0)).toArray) 45 := N1.blk; have l1 := N1.lo; have t1 := N1.hi; have z1 := g1.size; have gg := gg.trans g1; clear N1); have hI := g1.row hI) | (refine r_build 45 [] [] _ (Tryz.mbuild0 _) rfl rfl ?_) | (refine r_store_row 45 45 _ _ B1 rfl (mcC 0 (fun _ => g0) (.slice none 0 0)).toArray _ rfl b1 (Tryz.msize _ _ _) (by simp only [List.size_toArray, mcC_length]) (mcC_one _ _ _ rfl) rfl ?_; intro w4 u4 b14; have gg := u4.gr gg (by omega)))
    refine bodyPost_ret (results_row_bool rfl _ _ _ _ _ _ rfl b14 Tryz.underlying45 rfl (Tryz.minfo _ _ _)) rfl ⟨rfl, gg⟩
set_option maxHeartbeats 1000000 in
set_option maxRecDepth 100000 in
theorem readGate_yes (s : ByteArray) (g : Grid) (I : List Int) (o : Int) (bI : Nat) (slI : Value) (w : World) (hm : ML w) (hs : s.size ≤ 1048576) (h2 : I.length = 2) (hp : parse s.data.toList = some g) (hin : mcIn g I [o] = true)
    (hI : w.ownsRow bI 3 1 slI I.length (intsV I)) (wI : ∀ k, k < I.length → (Lit.int .i64 (gi I k)).wf = true) (wo : (Lit.int .i64 o).wf = true) :
    Calls Tryz.prog 26 #[.string s, slI, .int .i64 o] w fun e w' => Gr w w' ∧ ∃ slO, e = .returned (.tuple #[.agg (mcC (2 ^ I.length : Nat) (mcF g I (2 ^ I.length)) slO).toArray, .bool true]) ∧ w'.ownsRow w.heap.size 3 1 slO [o].length (intsV [o]) := by
  have gg := Gr.refl w
  have HN := hidI (fun (w0 : World) (g0 : Gr w w0) (b2 : Nat) (v : Value) (h1 : w0.ownsRow bI 3 1 slI I.length (intsV I)) (h : w0.ownsRow b2 3 1 v [o].length (intsV [o])) => readMachine_yes s g I [o] bI b2 slI v w0 (g0.ml hm) hs hp hin h1 h wI (wf_one wo))
  obtain ⟨F1, hF1⟩ : ∃ F1, F1 = mcF g I (2 ^ I.length) := ⟨_, rfl⟩
  obtain ⟨c, hcc⟩ : ∃ c, c = 2 ^ I.length := ⟨_, rfl⟩
  rw [← hF1, ← hcc] at HN ⊢
  obtain ⟨pI, kI, rfl⟩ := own_sliceN hI
  obtain ⟨n, hn⟩ : ∃ n, n = I.length := ⟨_, rfl⟩
  rw [← hn] at hI HN h2 ⊢
  clear hn hF1 hcc hp hin wI wo
  have e0 : ((n : Int) != 2) = false := by rw [h2]; rfl
  clear h2
  go_enter Tryz.func26, Tryz.ntmps26
  go_wp2_with (first | ((refine r_alloc (dst := some 6) 45 _ Tryz.mzero rfl ?_; intro w1 B1 N1; have g1 := N1.gr; have b1 : Blk w1 B1 ((mcC 0 (fun _ => g0) (.slice none 0 0)).toArray) 45 := N1.blk; have l1 := N1.lo; have t1 := N1.hi; have z1 := g1.size; have gg := gg.trans g1; clear N1); have hI := g1.row hI) | (refine r_slice1 22 3 (.tmp 14) (.int .i64 o) rfl (Tryz.bsi1 _ _) rfl ?_; intro w2 B2 N2; have ho := own_sl1 N2; have g2 := N2.gr; have b1 := g2.blk b1; have hI := g2.row hI; have z2 := g2.size; have gg := gg.trans g2))
  refine (HN.out _ gg _ _ hI ho).mono ?_
  rintro e w3 ⟨rfl, g3⟩
  have b1 := g3.blk b1
  have ho := g3.row ho
  have gg := gg.trans g3
  have z3 := g3.size
  have no1 := own_ne ho b1 (by decide)
  go_wp2_with (refine r_store_row 45 45 _ _ B1 rfl (mcC c F1 (.slice (some ⟨B2, 0, none⟩) 1 1)).toArray _ rfl b1 (Tryz.msize _ _ _) (by simp only [List.size_toArray, mcC_length]) (mcC_one _ _ _ rfl) rfl ?_; intro w4 u4 b14; have ho := u4.row ho no1; have gg := u4.gr gg (by omega))
  refine bodyPost_ret (results_row_bool rfl _ _ _ _ _ _ rfl b14 Tryz.underlying45 rfl (Tryz.minfo _ _ _)) rfl ⟨gg, _, rfl, own_up ho (by omega)⟩
set_option maxHeartbeats 2000000 in
set_option maxRecDepth 100000 in
theorem iGateNumber (s u : ByteArray) (I : List Int) (o : Int) (bI : Nat) (slI : Value) (w : World) (hm : ML w) (hs : s.size ≤ 1048576) (hI : w.ownsRow bI 3 1 slI I.length (intsV I))
    (wI : ∀ k, k < I.length → (Lit.int .i64 (gi I k)).wf = true) (wo : (Lit.int .i64 o).wf = true) :
    Calls Tryz.prog 13 #[.string s, slI, .int .i64 o, .string u] w (Ret (.tuple #[.int .i64 (gnV s.data.toList I o u), .bool (gnOk s.data.toList I o u)]) w) := by
  have gg := Gr.refl w
  have oneI := own_one hI
  by_cases hyn : I.length = 2 ∧ gtIn s.data.toList I [o] = true
  · obtain ⟨h2, hin⟩ := hyn
    unfold gtIn at hin
    rw [Bool.and_eq_true] at hin
    obtain ⟨hrd, hmi⟩ := hin
    rcases rd_cases s.data.toList with ⟨hp, hg, hk⟩ | ⟨g, hp, hg, hk⟩
    · rw [hrd] at hk; cases hk
    rw [hg] at hmi
    obtain ⟨hc, -, -, hl⟩ := cel_of hp
    have HR := hidI (readGate_yes s g I o bI slI w hm hs h2 hp hmi hI wI wo)
    have hmi2 := hmi
    unfold mcIn at hmi2
    simp only [Bool.and_eq_true, Bool.not_eq_true'] at hmi2
    obtain ⟨⟨⟨a1, a2⟩, -⟩, -⟩ := hmi2
    have l3 := (adB_len a1).2
    obtain ⟨F1, hF1⟩ : ∃ F1, F1 = mcF g I (2 ^ I.length) := ⟨_, rfl⟩
    rw [← hF1] at HR
    cases hwb : wordB u
    · have hok : gnOk s.data.toList I o u = false := by unfold gnOk gtOk; rw [hwb, Bool.and_false, Bool.false_and]
      have HWB := hidI hwb
      have HC := hidI hok
      have HV := hidI (show gnV s.data.toList I o u = 0 from by unfold gnV; rw [hok]; rfl)
      obtain ⟨c, hcc⟩ : ∃ c, c = 2 ^ I.length := ⟨_, rfl⟩
      rw [← hcc] at HR
      clear hok hwb wI wo hcc hF1 hmi a1 a2 hc hl hrd hg hk hp h2
      go_enter Tryz.func13, Tryz.ntmps13
      go_wp2_with fail
      refine (HR.out).mono ?_
      rintro e w1 ⟨g1, slO, rfl, hO⟩
      have oneO := own_one hO
      have gg := gg.trans g1
      have z1 := g1.size
      go_wp2_with (first | (refine r_alloc (dst := some 10) 45 _ Tryz.mzero rfl ?_; intro w2 B2 N2; have g2 := N2.gr; have b2 : Blk w2 B2 ((mcC 0 (fun _ => g0) (.slice none 0 0)).toArray) 45 := N2.blk; have l2 := N2.lo; have t2 := N2.hi; have z2 := g2.size; have gg := gg.trans g2; clear N2) | (refine r_store_row 45 45 _ _ B2 rfl (mcC c F1 slO).toArray _ rfl b2 (Tryz.msize _ _ _) (by simp only [List.size_toArray, mcC_length]) (mcC_one _ _ _ oneO) rfl ?_; intro w3 u3 b23; have gg := u3.gr gg (by omega)) | (go_at_call 19; refine (iIsWord u _).mono ?_; rintro e w5 ⟨rfl, g5⟩; rw [HWB.out]; have z5 := g5.size; have gg := gg.trans g5))
      go_ret2
      exact ⟨by rw [HV.out, HC.out]; rfl, gg⟩
    · have hok : gnOk s.data.toList I o u = true := by unfold gnOk gtOk; rw [hwb, hrd, hg, hmi, decide_eq_true h2]; rfl
      have HWB := hidI hwb
      have HC := hidI hok
      have hgt := gt_eq (O := [o]) hc hwb l3 (2 ^ I.length)
      have hc4 : (2 : Nat) ^ I.length = 4 := by rw [h2]
      rw [hc4] at hgt HR hF1
      have HCN : 4 ≤ 8 := by decide
      have hWal : ∀ k, Wal (F1 k) ∨ ¬ k < 4 := fun k => by
        by_cases hk : k < 4
        · refine .inl ?_
          rw [hF1]
          unfold mcF
          rw [if_pos hk, ← mt_wi g (cellOf I) k l3]
          exact (mt_cel hc (cellOf I) I.length k I.length).wal
        · exact .inr hk
      rw [← hF1] at hgt
      have hgnF : gnF s.data.toList I o u = fun k => ((gtF g I [o] u k : Nat) : Int) := by unfold gnF; rw [hg]
      have hgV : gnV s.data.toList I o u = gnI (fun k => ((gtF g I [o] u k : Nat) : Int)) 4 := by unfold gnV; rw [hok, if_pos rfl, hgnF]
      have hSM := gtF_small g I o u
      obtain ⟨c, hcc⟩ : ∃ c, c = 4 := ⟨_, rfl⟩
      rw [← hcc] at HR hgt HCN hWal hgV
      have hDN := fun (slO : Value) (oneO : slO.oneCell' = true) (w0 : World) (Bu : Nat) (hb : Blk w0 Bu #[.string u] 9) => done_any c F1 slO u Bu w0 HCN oneO (fun k hk => (hWal k).resolve_right (fun h => h hk)) hwb hb
      obtain ⟨F2, hF2⟩ : ∃ F2, F2 = dnF (wds u) F1 c := ⟨_, rfl⟩
      rw [← hF2] at hDN hgt
      have HDM := hidI hDN
      have HTM := hidI (fun (slO : Value) (w0 : World) (h : w0.ownsRow w.heap.size 3 1 slO [o].length (intsV [o])) => table_any c F2 slO [o] w.heap.size w0 HCN (by show 1 ≤ 3; decide) h (fun k hk => by have := adB_in a2 hk; have := hc.n36; omega))
      obtain ⟨S, hS⟩ : ∃ S, S = tdR (fun j => ((otN (F2 j).c [o] [o].length : Nat) : Int)) c := ⟨_, rfl⟩
      rw [← hS] at HTM hgt
      have hSe : ∀ j, j < c → S j = ((gtF g I [o] u j : Nat) : Int) := fun j hj => by
        have := congrArg (fun l => gi l j) hgt
        rw [tabL_gi hj] at this
        rw [← this]
        unfold gi
        rw [List.getD_eq_getElem?_getD, List.getElem?_map, List.getElem?_range hj]
        rfl
      have HSM := hidI (show ∀ j, j < c → 0 ≤ S j ∧ S j ≤ 7 from fun j hj => by rw [hSe j hj]; exact hSM j)
      have HV := hidI (show gnV s.data.toList I o u = gnI S c from by rw [hgV]; exact (gnI_congr c hSe).symm)
      have hc8 : c ≤ 8 := HCN
      clear hok hwb wI wo hcc hF1 hF2 hS hmi a1 a2 hc hl hrd hg hk hp hWal hgt hc4 hgnF hgV hSM hDN hSe h2 hI
      go_enter Tryz.func13, Tryz.ntmps13
      go_wp2_with fail
      refine (HR.out).mono ?_
      rintro e w1 ⟨g1, slO, rfl, hO⟩
      have oneO := own_one hO
      have gg := gg.trans g1
      have z1 := g1.size
      have HDN := hidI (HDM.out slO oneO)
      have HTB := hidI (HTM.out slO)
      go_wp2_with (first | ((refine r_alloc (dst := some 10) 45 _ Tryz.mzero rfl ?_; intro w2 B2 N2; have g2 := N2.gr; have b2 : Blk w2 B2 ((mcC 0 (fun _ => g0) (.slice none 0 0)).toArray) 45 := N2.blk; have l2 := N2.lo; have t2 := N2.hi; have z2 := g2.size; have gg := gg.trans g2; clear N2); have hO := g2.row hO) | (have nO := own_ne hO b2 (by decide); refine r_store_row 45 45 _ _ B2 rfl (mcC c F1 slO).toArray _ rfl b2 (Tryz.msize _ _ _) (by simp only [List.size_toArray, mcC_length]) (mcC_one _ _ _ oneO) rfl ?_; intro w3 u3 b23; have hO := u3.row hO nO; have gg := u3.gr gg (by omega)) | ((go_at_call 19; refine (iIsWord u _).mono ?_; rintro e w5 ⟨rfl, g5⟩; rw [HWB.out]; have z5 := g5.size; have b23 := g5.blk b23; have gg := gg.trans g5); have hO := g5.row hO))
      have gd := (Gr.refl w5).drew
      have b2 := gd.blk b23
      have hO := gd.row hO
      have gg := gg.trans gd
      have lo2 : w.heap.size ≤ B2 := by omega
      refine F_begin (fun w => Blk w B2 (mcC c F1 slO).toArray 45) 6 7 #[false, false, false, false, false, false, false] rfl (by kernel_rfl) (by kernel_rfl) ?_
      generalize w5.drew = wn at *
      refine F_take (v := .agg (mcC c F1 slO).toArray) 0 #[true, false, false, false, false, false, false] rfl (by kernel_rfl) (fun _ _ _ h => h) rfl (fun w hF => e_load_row 45 (.tmp 10) B2 _ _ _ rfl hF Tryz.underlying45 rfl (Tryz.minfo _ _ _)) (b2) ?_; simp only [Act.put, List.setIfInBounds_toArray, List.set_cons_succ, List.set_cons_zero]
      refine F_free (v := .string u) 1 #[true, true, false, false, false, false, false] rfl (by kernel_rfl) (fun _ _ _ h => h) rfl (fun _ => rfl) (b2) ?_; simp only [Act.put, List.setIfInBounds_toArray, List.set_cons_succ, List.set_cons_zero]
      refine F_two 2 5 #[true, true, true, false, false, false, false] #[true, true, false, false, false, true, false] rfl rfl (by kernel_rfl) ?_ ?_
      · skip
        refine r_callx 21 [.tmp 31] _ [.string u] (fun v w' => Gr wn w' ∧ ∃ B, v = doV B ∧ Blk w' B #[.string u] 9) Tryz.call21 rfl rfl ((doingOf_any u wn).mono fun e w' h => by obtain ⟨g, B, h1, h2⟩ := h; exact ⟨_, h1, g, B, rfl, h2⟩) ?_
        rintro vd wm ⟨gn, Bd, rfl, bd⟩
        have b2 := gn.blk b2
        have hO := gn.row hO
        try have b9 := gn.blk b9
        have gg := gg.trans gn
        obtain ⟨wn, rfl⟩ : ∃ wn : World, wn = wm := ⟨_, rfl⟩
        simp only [Act.put, List.setIfInBounds_toArray, List.set_cons_succ, List.set_cons_zero]
        refine ⟨fun _ => b2, ?_⟩
        refine F_two 3 5 #[true, true, true, true, false, false, false] #[true, true, true, false, false, true, false] rfl rfl (by kernel_rfl) ?_ ?_
        · skip
          refine r_call 20 [.tmp 30, .tmp 32] _ [.agg (mcC c F1 slO).toArray, doV Bd] (.agg (mcC c F2 slO).toArray) (fun w' => Gr wn w') Tryz.call20 rfl rfl (HDN.out wn Bd bd) ?_
          intro wm gn
          have b2 := gn.blk b2
          have hO := gn.row hO
          try have b9 := gn.blk b9
          have gg := gg.trans gn
          obtain ⟨wn, rfl⟩ : ∃ wn : World, wn = wm := ⟨_, rfl⟩
          simp only [Act.put, List.setIfInBounds_toArray, List.set_cons_succ, List.set_cons_zero]
          refine ⟨fun _ => b2, ?_⟩
          refine F_two 4 5 #[true, true, true, true, true, false, false] #[true, true, true, true, false, true, false] rfl rfl (by kernel_rfl) ?_ ?_
          · skip
            refine r_call 22 [.tmp 33] _ [.agg (mcC c F2 slO).toArray] (.agg (tbC c S).toArray) (fun w' => Gr wn w') Tryz.call22 rfl rfl (HTB.out wn hO) ?_
            intro wm gn
            have b2 := gn.blk b2
            have hO := gn.row hO
            try have b9 := gn.blk b9
            have gg := gg.trans gn
            obtain ⟨wn, rfl⟩ : ∃ wn : World, wn = wm := ⟨_, rfl⟩
            simp only [Act.put, List.setIfInBounds_toArray, List.set_cons_succ, List.set_cons_zero]
            refine ⟨fun _ => b2, ?_⟩
            refine F_one 5 #[true, true, true, true, true, true, false] rfl (by kernel_rfl) ?_
            refine r_alloc (dst := some 12) 51 _ Tryz.tbzero rfl ?_
            intro wm B9 N9
            have gn := N9.gr
            have b2 := gn.blk b2
            have hO := gn.row hO
            try have bd := gn.blk bd
            have b9 : Blk wm B9 (tbC 0 (fun _ => 0)).toArray 51 := N9.blk
            have lo9 : w.heap.size ≤ B9 := Nat.le_trans gg.size N9.lo
            have gg := gg.trans gn
            obtain ⟨wn, rfl⟩ : ∃ wn : World, wn = wm := ⟨_, rfl⟩
            simp only [Act.put, List.setIfInBounds_toArray, List.set_cons_succ, List.set_cons_zero]
            refine ⟨fun _ => b2, ?_⟩
            refine F_one 6 #[true, true, true, true, true, true, true] rfl (by kernel_rfl) ?_
            refine r_store_row 51 51 _ _ B9 rfl (tbC c S).toArray _ rfl b9 (Tryz.tbsize _ _) (by simp only [List.size_toArray, tbC_length]) (tbC_one _ _) rfl ?_
            intro w9 u9 b99
            have gg := u9.gr gg lo9
            refine ⟨fun h => (by cases h), ?_⟩
            simp only [Act.put]
            refine F_done (by kernel_rfl) ?_
            have hsl := Tryz.tcut B9 c HCN
            have hc0 : w9.cell? ⟨B9, 0, none⟩ = some (.int .i64 (c : Int)) := (b99.cell 0).trans (by rw [List.getElem?_toArray]; rfl)
            go_wp2_with (first | (refine r_fld 51 _ 1 (.pointer (some ⟨B9, 0, none⟩)) (.pointer (some ⟨B9, 1, none⟩)) rfl (Tryz.tbf1 B9 _) rfl ?_) | (refine r_fld 51 _ 0 (.pointer (some ⟨B9, 0, none⟩)) (.pointer (some ⟨B9, 0, none⟩)) rfl (Tryz.tbf0 B9 _) rfl ?_) | (refine r_ldc 3 _ ⟨B9, 0, none⟩ (.int .i64 (c : Int)) rfl (Tryz.isAgg3 _) hc0 rfl ?_))
            go_loopw [13, 40] (fun nv iv wr => ∃ k : Nat, k ≤ c ∧ iv = .int .i64 k ∧ nv = .int .i64 (gnI S k) ∧ Blk wr B9 (tbC c S).toArray 51 ∧ Gr w wr) (fun _ iv _ => c - (intOf iv).toNat)
            case atStart => exact ⟨0, Nat.zero_le _, rfl, rfl, b99, gg⟩
            case round =>
              clear b99 gg hc0
              obtain ⟨k, hk, rfl, rfl, b99, gg⟩ := hrel
              by_cases hlt : k < c
              · have hcell : _ = some (Value.int .i64 (S k)) := (b99.cell (1 + k)).trans (by rw [List.getElem?_toArray]; exact tbC_get _ _ (by omega))
                have hb := gnI_le k (fun j hj => HSM.out j (by omega))
                have hx := HSM.out k hlt
                have hpow : (2 : Nat) ^ k ≤ 2 ^ 8 := Nat.pow_le_pow_right (by decide) (by omega)
                have HNX := hidI (gnI_succ S k)
                obtain ⟨v, hv⟩ : ∃ v, v = gnI S k := ⟨_, rfl⟩
                rw [← hv] at HNX hb ⊢
                obtain ⟨x, hxe⟩ : ∃ x, x = S k := ⟨_, rfl⟩
                rw [← hxe] at HNX hcell hx
                have hv1 : 0 ≤ v ∧ v ≤ 2048 := by omega
                have hix := Tryz.nsix1 B9 c 8 k hlt
                clear hb hpow hv hxe
                go_wp2_with (first | (refine r_idx 22 _ _ (.slice (some ⟨B9, 1, none⟩) c 8) (.int .i64 k) _ rfl rfl (hix _) rfl ?_) | (refine r_ldc 3 _ ⟨B9, 1 + k, none⟩ (.int .i64 x) rfl (Tryz.isAgg3 _) hcell rfl ?_))
                go_roundw
                case rel => exact ⟨k + 1, by omega, by go_num, by rw [HNX.out], b99, gg⟩
                case measure => simp [intOf]; omega
              · obtain rfl : k = c := by omega
                clear hlt
                go_wp2
                go_ret2
                exact ⟨by rw [HV.out, HC.out]; rfl, gg⟩
          · skip
            refine r_alloc (dst := some 12) 51 _ Tryz.tbzero rfl ?_
            intro wm B9 N9
            have gn := N9.gr
            have b2 := gn.blk b2
            have hO := gn.row hO
            try have bd := gn.blk bd
            have b9 : Blk wm B9 (tbC 0 (fun _ => 0)).toArray 51 := N9.blk
            have lo9 : w.heap.size ≤ B9 := Nat.le_trans gg.size N9.lo
            have gg := gg.trans gn
            obtain ⟨wn, rfl⟩ : ∃ wn : World, wn = wm := ⟨_, rfl⟩
            simp only [Act.put, List.setIfInBounds_toArray, List.set_cons_succ, List.set_cons_zero]
            refine ⟨fun _ => b2, ?_⟩
            refine F_one 4 #[true, true, true, true, true, true, false] rfl (by kernel_rfl) ?_
            refine r_call 22 [.tmp 33] _ [.agg (mcC c F2 slO).toArray] (.agg (tbC c S).toArray) (fun w' => Gr wn w') Tryz.call22 rfl rfl (HTB.out wn hO) ?_
            intro wm gn
            have b2 := gn.blk b2
            have hO := gn.row hO
            try have b9 := gn.blk b9
            have gg := gg.trans gn
            obtain ⟨wn, rfl⟩ : ∃ wn : World, wn = wm := ⟨_, rfl⟩
            simp only [Act.put, List.setIfInBounds_toArray, List.set_cons_succ, List.set_cons_zero]
            refine ⟨fun _ => b2, ?_⟩
            refine F_one 6 #[true, true, true, true, true, true, true] rfl (by kernel_rfl) ?_
            refine r_store_row 51 51 _ _ B9 rfl (tbC c S).toArray _ rfl b9 (Tryz.tbsize _ _) (by simp only [List.size_toArray, tbC_length]) (tbC_one _ _) rfl ?_
            intro w9 u9 b99
            have gg := u9.gr gg lo9
            refine ⟨fun h => (by cases h), ?_⟩
            simp only [Act.put]
            refine F_done (by kernel_rfl) ?_
            have hsl := Tryz.tcut B9 c HCN
            have hc0 : w9.cell? ⟨B9, 0, none⟩ = some (.int .i64 (c : Int)) := (b99.cell 0).trans (by rw [List.getElem?_toArray]; rfl)
            go_wp2_with (first | (refine r_fld 51 _ 1 (.pointer (some ⟨B9, 0, none⟩)) (.pointer (some ⟨B9, 1, none⟩)) rfl (Tryz.tbf1 B9 _) rfl ?_) | (refine r_fld 51 _ 0 (.pointer (some ⟨B9, 0, none⟩)) (.pointer (some ⟨B9, 0, none⟩)) rfl (Tryz.tbf0 B9 _) rfl ?_) | (refine r_ldc 3 _ ⟨B9, 0, none⟩ (.int .i64 (c : Int)) rfl (Tryz.isAgg3 _) hc0 rfl ?_))
            go_loopw [13, 40] (fun nv iv wr => ∃ k : Nat, k ≤ c ∧ iv = .int .i64 k ∧ nv = .int .i64 (gnI S k) ∧ Blk wr B9 (tbC c S).toArray 51 ∧ Gr w wr) (fun _ iv _ => c - (intOf iv).toNat)
            case atStart => exact ⟨0, Nat.zero_le _, rfl, rfl, b99, gg⟩
            case round =>
              clear b99 gg hc0
              obtain ⟨k, hk, rfl, rfl, b99, gg⟩ := hrel
              by_cases hlt : k < c
              · have hcell : _ = some (Value.int .i64 (S k)) := (b99.cell (1 + k)).trans (by rw [List.getElem?_toArray]; exact tbC_get _ _ (by omega))
                have hb := gnI_le k (fun j hj => HSM.out j (by omega))
                have hx := HSM.out k hlt
                have hpow : (2 : Nat) ^ k ≤ 2 ^ 8 := Nat.pow_le_pow_right (by decide) (by omega)
                have HNX := hidI (gnI_succ S k)
                obtain ⟨v, hv⟩ : ∃ v, v = gnI S k := ⟨_, rfl⟩
                rw [← hv] at HNX hb ⊢
                obtain ⟨x, hxe⟩ : ∃ x, x = S k := ⟨_, rfl⟩
                rw [← hxe] at HNX hcell hx
                have hv1 : 0 ≤ v ∧ v ≤ 2048 := by omega
                have hix := Tryz.nsix1 B9 c 8 k hlt
                clear hb hpow hv hxe
                go_wp2_with (first | (refine r_idx 22 _ _ (.slice (some ⟨B9, 1, none⟩) c 8) (.int .i64 k) _ rfl rfl (hix _) rfl ?_) | (refine r_ldc 3 _ ⟨B9, 1 + k, none⟩ (.int .i64 x) rfl (Tryz.isAgg3 _) hcell rfl ?_))
                go_roundw
                case rel => exact ⟨k + 1, by omega, by go_num, by rw [HNX.out], b99, gg⟩
                case measure => simp [intOf]; omega
              · obtain rfl : k = c := by omega
                clear hlt
                go_wp2
                go_ret2
                exact ⟨by rw [HV.out, HC.out]; rfl, gg⟩
        · skip
          refine r_alloc (dst := some 12) 51 _ Tryz.tbzero rfl ?_
          intro wm B9 N9
          have gn := N9.gr
          have b2 := gn.blk b2
          have hO := gn.row hO
          try have bd := gn.blk bd
          have b9 : Blk wm B9 (tbC 0 (fun _ => 0)).toArray 51 := N9.blk
          have lo9 : w.heap.size ≤ B9 := Nat.le_trans gg.size N9.lo
          have gg := gg.trans gn
          obtain ⟨wn, rfl⟩ : ∃ wn : World, wn = wm := ⟨_, rfl⟩
          simp only [Act.put, List.setIfInBounds_toArray, List.set_cons_succ, List.set_cons_zero]
          refine ⟨fun _ => b2, ?_⟩
          refine F_one 3 #[true, true, true, true, false, true, false] rfl (by kernel_rfl) ?_
          refine r_call 20 [.tmp 30, .tmp 32] _ [.agg (mcC c F1 slO).toArray, doV Bd] (.agg (mcC c F2 slO).toArray) (fun w' => Gr wn w') Tryz.call20 rfl rfl (HDN.out wn Bd bd) ?_
          intro wm gn
          have b2 := gn.blk b2
          have hO := gn.row hO
          try have b9 := gn.blk b9
          have gg := gg.trans gn
          obtain ⟨wn, rfl⟩ : ∃ wn : World, wn = wm := ⟨_, rfl⟩
          simp only [Act.put, List.setIfInBounds_toArray, List.set_cons_succ, List.set_cons_zero]
          refine ⟨fun _ => b2, ?_⟩
          refine F_one 4 #[true, true, true, true, true, true, false] rfl (by kernel_rfl) ?_
          refine r_call 22 [.tmp 33] _ [.agg (mcC c F2 slO).toArray] (.agg (tbC c S).toArray) (fun w' => Gr wn w') Tryz.call22 rfl rfl (HTB.out wn hO) ?_
          intro wm gn
          have b2 := gn.blk b2
          have hO := gn.row hO
          try have b9 := gn.blk b9
          have gg := gg.trans gn
          obtain ⟨wn, rfl⟩ : ∃ wn : World, wn = wm := ⟨_, rfl⟩
          simp only [Act.put, List.setIfInBounds_toArray, List.set_cons_succ, List.set_cons_zero]
          refine ⟨fun _ => b2, ?_⟩
          refine F_one 6 #[true, true, true, true, true, true, true] rfl (by kernel_rfl) ?_
          refine r_store_row 51 51 _ _ B9 rfl (tbC c S).toArray _ rfl b9 (Tryz.tbsize _ _) (by simp only [List.size_toArray, tbC_length]) (tbC_one _ _) rfl ?_
          intro w9 u9 b99
          have gg := u9.gr gg lo9
          refine ⟨fun h => (by cases h), ?_⟩
          simp only [Act.put]
          refine F_done (by kernel_rfl) ?_
          have hsl := Tryz.tcut B9 c HCN
          have hc0 : w9.cell? ⟨B9, 0, none⟩ = some (.int .i64 (c : Int)) := (b99.cell 0).trans (by rw [List.getElem?_toArray]; rfl)
          go_wp2_with (first | (refine r_fld 51 _ 1 (.pointer (some ⟨B9, 0, none⟩)) (.pointer (some ⟨B9, 1, none⟩)) rfl (Tryz.tbf1 B9 _) rfl ?_) | (refine r_fld 51 _ 0 (.pointer (some ⟨B9, 0, none⟩)) (.pointer (some ⟨B9, 0, none⟩)) rfl (Tryz.tbf0 B9 _) rfl ?_) | (refine r_ldc 3 _ ⟨B9, 0, none⟩ (.int .i64 (c : Int)) rfl (Tryz.isAgg3 _) hc0 rfl ?_))
          go_loopw [13, 40] (fun nv iv wr => ∃ k : Nat, k ≤ c ∧ iv = .int .i64 k ∧ nv = .int .i64 (gnI S k) ∧ Blk wr B9 (tbC c S).toArray 51 ∧ Gr w wr) (fun _ iv _ => c - (intOf iv).toNat)
          case atStart => exact ⟨0, Nat.zero_le _, rfl, rfl, b99, gg⟩
          case round =>
            clear b99 gg hc0
            obtain ⟨k, hk, rfl, rfl, b99, gg⟩ := hrel
            by_cases hlt : k < c
            · have hcell : _ = some (Value.int .i64 (S k)) := (b99.cell (1 + k)).trans (by rw [List.getElem?_toArray]; exact tbC_get _ _ (by omega))
              have hb := gnI_le k (fun j hj => HSM.out j (by omega))
              have hx := HSM.out k hlt
              have hpow : (2 : Nat) ^ k ≤ 2 ^ 8 := Nat.pow_le_pow_right (by decide) (by omega)
              have HNX := hidI (gnI_succ S k)
              obtain ⟨v, hv⟩ : ∃ v, v = gnI S k := ⟨_, rfl⟩
              rw [← hv] at HNX hb ⊢
              obtain ⟨x, hxe⟩ : ∃ x, x = S k := ⟨_, rfl⟩
              rw [← hxe] at HNX hcell hx
              have hv1 : 0 ≤ v ∧ v ≤ 2048 := by omega
              have hix := Tryz.nsix1 B9 c 8 k hlt
              clear hb hpow hv hxe
              go_wp2_with (first | (refine r_idx 22 _ _ (.slice (some ⟨B9, 1, none⟩) c 8) (.int .i64 k) _ rfl rfl (hix _) rfl ?_) | (refine r_ldc 3 _ ⟨B9, 1 + k, none⟩ (.int .i64 x) rfl (Tryz.isAgg3 _) hcell rfl ?_))
              go_roundw
              case rel => exact ⟨k + 1, by omega, by go_num, by rw [HNX.out], b99, gg⟩
              case measure => simp [intOf]; omega
            · obtain rfl : k = c := by omega
              clear hlt
              go_wp2
              go_ret2
              exact ⟨by rw [HV.out, HC.out]; rfl, gg⟩
      · skip
        refine r_alloc (dst := some 12) 51 _ Tryz.tbzero rfl ?_
        intro wm B9 N9
        have gn := N9.gr
        have b2 := gn.blk b2
        have hO := gn.row hO
        try have bd := gn.blk bd
        have b9 : Blk wm B9 (tbC 0 (fun _ => 0)).toArray 51 := N9.blk
        have lo9 : w.heap.size ≤ B9 := Nat.le_trans gg.size N9.lo
        have gg := gg.trans gn
        obtain ⟨wn, rfl⟩ : ∃ wn : World, wn = wm := ⟨_, rfl⟩
        simp only [Act.put, List.setIfInBounds_toArray, List.set_cons_succ, List.set_cons_zero]
        refine ⟨fun _ => b2, ?_⟩
        refine F_one 2 #[true, true, true, false, false, true, false] rfl (by kernel_rfl) ?_
        refine r_callx 21 [.tmp 31] _ [.string u] (fun v w' => Gr wn w' ∧ ∃ B, v = doV B ∧ Blk w' B #[.string u] 9) Tryz.call21 rfl rfl ((doingOf_any u wn).mono fun e w' h => by obtain ⟨g, B, h1, h2⟩ := h; exact ⟨_, h1, g, B, rfl, h2⟩) ?_
        rintro vd wm ⟨gn, Bd, rfl, bd⟩
        have b2 := gn.blk b2
        have hO := gn.row hO
        try have b9 := gn.blk b9
        have gg := gg.trans gn
        obtain ⟨wn, rfl⟩ : ∃ wn : World, wn = wm := ⟨_, rfl⟩
        simp only [Act.put, List.setIfInBounds_toArray, List.set_cons_succ, List.set_cons_zero]
        refine ⟨fun _ => b2, ?_⟩
        refine F_one 3 #[true, true, true, true, false, true, false] rfl (by kernel_rfl) ?_
        refine r_call 20 [.tmp 30, .tmp 32] _ [.agg (mcC c F1 slO).toArray, doV Bd] (.agg (mcC c F2 slO).toArray) (fun w' => Gr wn w') Tryz.call20 rfl rfl (HDN.out wn Bd bd) ?_
        intro wm gn
        have b2 := gn.blk b2
        have hO := gn.row hO
        try have b9 := gn.blk b9
        have gg := gg.trans gn
        obtain ⟨wn, rfl⟩ : ∃ wn : World, wn = wm := ⟨_, rfl⟩
        simp only [Act.put, List.setIfInBounds_toArray, List.set_cons_succ, List.set_cons_zero]
        refine ⟨fun _ => b2, ?_⟩
        refine F_one 4 #[true, true, true, true, true, true, false] rfl (by kernel_rfl) ?_
        refine r_call 22 [.tmp 33] _ [.agg (mcC c F2 slO).toArray] (.agg (tbC c S).toArray) (fun w' => Gr wn w') Tryz.call22 rfl rfl (HTB.out wn hO) ?_
        intro wm gn
        have b2 := gn.blk b2
        have hO := gn.row hO
        try have b9 := gn.blk b9
        have gg := gg.trans gn
        obtain ⟨wn, rfl⟩ : ∃ wn : World, wn = wm := ⟨_, rfl⟩
        simp only [Act.put, List.setIfInBounds_toArray, List.set_cons_succ, List.set_cons_zero]
        refine ⟨fun _ => b2, ?_⟩
        refine F_one 6 #[true, true, true, true, true, true, true] rfl (by kernel_rfl) ?_
        refine r_store_row 51 51 _ _ B9 rfl (tbC c S).toArray _ rfl b9 (Tryz.tbsize _ _) (by simp only [List.size_toArray, tbC_length]) (tbC_one _ _) rfl ?_
        intro w9 u9 b99
        have gg := u9.gr gg lo9
        refine ⟨fun h => (by cases h), ?_⟩
        simp only [Act.put]
        refine F_done (by kernel_rfl) ?_
        have hsl := Tryz.tcut B9 c HCN
        have hc0 : w9.cell? ⟨B9, 0, none⟩ = some (.int .i64 (c : Int)) := (b99.cell 0).trans (by rw [List.getElem?_toArray]; rfl)
        go_wp2_with (first | (refine r_fld 51 _ 1 (.pointer (some ⟨B9, 0, none⟩)) (.pointer (some ⟨B9, 1, none⟩)) rfl (Tryz.tbf1 B9 _) rfl ?_) | (refine r_fld 51 _ 0 (.pointer (some ⟨B9, 0, none⟩)) (.pointer (some ⟨B9, 0, none⟩)) rfl (Tryz.tbf0 B9 _) rfl ?_) | (refine r_ldc 3 _ ⟨B9, 0, none⟩ (.int .i64 (c : Int)) rfl (Tryz.isAgg3 _) hc0 rfl ?_))
        go_loopw [13, 40] (fun nv iv wr => ∃ k : Nat, k ≤ c ∧ iv = .int .i64 k ∧ nv = .int .i64 (gnI S k) ∧ Blk wr B9 (tbC c S).toArray 51 ∧ Gr w wr) (fun _ iv _ => c - (intOf iv).toNat)
        case atStart => exact ⟨0, Nat.zero_le _, rfl, rfl, b99, gg⟩
        case round =>
          clear b99 gg hc0
          obtain ⟨k, hk, rfl, rfl, b99, gg⟩ := hrel
          by_cases hlt : k < c
          · have hcell : _ = some (Value.int .i64 (S k)) := (b99.cell (1 + k)).trans (by rw [List.getElem?_toArray]; exact tbC_get _ _ (by omega))
            have hb := gnI_le k (fun j hj => HSM.out j (by omega))
            have hx := HSM.out k hlt
            have hpow : (2 : Nat) ^ k ≤ 2 ^ 8 := Nat.pow_le_pow_right (by decide) (by omega)
            have HNX := hidI (gnI_succ S k)
            obtain ⟨v, hv⟩ : ∃ v, v = gnI S k := ⟨_, rfl⟩
            rw [← hv] at HNX hb ⊢
            obtain ⟨x, hxe⟩ : ∃ x, x = S k := ⟨_, rfl⟩
            rw [← hxe] at HNX hcell hx
            have hv1 : 0 ≤ v ∧ v ≤ 2048 := by omega
            have hix := Tryz.nsix1 B9 c 8 k hlt
            clear hb hpow hv hxe
            go_wp2_with (first | (refine r_idx 22 _ _ (.slice (some ⟨B9, 1, none⟩) c 8) (.int .i64 k) _ rfl rfl (hix _) rfl ?_) | (refine r_ldc 3 _ ⟨B9, 1 + k, none⟩ (.int .i64 x) rfl (Tryz.isAgg3 _) hcell rfl ?_))
            go_roundw
            case rel => exact ⟨k + 1, by omega, by go_num, by rw [HNX.out], b99, gg⟩
            case measure => simp [intOf]; omega
          · obtain rfl : k = c := by omega
            clear hlt
            go_wp2
            go_ret2
            exact ⟨by rw [HV.out, HC.out]; rfl, gg⟩
  · have hok : gnOk s.data.toList I o u = false := by
      unfold gnOk gtOk
      unfold gtIn at hyn
      by_cases h2 : I.length = 2
      · have h3 : (rdOk s.data.toList && mcIn (rdG s.data.toList) I [o]) = false := by
          rw [← Bool.not_eq_true]
          exact fun h => hyn ⟨h2, h⟩
        rw [h3]; rfl
      · rw [decide_eq_false h2, Bool.and_false]
    have HN := hidI (readGate_no s I o bI slI w hm hs hyn hI wI wo)
    have HC := hidI hok
    have HV := hidI (show gnV s.data.toList I o u = 0 from by unfold gnV; rw [hok]; rfl)
    clear hok hyn wI wo
    go_enter Tryz.func13, Tryz.ntmps13
    go_wp2_with (first | (go_at_call 26; refine (HN.out).mono ?_; rintro e w1 ⟨rfl, g1⟩; have gg := gg.trans g1; have z1 := g1.size) | (refine r_alloc (dst := some 10) 45 _ Tryz.mzero rfl ?_; intro w2 B2 N2; have g2 := N2.gr; have b2 : Blk w2 B2 ((mcC 0 (fun _ => g0) (.slice none 0 0)).toArray) 45 := N2.blk; have l2 := N2.lo; have t2 := N2.hi; have z2 := g2.size; have gg := gg.trans g2; clear N2) | (refine r_store_row 45 45 _ _ B2 rfl (mcC 0 (fun _ => g0) (.slice none 0 0)).toArray _ rfl b2 (Tryz.msize _ _ _) (by simp only [List.size_toArray, mcC_length]) (mcC_one _ _ _ rfl) rfl ?_; intro w3 u3 b23; have gg := u3.gr gg (by omega)))
    go_ret2
    exact ⟨by rw [HV.out, HC.out]; rfl, gg⟩
set_option maxHeartbeats 2000000 in
set_option maxRecDepth 100000 in
theorem lawGateNumber (s : ByteArray) (z1 : Option Addr) (c1 : Nat) (I : List Int) (o : Int) (u : ByteArray) (w : World)
    (hs1 : Rd w z1 I.length (intsV I)) (_hb1 : I.length ≤ 9223372036854775807) (hw1 : ∀ k, k < I.length → (Lit.int .i64 (gi I k)).wf = true) (wo : (Lit.int .i64 o).wf = true) (hm : ML w) :
    Calls Tryz.prog 4 #[.string s, .slice z1 I.length c1, .int .i64 o, .string u] w (Ret (.bool true) w) := by
  have gg := Gr.refl w
  by_cases h1 : 1048576 < s.size
  · go_enter Tryz.func4, Tryz.ntmps4
    go_wp2
    go_ret
    exact ⟨rfl, gg⟩
  have hs : s.size ≤ 1048576 := by omega
  clear h1
  by_cases h2 : 1048576 < I.length
  · go_enter Tryz.func4, Tryz.ntmps4
    go_wp2
    go_ret
    exact ⟨rfl, gg⟩
  have hI : I.length ≤ 1048576 := by omega
  clear h2
  by_cases h4 : 1048576 < u.size
  · go_enter Tryz.func4, Tryz.ntmps4
    go_wp2
    go_ret
    exact ⟨rfl, gg⟩
  have hu : u.size ≤ 1048576 := by omega
  clear h4
  have HT1 := hidI (fun (w' : World) (g : Gr w w') => toInts_any z1 c1 I w' (hs1.gr g) hI)
  have HSP := hidI (fun (w' : World) (b1 : Nat) (v1 : Value) (h1 : w'.ownsRow b1 3 1 v1 I.length (intsV I)) => sGateNumber s u I o b1 v1 w' hs h1)
  have HIM := hidI (fun (w' : World) (g : Gr w w') (b1 : Nat) (v1 : Value) (h1 : w'.ownsRow b1 3 1 v1 I.length (intsV I)) => iGateNumber s u I o b1 v1 w' (g.ml hm) hs h1 hw1 wo)
  obtain ⟨gv, hgv⟩ : ∃ gv, gv = gnV s.data.toList I o u := ⟨_, rfl⟩
  obtain ⟨ok, hok⟩ : ∃ ok, ok = gnOk s.data.toList I o u := ⟨_, rfl⟩
  rw [← hgv, ← hok] at HSP HIM
  clear hgv hok hw1 hs1 hm wo
  go_enter Tryz.func4, Tryz.ntmps4
  go_wp2_with fail
  refine (HT1.out _ gg).mono ?_
  rintro e wm ⟨ga, va, rfl, owa⟩
  obtain ⟨wn, rfl⟩ : ∃ wn : World, wn = wm := ⟨_, rfl⟩
  have gg := gg.trans ga
  go_wp2_with fail
  refine (HSP.out _ _ _ owa).mono ?_
  rintro e w2 ⟨rfl, g2⟩
  have gg := gg.trans g2
  go_wp2_with fail
  refine (HT1.out _ gg).mono ?_
  rintro e wm ⟨gd, vx, rfl, owx⟩
  obtain ⟨wn, rfl⟩ : ∃ wn : World, wn = wm := ⟨_, rfl⟩
  have gg := gg.trans gd
  go_wp2_with fail
  refine (HIM.out _ gg _ _ owx).mono ?_
  rintro e w3 ⟨rfl, g3⟩
  have owx := g3.row owx
  have gg := gg.trans g3
  go_wp2_with fail
  refine (HT1.out _ gg).mono ?_
  rintro e wm ⟨gh, vt, rfl, owt⟩
  obtain ⟨wn, rfl⟩ : ∃ wn : World, wn = wm := ⟨_, rfl⟩
  have owx := gh.row owx
  have gg := gg.trans gh
  go_wp2_with fail
  refine (eqIntS_any vx vt I I _ _ _ owx owt hI).mono ?_
  rintro e w4 ⟨rfl, g4⟩
  rw [decide_eq_true rfl]
  have gg := gg.trans g4
  go_wp2
  go_ret
  exact ⟨rfl, gg⟩
end Go.Proofs.YtcjmikafomlbiaaGreatDoor
