/-
  Ways through a tray: the search from a cell, in the program.
-/
import Derived.Test.YtdebiobhmpoiiaaDoorWayR
namespace Go.Proofs.YtdebiobhmpoiiaaDoor
open Go.RowKit
/-- How many cells of a row are below nought, read off the world. -/
def negW (w : World) (G N : Nat) : Nat := (List.range N).countP fun j => match w.cell? ⟨G, j, none⟩ with | some (.int _ x) => decide (x < 0) | _ => false
theorem countP_range (l : List Int) : (List.range l.length).countP (fun j => decide (gi l j < 0)) = negs l := by
  unfold negs
  have e : l = (List.range l.length).map (gi l) := by
    apply List.ext_getElem
    · simp
    · intro i h1 h2
      simp [gi, List.getD_eq_getElem?_getD, h1]
  conv => rhs; rw [e]
  rw [List.countP_map]
  rfl
theorem negW_eq {w : World} {base : Nat} {e : TypeId} {G n cap : Nat} {L : List Int} (h : w.ownsRow base e 1 (.slice (some ⟨G, 0, none⟩) n cap) n (intsV L)) (hn : n = L.length) : negW w G n = negs L := by
  rw [← countP_range, ← hn]
  unfold negW
  refine List.countP_congr fun j hj => ?_
  rw [own_int h j (by simpa using hj) hn]
def slLen : Value → Nat
  | .slice _ n _ => n
  | _ => 0
theorem intsV_cons (x : Int) (L : List Int) : intsV (x :: L) = .int .i64 x :: intsV L := rfl
theorem intsV_length (L : List Int) : (intsV L).length = L.length := by simp [intsV]
theorem natsI_cons (n : Nat) (q : List Nat) : intsV (natsI (n :: q)) = .int .i64 n :: intsV (natsI q) := rfl
theorem natsI_snoc (q : List Nat) (n : Nat) : intsV (natsI q) ++ [.int .i64 n] = intsV (natsI (q ++ [n])) := by simp [intsV, natsI]
theorem nq_length (q : List Nat) : (intsV (natsI q)).length = q.length := by simp [intsV, natsI]
theorem QRow.len {w : World} {base : Nat} {e : TypeId} {v : Value} {q : List Nat} (h : QRow w base e v (intsV (natsI q))) : slLen v = q.length := by
  obtain ⟨g, off, cap, cur, rfl, -⟩ := h
  exact nq_length q
theorem near_get {W H i t : Nat} (h : t < (nearL W H i).length) : ∃ j, (nearL W H i)[t]? = some j ∧ gi (natsI (nearL W H i)) t = (j : Int) := by
  refine ⟨(nearL W H i)[t], by simp [h], ?_⟩
  unfold gi natsI
  rw [List.getD_eq_getElem?_getD, List.getElem?_map, List.getElem?_eq_getElem h]
  rfl
theorem Tryd.wix (g off n cap k : Nat) (hk : k < n) (w : World) : (Instr.indexAt 34 (.slice (some ⟨g, off, none⟩) n cap) (.int .i64 k)).run Tryd.prog w = .ok (.pointer (some ⟨g, off + k, none⟩)) w := by
  have he : Tryd.prog.elem 34 = 3 := by kernel_rfl
  have hu : Tryd.prog.underlying 34 = some (.slice (Tryd.prog.elem 34)) := by rw [he]; exact Tryd.underlying34
  have hs : (sizeOf 3).run Tryd.prog w = .ok 1 w := by kernel_rfl
  rw [run_indexAt_slice w 34 ⟨g, off, none⟩ n cap .i64 k hu, if_pos (by omega), he]
  simp [hs, Result.andThen, add_off]
theorem Tryd.wix0 (g n cap k : Nat) (hk : k < n) (w : World) : (Instr.indexAt 34 (.slice (some ⟨g, 0, none⟩) n cap) (.int .i64 k)).run Tryd.prog w = .ok (.pointer (some ⟨g, k, none⟩)) w := by
  have := Tryd.wix g 0 n cap k hk w
  rwa [Nat.zero_add] at this
theorem Tryd.wixh (g off n cap : Nat) (hn : 0 < n) (w : World) : (Instr.indexAt 34 (.slice (some ⟨g, off, none⟩) n cap) (.int .i64 0)).run Tryd.prog w = .ok (.pointer (some ⟨g, off, none⟩)) w := Tryd.wix g off n cap 0 hn w
theorem Tryd.wpop (g off n cap : Nat) (hn : 1 ≤ n) (w : World) : (Instr.sliceAt 34 (.slice (some ⟨g, off, none⟩) n cap) (some (.int .i64 1)) none none).run Tryd.prog w = .ok (.slice (if cap = 1 then some ⟨g, off, none⟩ else some ⟨g, off + 1, none⟩) (n - 1) (cap - 1)) w := by
  have hu : Tryd.prog.underlying 34 = some (.slice (Tryd.prog.elem 34)) := by kernel_rfl
  have he : Tryd.prog.elem 34 = 3 := by kernel_rfl
  rw [run_sliceAt_slice w 34 _ _ _ _ hu]
  have := run_slice_l w 34 (some ⟨g, off, none⟩) n cap hu .i64 1 (by omega) (by omega)
  rw [this, he]
  simp [Tryd.sizeOf3, Result.andThen, sliced, add_off]
theorem Tryd.gw2 (B : Nat) (w : World) : (Instr.fieldAt 72 (.pointer (some ⟨B, 0, none⟩)) 2).run Tryd.prog w = .ok (.pointer (some ⟨B, 2, none⟩)) w := by kernel_rfl
set_option maxHeartbeats 4000000 in
set_option maxRecDepth 100000 in
theorem stepsFrom_any (W H s : Nat) (c : List UInt8) (w : World) (hw1 : 1 ≤ W) (hw7 : W ≤ 7) (hh7 : H ≤ 7) (hs : s < nn W H) (h36 : nn W H ≤ 36) :
    Calls Tryd.prog 163 #[.agg (gv W H c), .int .i64 s] w (RetRow 3 (farL W H c s) w) := by
  have gg := Gr.refl w
  obtain ⟨N, hN⟩ : ∃ N, N = nn W H := ⟨_, rfl⟩
  have HNN := hidI hN
  have hN1 : 1 ≤ N := by omega
  have hN36 : N ≤ 36 := by omega
  have hsN : s < N := by omega
  have HCA := hidI (fun (w : World) => show Calls Tryd.prog 70 #[.agg (gv W H c)] w (Ret (.int .i64 N) w) from by rw [hN]; exact countAll_any W H c w hw7 hh7)
  obtain ⟨R, hR⟩ : ∃ R, R = farL W H c s := ⟨_, rfl⟩
  rw [← hR]
  have HRL := hidI (show R.length = N from by rw [hR, hN]; exact (farL_ok hs).1)
  have HR := hidI hR
  have hix := Tryd.gix
  clear hN hR
  have hgx := fun B w => Tryd.gix B s (by omega) w
  have HRP := hidI (fun (B : Nat) (w : World) (h : Blk w B #[.int .i64 (-1)] 3) => show Calls Tryd.prog 186 #[.slice (some ⟨B, 0, none⟩) 1 1, .int .i64 N] w fun e w' => Gr w w' ∧ ∃ G cap, e = .returned (.slice (some ⟨G, 0, none⟩) N cap) ∧ w.heap.size ≤ G ∧ w'.ownsRow w.heap.size 3 1 (.slice (some ⟨G, 0, none⟩) N cap) N (intsV (List.replicate N (-1))) from
    (repeat_any N B w h hN1 hN36).mono fun e w' ⟨g, v, he, ho⟩ => by
      rw [List.length_replicate] at ho
      obtain ⟨G, cap, rfl, hlo, -⟩ := own_shape ho hN1
      exact ⟨g, G, cap, he, hlo, ho⟩)
  cases hwall : decide (at0 c s = 35) with
  | true =>
    have hw35 : at0 c s = 35 := of_decide_eq_true hwall
    have HV := hidI (show List.replicate N (-1) = R from by rw [HR.out]; unfold farL; rw [if_pos hw35, HNN.out])
    have e1 : (((at0 c s).toNat : Int) == 35) = true := beq_byte hw35
    clear hwall hw35
    go_enter Tryd.func163, Tryd.ntmps163
    go_wp2_with (first | (refine r_box 72 _ (gv W H c) rfl rfl ?_; intro w1 B1 N1; have g1 := N1.gr; have b1 : Blk w1 B1 (gv W H c) 72 := N1.blk; have l1 := N1.lo; have t1 := N1.hi; have z1 := g1.size; have gg := gg.trans g1; clear N1; obtain ⟨b1_0, b1_1, b1_2⟩ := gcells b1) | (refine r_slice1 34 3 _ (.int .i64 (-1)) rfl (Tryd.bsi1 _ _) rfl ?_; intro w2 B2 N2; have g2 := N2.gr; have b1 := g2.blk b1; obtain ⟨b1_0, b1_1, b1_2⟩ := gcells b1; have hb2 := N2.blk; have gg := gg.trans g2; have z2 := g2.size) | (refine r_load_row 72 _ _ rfl _ _ _ b1 Tryd.underlying72 rfl (Tryd.ginfo' _ _ _) rfl ?_) | (go_at_call 70; refine (HCA.out _).mono ?_; rintro e w3 ⟨rfl, g3⟩; have b1 := g3.blk b1; obtain ⟨b1_0, b1_1, b1_2⟩ := gcells b1; have hb2 := g3.blk hb2; have gg := gg.trans g3; have z3 := g3.size) | (go_at_call 186; refine (HRP.out _ _ hb2).mono ?_; rintro e w4 ⟨g4, G, cap, rfl, lo4, own4⟩; have b1 := g4.blk b1; obtain ⟨b1_0, b1_1, b1_2⟩ := gcells b1; have gg := gg.trans g4; have hb1s := b1_2 s (by omega)))
    go_ret
    refine ⟨gg, _, rfl, ?_⟩
    rw [← HV.out, List.length_replicate]
    exact own_up own4 (by omega)
  | false =>
    have hw35 : ¬ at0 c s = 35 := of_decide_eq_false hwall
    have HV := hidI (show bfR (fun j => at0 c j != 35) W H N ((List.replicate N (-1)).set s 0) [s] = R from by rw [HR.out]; unfold farL; rw [if_neg hw35, HNN.out])
    have e1 : (((at0 c s).toNat : Int) == 35) = false := bne_byte hw35
    obtain ⟨ok, hok⟩ : ∃ ok : Nat → Bool, ok = fun j => at0 c j != 35 := ⟨_, rfl⟩
    rw [← hok] at HV
    have HOK := hidI hok
    obtain ⟨f0, hf0⟩ : ∃ f, f = (List.replicate N (-1 : Int)).set s 0 := ⟨_, rfl⟩
    rw [← hf0] at HV
    have HB0 := hidI (show Bf N f0 [s] ∧ negs f0 + 1 = N from by rw [hf0]; exact bf_start hsN)
    have HS0 := hidI (show (intsV (List.replicate N (-1))).set s (.int .i64 0) = intsV f0 from by rw [hf0, intsV_set])
    have HNE := hidI (fun (i : Nat) (w : World) (hi : i < N) => neighboursOf_any W H i c w hw1 hw7 hh7 (by rw [← HNN.out]; exact hi) h36)
    clear hwall hw35 hok hf0
    go_enter Tryd.func163, Tryd.ntmps163
    go_wp2_with (first | (refine r_box 72 _ (gv W H c) rfl rfl ?_; intro w1 B1 N1; have g1 := N1.gr; have b1 : Blk w1 B1 (gv W H c) 72 := N1.blk; have l1 := N1.lo; have t1 := N1.hi; have z1 := g1.size; have gg := gg.trans g1; clear N1; obtain ⟨b1_0, b1_1, b1_2⟩ := gcells b1) | (refine r_slice1 34 3 _ (.int .i64 (-1)) rfl (Tryd.bsi1 _ _) rfl ?_; intro w2 B2 N2; have g2 := N2.gr; have b1 := g2.blk b1; obtain ⟨b1_0, b1_1, b1_2⟩ := gcells b1; have hb2 := N2.blk; have gg := gg.trans g2; have z2 := g2.size) | (refine r_load_row 72 _ _ rfl _ _ _ b1 Tryd.underlying72 rfl (Tryd.ginfo' _ _ _) rfl ?_) | (go_at_call 70; refine (HCA.out _).mono ?_; rintro e w3 ⟨rfl, g3⟩; have b1 := g3.blk b1; obtain ⟨b1_0, b1_1, b1_2⟩ := gcells b1; have hb2 := g3.blk hb2; have gg := gg.trans g3; have z3 := g3.size) | (go_at_call 186; refine (HRP.out _ _ hb2).mono ?_; rintro e w4 ⟨g4, G, cap, rfl, lo4, own4⟩; have b1 := g4.blk b1; obtain ⟨b1_0, b1_1, b1_2⟩ := gcells b1; have gg := gg.trans g4; have hb1s := b1_2 s (by omega); have z4 := g4.size; have hGB : B1 < G := (by omega)) | (refine r_idx 34 _ _ (.slice (some ⟨G, 0, none⟩) N cap) (.int .i64 s) _ rfl rfl (Tryd.wix0 G N cap s hsN _) rfl ?_) | (refine r_store_own 3 3 _ _ G s N cap _ _ rfl (.int .i64 0) rfl own4 hsN Tryd.sizeOf3 rfl rfl ?_; intro w5 u5 own5; rw [HS0.out] at own5; have b1 := u5.blk b1 (by omega); have gg := u5.gr gg (by omega); have z5 := u5.size; have hG5 := (own5.lt G rfl).2) | (refine r_slice1 34 3 _ (.int .i64 s) rfl (Tryd.bsi1 _ _) rfl ?_; intro w6 B6 N6; have g6 := N6.gr; have own6 := g6.row own5; have b1 := g6.blk b1; have gg := gg.trans g6; have z6 := g6.size; have q6 := own_made (l := [.int .i64 s]) (base := w5.heap.size) (m := 1) N6 (Nat.le_refl _) rfl))
    have own := own_up own6 (b0 := w.heap.size) (by omega)
    have hq := QRow.of_own q6
    obtain ⟨b6, hb6⟩ : ∃ b, b = w5.heap.size := ⟨_, rfl⟩
    rw [← hb6] at hq hG5
    have hb6' : b6 ≤ w6.heap.size := by omega
    clear own6 own5 own4 q6 hb2 b1_0 b1_1 b1_2 hb1s
    have hB6 : B1 < b6 := by omega
    go_loopw [6] (fun qv wr => ∃ (far : List Int) (q : List Nat), QRow wr b6 3 qv (intsV (natsI q)) ∧ wr.ownsRow w.heap.size 3 1 (.slice (some ⟨G, 0, none⟩) N cap) N (intsV far) ∧ Bf N far q ∧ negs far + q.length ≤ N ∧ Hid (∃ f, negs far + q.length ≤ f ∧ bfR ok W H f far q = R) ∧ Blk wr B1 (gv W H c) 72 ∧ Gr w wr ∧ b6 ≤ wr.heap.size) (fun qv wr => negW wr G N + slLen qv)
    case atStart => exact ⟨f0, [s], hq, own, HB0.out.1, by have := HB0.out.2; show negs f0 + 1 ≤ N; omega, hidI ⟨N, by have := HB0.out.2; show negs f0 + 1 ≤ N; omega, HV.out⟩, b1, gg, hb6'⟩
    case round =>
      clear own hq b1 gg
      obtain ⟨far, q, hq, own, hbf, hpot, HF, b1, gg, zb⟩ := hrel
      obtain ⟨wo, rfl⟩ : ∃ wo : World, wo = wr := ⟨_, rfl⟩
      cases q with
      | nil =>
        obtain ⟨g, off, qc, cur, rfl, -⟩ := hq
        have e0 : (intsV (natsI [])).length = 0 := rfl
        rw [e0]
        have HFR := hidI (show far = R from by obtain ⟨f, -, h⟩ := HF.out; rw [bfR_nil] at h; exact h)
        clear e0 hbf
        go_wp2
        go_ret
        refine ⟨gg, _, rfl, ?_⟩
        rw [HRL.out, ← HFR.out]
        exact own
      | cons n q =>
        obtain ⟨g, off, qc, hv, hqc, hcell, hq1⟩ := QRow.pop (x := .int .i64 (n : Int)) (xs := intsV (natsI q)) hq
        rw [nq_length] at hv hq1
        rw [List.length_cons] at hpot
        subst hv
        obtain ⟨hnN, hn0⟩ := hbf.inq n List.mem_cons_self
        have hb' : Bf N far q := ⟨hbf.len, fun m hm => hbf.inq m (List.mem_cons_of_mem _ hm), hbf.hi⟩
        have hxn := hbf.hi n hnN
        have hng := negs_le far
        obtain ⟨P1, hP1⟩ : ∃ P1, P1 = (if qc = 1 then some (⟨g, off, none⟩ : Addr) else some ⟨g, off + 1, none⟩) := ⟨_, rfl⟩
        rw [← hP1] at hq1
        have HPOP := hidI (fun (w : World) => show (Instr.sliceAt 34 (.slice (some ⟨g, off, none⟩) (q.length + 1) qc) (some (.int .i64 1)) none none).run Tryd.prog w = .ok (.slice P1 q.length (qc - 1)) w from by rw [hP1]; exact Tryd.wpop g off (q.length + 1) qc (by omega) w)
        obtain ⟨L, hL⟩ : ∃ L, L = (nearL W H n).length := ⟨_, rfl⟩
        have HL := hidI hL
        have hL4 : L ≤ 4 := by rw [hL]; exact nearL_le _ _ _
        have HN1 := hidI (fun (w : World) => show Calls Tryd.prog 164 #[.agg (gv W H c), .int .i64 n] w fun e w' => Gr w w' ∧ ∃ p m, e = .returned (.slice p L m) ∧ w'.ownsRow w.heap.size 3 1 (.slice p L m) L (intsV (natsI (nearL W H n))) from
          (HNE.out n w hnN).mono fun e w' ⟨g, v, he, ho⟩ => by
            rw [natsI_length, ← hL] at ho
            obtain ⟨p, m, k, rfl⟩ := own_slice ho
            obtain rfl : m = L := own_len ho
            exact ⟨g, p, k, he, ho⟩)
        have HME := hidI (show negW wo G N + slLen (.slice (some ⟨g, off, none⟩) (q.length + 1) qc) = negs far + (q.length + 1) from by rw [negW_eq own hbf.len.symm]; rfl)
        have HF2 := hidI (show ∃ f, negs far + q.length ≤ f ∧ bfR ok W H f ((nearL W H n).foldl (rlx ok n) (far, q)).1 ((nearL W H n).foldl (rlx ok n) (far, q)).2 = R from by
          obtain ⟨f, h1, h2⟩ := HF.out
          rw [List.length_cons] at h1
          obtain ⟨f', rfl⟩ : ∃ f', f = f' + 1 := ⟨f - 1, by omega⟩
          exact ⟨f', by omega, h2⟩)
        have HBF := hidI hb'
        have HQL := hidI (fun k hk => (hq1.lt k hk).2)
        have HLT := hidI (fun j (hj : j ∈ nearL W H n) => show j < N from by rw [HNN.out]; exact nearL_lt (by rw [← HNN.out]; exact hnN) j hj)
        clear hL hP1 hq hbf hb' HF
        go_wp2_with (first | (refine r_idx 34 _ _ (.slice (some ⟨g, off, none⟩) (q.length + 1) qc) (.int .i64 0) _ rfl rfl (Tryd.wixh g off (q.length + 1) qc (Nat.succ_pos _) _) rfl ?_) | (refine r_ldc 3 _ ⟨g, off, none⟩ (.int .i64 n) rfl (Tryd.isAgg3 _) hcell rfl ?_) | (refine r_cut_lo 34 _ _ (.slice (some ⟨g, off, none⟩) (q.length + 1) qc) (.int .i64 1) _ rfl rfl (HPOP.out _) rfl ?_) | (refine r_load_row 72 _ _ rfl _ _ _ b1 Tryd.underlying72 rfl (Tryd.ginfo' _ _ _) rfl ?_) | (go_at_call 164; refine (HN1.out _).mono ?_; rintro e w7 ⟨g7, pn, cn, rfl, ownn⟩; have b1 := g7.blk b1; have own := g7.row own; have hq1 := hq1.gr g7; have gg := gg.trans g7; have z7 := g7.size))
        have HNL := hidI (fun k hk => (ownn.lt k hk).2)
        have HAP := hidI (show (Value.slice pn L cn).ownBlock = none ∨ (Value.slice pn L cn).ownBlock ≠ (Value.slice P1 q.length (qc - 1)).ownBlock from by
          rcases hb : (Value.slice pn L cn).ownBlock with _ | k
          · exact .inl rfl
          · refine .inr fun e => ?_
            have h1 := HQL.out k e.symm
            have h2 := (ownn.lt k hb).1
            omega)
        go_loopw [6, 37] (fun qv tv wi => ∃ (t : Nat) (F : List Int) (Q : List Nat), t ≤ L ∧ tv = .int .i64 t ∧ Hid (((nearL W H n).take t).foldl (rlx ok n) (far, q) = (F, Q)) ∧ QRow wi b6 3 qv (intsV (natsI Q)) ∧ wi.ownsRow w.heap.size 3 1 (.slice (some ⟨G, 0, none⟩) N cap) N (intsV F) ∧ wi.ownsRow wo.heap.size 3 1 (.slice pn L cn) L (intsV (natsI (nearL W H n))) ∧ Hid ((Value.slice pn L cn).ownBlock = none ∨ (Value.slice pn L cn).ownBlock ≠ qv.ownBlock) ∧ Blk wi B1 (gv W H c) 72 ∧ Gr w wi ∧ w7.heap.size ≤ wi.heap.size) (fun _ tv _ => L - (intOf tv).toNat)
        case atStart => exact ⟨0, far, q, Nat.zero_le _, rfl, hidI rfl, hq1, own, ownn, HAP, b1, gg, Nat.le_refl _⟩
        case round =>
          clear hq1 own ownn HAP b1 gg
          obtain ⟨t, F, Q, ht, rfl, HFT, hq, own, ownn, HAP, b1, gg, zi⟩ := hrel
          have hk := rlxL_ok (ok := ok) hnN ((nearL W H n).take t) HBF.out hn0 (fun j hj => HLT.out j (List.mem_of_mem_take hj))
          rw [HFT.out] at hk
          obtain ⟨hbF, hnF, hpF⟩ := hk
          have hpF' : negs F + Q.length = negs far + q.length := hpF
          clear hpF
          by_cases hlt : t < L
          · obtain ⟨gn, cn', e, -, -⟩ := own_shape ownn (by omega)
            cases e
            obtain ⟨j, hj1, hj2⟩ := near_get (show t < (nearL W H n).length by rw [← HL.out]; exact hlt)
            have hjN : j < N := HLT.out j (List.mem_of_getElem? hj1)
            have cj := own_int ownn t hlt (by rw [natsI_length]; exact HL.out)
            rw [hj2] at cj
            have HTK := rlx_take ok n (nearL W H n) (far, q) hj1
            rw [HFT.out] at HTK
            obtain ⟨x, hx⟩ : ∃ x, x = gi F j := ⟨_, rfl⟩
            obtain ⟨y, hy⟩ : ∃ y, y = gi F n := ⟨_, rfl⟩
            have cx := own_int own j hjN hbF.len.symm
            have cy := own_int own n hnN hbF.len.symm
            have bx := hbF.hi j hjN
            have bb := hbF.hi n hnN
            rw [← hx] at cx bx
            rw [← hy] at cy bb hnF
            have hcj := (gcells b1).2.2 j (by omega)
            have hgj := fun B w => Tryd.gix B j (by omega) w
            have HX := hidI hx
            have HY := hidI hy
            have HTK := hidI HTK
            have HBF2 := hidI hbF
            clear hj1 hj2 hx hy hbF
            by_cases hc : at0 c j = 35
            · have e2 : (((at0 c j).toNat : Int) == 35) = true := beq_byte hc
              have e3 : (((at0 c j).toNat : Int) != 35) = false := by rw [bne, e2]; rfl
              have HT2 := hidI (show ((nearL W H n).take (t + 1)).foldl (rlx ok n) (far, q) = (F, Q) from by
                rw [HTK.out]; unfold rlx; rw [HOK.out]; simp [hc])
              clear hc
              go_wp2_with (first | (refine r_idx 34 _ _ (.slice (some ⟨gn, 0, none⟩) L cn) (.int .i64 t) _ rfl rfl (Tryd.wix0 gn L cn t hlt _) rfl ?_) | (refine r_ldc 3 _ ⟨gn, t, none⟩ (.int .i64 j) rfl (Tryd.isAgg3 _) cj rfl ?_))
              go_roundw
              case rel => exact ⟨t + 1, F, Q, by omega, by go_num, HT2, hq, own, ownn, HAP, b1, gg, zi⟩
              case measure => simp [intOf]; omega
            · have e2 : (((at0 c j).toNat : Int) == 35) = false := bne_byte hc
              have e3 : (((at0 c j).toNat : Int) != 35) = true := by rw [bne, e2]; rfl
              by_cases hx0 : x < 0
              · have HT2 := hidI (show ((nearL W H n).take (t + 1)).foldl (rlx ok n) (far, q) = (F.set j (y + 1), Q ++ [j]) from by
                  rw [HTK.out]; unfold rlx; rw [HOK.out]; simp only [← HX.out, ← HY.out]; rw [if_pos (by simp [hc, hx0])])
                have hQb : (intsV (natsI Q)).length + 1 ≤ 1073741824 := by rw [nq_length]; omega
                clear hc
                go_wp2_with (first | (refine r_idx 34 _ _ (.slice (some ⟨gn, 0, none⟩) L cn) (.int .i64 t) _ rfl rfl (Tryd.wix0 gn L cn t hlt _) rfl ?_) | (refine r_ldc 3 _ ⟨gn, t, none⟩ (.int .i64 j) rfl (Tryd.isAgg3 _) cj rfl ?_) | (refine r_idx 34 _ _ (.slice (some ⟨G, 0, none⟩) N cap) (.int .i64 j) _ rfl rfl (Tryd.wix0 G N cap j hjN _) rfl ?_) | (refine r_ldc 3 _ ⟨G, j, none⟩ (.int .i64 x) rfl (Tryd.isAgg3 _) cx rfl ?_) | (refine r_idx 34 _ _ (.slice (some ⟨G, 0, none⟩) N cap) (.int .i64 n) _ rfl rfl (Tryd.wix0 G N cap n hnN _) rfl ?_) | (refine r_ldc 3 _ ⟨G, n, none⟩ (.int .i64 y) rfl (Tryd.isAgg3 _) cy rfl ?_) | (refine r_store_own 3 3 _ _ G j N cap _ _ rfl (.int .i64 (y + 1)) rfl own hjN Tryd.sizeOf3 rfl rfl ?_; intro w8 u8 own8; rw [intsV_set] at own8; have hq := hq.upd u8 (hq.ne hG5); have b1 := u8.blk b1 (by omega); have ownn := u8.row ownn (own_below ownn (by omega)); have gg := u8.gr gg (by omega); have z8 := u8.size) | (refine r_slice1 34 3 (.tmp 62) (.int .i64 j) rfl (Tryd.bsi1 _ _) rfl ?_; intro w9 B9 N9; have g9 := N9.gr; have hq := hq.gr g9; have own9 := g9.row own8; have b1 := g9.blk b1; have ownn := g9.row ownn; have gg := gg.trans g9; have z9 := g9.size; have c9 := (Blk.cell N9.blk 0).trans rfl) | (refine r_append_q (.tmp 61) (.tmp 63) 34 3 _ 8 b6 Tryd.intsI u6 _ rfl hq ⟨B9, 0, none⟩ 1 (.int .i64 j) rfl c9 rfl hQb (by decide) (by omega) rfl ?_; intro va wa qa ga pa))
                have hnk := hq.ne hG5
                have own := ga.row own9 (.inr (fun e => hnk e.symm))
                have ownn2 := ga.row ownn HAP.out
                have b1 := ga.blk b1 (hq.ne hB6)
                have gg := ga.gr gg (fun k hk => by have := (hq.lt k hk).1; omega)
                have za := ga.size
                have HAP2 := hidI (show (Value.slice (some ⟨gn, 0, none⟩) L cn).ownBlock = none ∨ (Value.slice (some ⟨gn, 0, none⟩) L cn).ownBlock ≠ va.ownBlock from .inr (fun e => by
                  rcases pa gn e.symm with h | h
                  · rcases HAP.out with h' | h'
                    · cases h'
                    · exact h' h.symm
                  · have h1 := (HNL.out gn rfl)
                    omega))
                rw [natsI_snoc] at qa
                go_roundw
                case rel => exact ⟨t + 1, F.set j (y + 1), Q ++ [j], by omega, by go_num, HT2, qa, own, ownn2, HAP2, b1, gg, by omega⟩
                case measure => simp [intOf]; omega
              · have HT2 := hidI (show ((nearL W H n).take (t + 1)).foldl (rlx ok n) (far, q) = (F, Q) from by
                  rw [HTK.out]; unfold rlx; simp only [← HX.out]; rw [if_neg (by simp [hx0])])
                have hx1 : 0 ≤ x := by omega
                clear hc hx0
                go_wp2_with (first | (refine r_idx 34 _ _ (.slice (some ⟨gn, 0, none⟩) L cn) (.int .i64 t) _ rfl rfl (Tryd.wix0 gn L cn t hlt _) rfl ?_) | (refine r_ldc 3 _ ⟨gn, t, none⟩ (.int .i64 j) rfl (Tryd.isAgg3 _) cj rfl ?_) | (refine r_idx 34 _ _ (.slice (some ⟨G, 0, none⟩) N cap) (.int .i64 j) _ rfl rfl (Tryd.wix0 G N cap j hjN _) rfl ?_) | (refine r_ldc 3 _ ⟨G, j, none⟩ (.int .i64 x) rfl (Tryd.isAgg3 _) cx rfl ?_))
                go_roundw
                case rel => exact ⟨t + 1, F, Q, by omega, by go_num, HT2, hq, own, ownn, HAP, b1, gg, zi⟩
                case measure => simp [intOf]; omega
          · obtain rfl : t = L := by omega
            have hall := HFT.out
            rw [List.take_of_length_le (by rw [← HL.out]; exact Nat.le_refl _)] at hall
            have HF3 := hidI (show ∃ f, negs F + Q.length ≤ f ∧ bfR ok W H f F Q = R from by
              obtain ⟨f, h1, h2⟩ := HF2.out
              rw [hall] at h2
              exact ⟨f, by omega, h2⟩)
            have HBF2 := hidI hbF
            clear hlt hall hbF
            go_wp2
            go_roundw
            case rel => exact ⟨F, Q, hq, own, HBF2.out, by omega, HF3, b1, gg, by omega⟩
            case measure =>
              have h1 := HME.out
              have h2 := negW_eq own HBF2.out.len.symm
              have h3 := hq.len
              omega
end Go.Proofs.YtdebiobhmpoiiaaDoor
