/-
  Ways through a tray: the search from a cell, in the model.
-/
import Derived.Test.YtoadoeahbekkoaaDoorWayS
import Derived.Test.YtoadoeahbekkoaaDoorWayN
namespace Go.Proofs.YtoadoeahbekkoaaDoor
open Go.RowKit
theorem QRow.shape {w : World} {base : Nat} {e : TypeId} {v : Value} {xs : List Value} (h : QRow w base e v xs) :
    ∃ g off cap, v = .slice (some ⟨g, off, none⟩) xs.length cap ∧ ∀ j u, xs[j]? = some u → w.cell? ⟨g, off + j, none⟩ = some u := by
  obtain ⟨g, off, cap, cur, rfl, hb, hg, hs, hc, hm, hx⟩ := h
  exact ⟨g, off, cap, rfl, fun j u hu => by rw [cell_of_row w g _ cur e (0, 0) hg]; exact hx j u hu⟩
theorem own_neQ {w : World} {b1 b2 : Nat} {e1 e2 : TypeId} {s1 n1 : Nat} {v1 v2 : Value} {x1 x2 : List Value} (h1 : w.ownsRow b1 e1 s1 v1 n1 x1) (h2 : QRow w b2 e2 v2 x2) (he : e1 ≠ e2) : v1.ownBlock = none ∨ v1.ownBlock ≠ v2.ownBlock := by
  obtain ⟨g2, o2, c2, cur2, rfl, -, hg2, -⟩ := h2
  obtain ⟨-, ⟨rfl, -⟩ | ⟨g1, c1, cur1, rfl, -, hg1, -⟩⟩ := h1
  · exact .inl rfl
  · refine .inr fun e => ?_
    have e3 : g1 = g2 := by simpa [Value.ownBlock] using e
    rw [e3, hg2] at hg1
    cases hg1
    exact he rfl
theorem natsI_get {q : List Nat} {k n : Nat} (h : q[k]? = some n) : (intsV (natsI q))[k]? = some (.int .i64 n) := by
  unfold intsV natsI
  rw [List.getElem?_map, List.getElem?_map, h]
  rfl
theorem own_of_blk {w : World} {G n base : Nat} {T : TypeId} {L : List Int} (h : Blk w G (intsV L).toArray T) (hl : L.length = n) (hb : base ≤ G) (hn : n ≤ 1073741824) : w.ownsRow base T 1 (.slice (some ⟨G, 0, none⟩) n n) n (intsV L) := by
  subst hl
  exact ⟨by simp [intsV], .inr ⟨G, _, _, rfl, hb, h, Nat.le_refl _, by unfold maxLen; omega, by simp [intsV], List.take_of_length_le (by simp [intsV])⟩⟩
theorem own_ne3 {w : World} {b1 b2 : Nat} {e1 e2 : TypeId} {s1 s2 : Nat} {v1 v2 : Value} {n1 n2 : Nat} {x1 x2 : List Value} (h1 : w.ownsRow b1 e1 s1 v1 n1 x1) (h2 : w.ownsRow b2 e2 s2 v2 n2 x2) (he : e1 ≠ e2) {B : Nat} (hB : v2.ownBlock = some B) : v1.ownBlock ≠ some B := by
  rcases own_ne2 h1 h2 he with h | h
  · rw [h]; intro e; cases e
  · rw [← hB]; exact h
theorem repI_set {n k : Nat} (h : k < n) : (intsV (repI n k)).set k (.int .i64 (-1)) = intsV (repI n (k + 1)) := by
  have e0 : intsV (repI n k) = List.replicate k (Value.int .i64 (-1)) ++ List.replicate (n - k) (Value.int .i64 0) := by simp [intsV, repI]
  have e1 : intsV (repI n (k + 1)) = List.replicate k (Value.int .i64 (-1)) ++ [Value.int .i64 (-1)] ++ List.replicate (n - (k + 1)) (Value.int .i64 0) := by simp [intsV, repI, List.replicate_succ']
  rw [e0, e1, List.set_append_right _ _ (by simp), show n - k = (n - (k + 1)) + 1 by omega, List.replicate_succ]
  simp
set_option maxHeartbeats 4000000 in
set_option maxRecDepth 100000 in
theorem tyFar_any (W H s base0 Gc capc N : Nat) (c : List UInt8) (w : World) (hw1 : 1 ≤ W) (hw7 : W ≤ 7) (hh7 : H ≤ 7) (hN : N = nn W H) (hs : s < N) (h36 : N ≤ 36) (hcl : N = c.length)
    (hown : w.ownsRow base0 5 1 (.slice (some ⟨Gc, 0, none⟩) N capc) N (cellsV c)) :
    Calls Tryd.prog 67 #[.agg (tg W H (.slice (some ⟨Gc, 0, none⟩) N capc)), .int .i64 s] w (RetRow 3 (farL W H c s) w) := by
  have gg := Gr.refl w
  have HNN := hidI hN
  have HCL := hidI hcl
  have hN1 : 1 ≤ N := by omega
  obtain ⟨R, hR⟩ : ∃ R, R = farL W H c s := ⟨_, rfl⟩
  rw [← hR]
  have HRL := hidI (show R.length = N from by rw [hR, hN]; exact (farL_ok (by rw [← hN]; exact hs)).1)
  have HR := hidI hR
  have hmk : N * 1 ≤ 16777216 := by omega
  have hby : 8 * N ≤ 281474976710656 := by omega
  have hcs := own_cell hown s (by rw [← hcl]; exact hs) hcl
  have hixs := Tryd.six0 Gc N capc s hs
  obtain ⟨ok, hok⟩ : ∃ ok : Nat → Bool, ok = fun j => at0 c j != 35 := ⟨_, rfl⟩
  have HOK := hidI hok
  have HNE := hidI (fun (i : Nat) (w : World) (hi : i < N) => tyNear_any W H i (.slice (some ⟨Gc, 0, none⟩) N capc) w hw1 hw7 hh7 (by rw [← HNN.out]; exact hi) (by rw [← HNN.out]; exact h36))
  clear hN hR hcl hok
  go_enter Tryd.func67, Tryd.ntmps67
  go_wp2_with (first | (refine r_box 57 _ (tg (W) (H) (.slice (some ⟨Gc, 0, none⟩) N capc)) rfl rfl ?_; intro w1 B1 N1; have g1 := N1.gr; have b1 : Blk w1 B1 (tg (W) (H) (.slice (some ⟨Gc, 0, none⟩) N capc)) 57 := N1.blk; have l1 := N1.lo; have t1 := N1.hi; have z1 := g1.size; have gg := gg.trans g1; clear N1; obtain ⟨b1_0, b1_1, b1_2⟩ := tcells b1) | (refine r_make 40 3 _ _ _ Tryd.intsI (.tmp 13) (.tmp 13) N rfl rfl hmk hby (by omega) rfl ?_; intro w2 G N2; have g2 := N2.gr; have l2 := N2.lo; have hg := made_repI N2; have z2 := g2.size; have b1 := g2.blk b1; have gg := gg.trans g2; clear N2))
  have own := own_of_blk (base := w.heap.size) hg (repI_length (Nat.zero_le _)) (by omega) (by omega)
  have hcr := gg.row hown
  have hGB : B1 < G := by omega
  clear hg b1_0 b1_1 b1_2 hcs
  go_loopw [17] (fun iv wr => ∃ k : Nat, k ≤ N ∧ iv = .int .i64 k ∧ wr.ownsRow w.heap.size 3 1 (.slice (some ⟨G, 0, none⟩) N N) N (intsV (repI N k)) ∧ wr.ownsRow base0 5 1 (.slice (some ⟨Gc, 0, none⟩) N capc) N (cellsV c) ∧ Blk wr B1 (tg W H (.slice (some ⟨Gc, 0, none⟩) N capc)) 57 ∧ Gr w wr) (fun iv _ => N - (intOf iv).toNat)
  case atStart => exact ⟨0, Nat.zero_le _, rfl, own, hcr, b1, gg⟩
  case round =>
    clear own hcr b1 gg
    obtain ⟨k, hk, rfl, own, hcr, b1, gg⟩ := hrel
    by_cases hlt : k < N
    · have HS := hidI (repI_set hlt)
      go_wp2_with (first | (refine r_idx 40 _ _ (.slice (some ⟨G, 0, none⟩) N N) (.int .i64 k) _ rfl rfl (Tryd.wix0 G N N k hlt _) rfl ?_) | (refine r_store_own 3 3 _ _ G k N N _ _ rfl (.int .i64 (-1)) rfl own hlt Tryd.sizeOf3 rfl rfl ?_; intro w3 u3 own3))
      rw [HS.out] at own3
      go_roundw
      case rel => exact ⟨k + 1, by omega, by go_num, own3, u3.row hcr (own_ne3 hcr own (by decide) rfl), u3.blk b1 (by omega), u3.gr gg (by have := gg.size; omega)⟩
      case measure => simp [intOf]; omega
    · obtain rfl : N = k := by omega
      rw [repI_full] at own
      clear hlt
      have hcs := own_cell hcr s (by rw [← HCL.out]; exact hs) HCL.out
      obtain ⟨b1_0, b1_1, b1_2⟩ := tcells b1
      by_cases hc : at0 c s = 35
      · have e1 : (((at0 c s).toNat : Int) == 35) = true := beq_byte hc
        have HV := hidI (show List.replicate N (-1) = R from by rw [HR.out]; unfold farL; rw [if_pos hc, HNN.out])
        clear hc
        go_wp2
        go_ret
        refine ⟨gg, _, rfl, ?_⟩
        rw [← HV.out, List.length_replicate]
        exact own
      · have e1 : (((at0 c s).toNat : Int) == 35) = false := bne_byte hc
        have HV := hidI (show bfR ok W H N ((List.replicate N (-1)).set s 0) [s] = R from by rw [HR.out, HOK.out]; unfold farL; rw [if_neg hc, HNN.out])
        obtain ⟨f0, hf0⟩ : ∃ f, f = (List.replicate N (-1 : Int)).set s 0 := ⟨_, rfl⟩
        rw [← hf0] at HV
        have HB0 := hidI (show Bf N f0 [s] ∧ negs f0 + 1 = N from by rw [hf0]; exact bf_start hs)
        have HS0 := hidI (show (intsV (List.replicate N (-1))).set s (.int .i64 0) = intsV f0 from by rw [hf0, intsV_set])
        clear hc hf0
        go_wp2_with (first | (refine r_idx 40 _ _ (.slice (some ⟨G, 0, none⟩) N N) (.int .i64 s) _ rfl rfl (Tryd.wix0 G N N s hs _) rfl ?_) | (refine r_store_own 3 3 _ _ G s N N _ _ rfl (.int .i64 0) rfl own hs Tryd.sizeOf3 rfl rfl ?_; intro w5 u5 own5; rw [HS0.out] at own5; have b1 := u5.blk b1 (by omega); have hcr := u5.row hcr (own_ne3 hcr own (by decide) rfl); have gg := u5.gr gg (by omega); have z5 := u5.size; have hG5 := (own5.lt G rfl).2) | (refine r_slice1 40 3 _ (.int .i64 s) rfl (Tryd.bsi1 _ _) rfl ?_; intro w6 B6 N6; have g6 := N6.gr; have own6 := g6.row own5; have hcr := g6.row hcr; have b1 := g6.blk b1; have gg := gg.trans g6; have z6 := g6.size; have q6 := own_made (l := [.int .i64 s]) (base := w5.heap.size) (m := 1) N6 (Nat.le_refl _) rfl))
        have hq := QRow.of_own q6
        obtain ⟨b6, hb6⟩ : ∃ b, b = w5.heap.size := ⟨_, rfl⟩
        rw [← hb6] at hq hG5
        have hb6' : b6 ≤ w6.heap.size := by omega
        clear own5 own q6 b1_0 b1_1 b1_2 hcs
        have hB6 : B1 < b6 := by omega
        go_loopw [7, 8] (fun qv kv wr => ∃ (k : Nat) (far : List Int) (q : List Nat), kv = .int .i64 k ∧ k ≤ q.length ∧ QRow wr b6 3 qv (intsV (natsI q)) ∧ wr.ownsRow w.heap.size 3 1 (.slice (some ⟨G, 0, none⟩) N N) N (intsV far) ∧ Bf N far q ∧ negs far + q.length = N ∧ Hid (∃ f, negs far + (q.length - k) ≤ f ∧ bfR ok W H f far (q.drop k) = R) ∧ Blk wr B1 (tg W H (.slice (some ⟨Gc, 0, none⟩) N capc)) 57 ∧ wr.ownsRow base0 5 1 (.slice (some ⟨Gc, 0, none⟩) N capc) N (cellsV c) ∧ Gr w wr ∧ b6 ≤ wr.heap.size) (fun _ kv _ => N - (intOf kv).toNat)
        case atStart => exact ⟨0, f0, [s], rfl, Nat.zero_le _, hq, own6, HB0.out.1, HB0.out.2, hidI ⟨N, by have := HB0.out.2; show negs f0 + 1 ≤ N; omega, HV.out⟩, b1, hcr, gg, hb6'⟩
        case round =>
          clear own6 hq b1 gg hcr
          obtain ⟨k, far, q, rfl, hk, hq, own, hbf, hpot, HF, b1, hcr, gg, zb⟩ := hrel
          obtain ⟨wo, rfl⟩ : ∃ wo : World, wo = wr := ⟨_, rfl⟩
          have hq' := hq
          obtain ⟨gq, off, cq, hv, hcells⟩ := hq.shape
          rw [nq_length] at hv
          subst hv
          have HBF := hidI hbf
          by_cases hlt : k < q.length
          · obtain ⟨n, hn⟩ : ∃ n, n = q[k] := ⟨_, rfl⟩
            have hqk : q[k]? = some n := by rw [hn]; exact List.getElem?_eq_getElem hlt
            have hdr : q.drop k = n :: q.drop (k + 1) := by rw [hn]; exact List.drop_eq_getElem_cons hlt
            have cqk := hcells k _ (natsI_get hqk)
            obtain ⟨hnN, hn0⟩ := hbf.inq n (List.mem_of_getElem? hqk)
            have hb' : Bf N far (q.drop (k + 1)) := ⟨hbf.len, fun m hm => hbf.inq m (List.mem_of_mem_drop hm), hbf.hi⟩
            have hxn := hbf.hi n hnN
            obtain ⟨L, hL⟩ : ∃ L, L = (nearL W H n).length := ⟨_, rfl⟩
            have HL := hidI hL
            have hL4 : L ≤ 4 := by rw [hL]; exact nearL_le _ _ _
            have HN1 := hidI (fun (w : World) => show Calls Tryd.prog 114 #[.agg (tg W H (.slice (some ⟨Gc, 0, none⟩) N capc)), .int .i64 n] w fun e w' => ∃ v, e = .returned v ∧ Gr w w' ∧ ∃ p m, v = .slice p L m ∧ w'.ownsRow w.heap.size 3 1 (.slice p L m) L (intsV (natsI (nearL W H n))) from
              (HNE.out n w hnN).mono fun e w' ⟨g, v, he, ho⟩ => by
                rw [natsI_length, ← hL] at ho
                obtain ⟨p, m, k, rfl⟩ := own_slice ho
                obtain rfl : m = L := own_len ho
                exact ⟨_, he, g, p, k, rfl, ho⟩)
            have HF2 := hidI (show ∃ f, negs far + (q.length - (k + 1)) ≤ f ∧ bfR ok W H f ((nearL W H n).foldl (rlx ok n) (far, q)).1 (((nearL W H n).foldl (rlx ok n) (far, q)).2.drop (k + 1)) = R from by
              obtain ⟨f, h1, h2⟩ := HF.out
              obtain ⟨f', rfl⟩ : ∃ f', f = f' + 1 := ⟨f - 1, by omega⟩
              rw [hdr] at h2
              obtain ⟨d1, d2⟩ := rlxL_drop ok n (k + 1) (nearL W H n) far q (by omega)
              rw [d1, d2]
              exact ⟨f', by omega, h2⟩)
            have HQL := hidI (fun k hk => (hq'.lt k hk).2)
            have HLT := hidI (fun j (hj : j ∈ nearL W H n) => show j < N from by rw [HNN.out]; exact nearL_lt (by rw [← HNN.out]; exact hnN) j hj)
            have HQK := hidI hqk
            clear hL hq' hb' HF hdr hqk hn hbf hcells
            go_wp2
            have gdr := (Gr.refl wo).drew
            have b1 := gdr.blk b1
            have own := gdr.row own
            have hcr := gdr.row hcr
            have hq := hq.gr gdr
            have cqk := gdr.cell cqk
            have gg := gg.trans gdr
            have zd := gdr.size
            refine F_begin (fun w => Blk w B1 (tg W H (.slice (some ⟨Gc, 0, none⟩) N capc)) 57 ∧ w.cell? ⟨gq, off + k, none⟩ = some (.int .i64 n)) 5 8 #[false, false, false, false, false, false, false, false] rfl (by kernel_rfl) (by kernel_rfl) ?_
            generalize wo.drew = wd at *
            refine F_take (v := .agg (tg W H (.slice (some ⟨Gc, 0, none⟩) N capc))) 0 #[true, false, false, false, false, false, false, false] rfl (by kernel_rfl) (fun _ _ _ h => h) rfl (fun w hF => e_load_row 57 (.tmp 2) B1 _ _ _ rfl hF.1 Tryd.underlying57 rfl Tryd.tinfo) (⟨b1, cqk⟩) ?_; simp only [Act.put, List.setIfInBounds_toArray, List.set_cons_succ, List.set_cons_zero]
            refine F_free (v := .slice (some ⟨gq, off, none⟩) q.length cq) 1 #[true, true, false, false, false, false, false, false] rfl (by kernel_rfl) (fun _ _ _ h => h) rfl (fun _ => rfl) (⟨b1, cqk⟩) ?_; simp only [Act.put, List.setIfInBounds_toArray, List.set_cons_succ, List.set_cons_zero]
            refine F_free (v := .int .i64 k) 2 #[true, true, true, false, false, false, false, false] rfl (by kernel_rfl) (fun _ _ _ h => h) rfl (fun _ => rfl) (⟨b1, cqk⟩) ?_; simp only [Act.put, List.setIfInBounds_toArray, List.set_cons_succ, List.set_cons_zero]
            refine F_free (v := .pointer (some ⟨gq, off + k, none⟩)) 3 #[true, true, true, true, false, false, false, false] rfl (by kernel_rfl) (fun _ _ _ h => h) rfl (fun _ => e_val _ _ (Tryd.wix gq off q.length cq k hlt _)) (⟨b1, cqk⟩) ?_; simp only [Act.put, List.setIfInBounds_toArray, List.set_cons_succ, List.set_cons_zero]
            refine F_take (v := .int .i64 n) 4 #[true, true, true, true, true, false, false, false] rfl (by kernel_rfl) (fun _ _ _ h => h) rfl (fun w hF => e_load 3 (.tmp 45) ⟨gq, off + k, none⟩ _ rfl (Tryd.isAgg3 _) hF.2) (⟨b1, cqk⟩) ?_; simp only [Act.put, List.setIfInBounds_toArray, List.set_cons_succ, List.set_cons_zero]
            refine F_free (v := .int .i64 0) 7 #[true, true, true, true, true, false, false, true] rfl (by kernel_rfl) (fun _ _ _ h => h) rfl (fun _ => rfl) (⟨b1, cqk⟩) ?_; simp only [Act.put, List.setIfInBounds_toArray, List.set_cons_succ, List.set_cons_zero]
            refine F_one 5 #[true, true, true, true, true, true, false, true] rfl (by kernel_rfl) ?_
            refine r_callx 114 [.tmp 42, .tmp 46] _ [.agg (tg W H (.slice (some ⟨Gc, 0, none⟩) N capc)), .int .i64 n] (fun v w' => Gr wd w' ∧ ∃ p m, v = .slice p L m ∧ w'.ownsRow wd.heap.size 3 1 (.slice p L m) L (intsV (natsI (nearL W H n)))) Tryd.call114 rfl rfl (HN1.out wd) ?_
            rintro _ w7 ⟨g7, pn, cn, rfl, ownn⟩
            have b1 := g7.blk b1
            have cqk := g7.cell cqk
            have own := g7.row own
            have hcr := g7.row hcr
            have hq := hq.gr g7
            have gg := gg.trans g7
            have z7 := g7.size
            refine ⟨fun h => (by cases h), ?_⟩
            simp only [Act.put, List.setIfInBounds_toArray, List.set_cons_succ, List.set_cons_zero]
            refine F_one 6 #[true, true, true, true, true, true, true, true] rfl (by kernel_rfl) ?_
            refine r_val (.int .i64 L) (by first | rfl | (unfold execOp; simp [go_sem, Act.eval])) rfl ?_
            refine ⟨fun _ => ⟨b1, cqk⟩, ?_⟩
            simp only [Act.put, List.setIfInBounds_toArray, List.set_cons_succ, List.set_cons_zero]
            refine F_done (by kernel_rfl) ?_
            go_wp2
            have HNL := hidI (fun k hk => (ownn.lt k hk).2)
            have HAP := hidI (show (Value.slice pn L cn).ownBlock = none ∨ (Value.slice pn L cn).ownBlock ≠ (Value.slice (some ⟨gq, off, none⟩) q.length cq).ownBlock from by
              rcases hb : (Value.slice pn L cn).ownBlock with _ | k
              · exact .inl rfl
              · refine .inr fun e => ?_
                have h1 := HQL.out k e.symm
                have h2 := (ownn.lt k hb).1
                omega)
            clear cqk
            go_loopw [7, 49] (fun qv tv wi => ∃ (t : Nat) (F : List Int) (Q : List Nat), t ≤ L ∧ tv = .int .i64 t ∧ Hid (((nearL W H n).take t).foldl (rlx ok n) (far, q) = (F, Q)) ∧ QRow wi b6 3 qv (intsV (natsI Q)) ∧ wi.ownsRow w.heap.size 3 1 (.slice (some ⟨G, 0, none⟩) N N) N (intsV F) ∧ wi.ownsRow wd.heap.size 3 1 (.slice pn L cn) L (intsV (natsI (nearL W H n))) ∧ Hid ((Value.slice pn L cn).ownBlock = none ∨ (Value.slice pn L cn).ownBlock ≠ qv.ownBlock) ∧ Blk wi B1 (tg W H (.slice (some ⟨Gc, 0, none⟩) N capc)) 57 ∧ wi.ownsRow base0 5 1 (.slice (some ⟨Gc, 0, none⟩) N capc) N (cellsV c) ∧ Gr w wi ∧ w7.heap.size ≤ wi.heap.size) (fun _ tv _ => L - (intOf tv).toNat)
            case atStart => exact ⟨0, far, q, Nat.zero_le _, rfl, hidI rfl, hq, own, ownn, HAP, b1, hcr, gg, Nat.le_refl _⟩
            case round =>
              clear hq own ownn HAP b1 gg hcr
              obtain ⟨t, F, Q, ht, rfl, HFT, hq, own, ownn, HAP, b1, hcr, gg, zi⟩ := hrel
              have hk := rlxL_ok (ok := ok) hnN ((nearL W H n).take t) HBF.out hn0 (fun j hj => HLT.out j (List.mem_of_mem_take hj))
              rw [HFT.out] at hk
              obtain ⟨hbF, hnF, hpF⟩ := hk
              have hpF' : negs F + Q.length = negs far + q.length := hpF
              clear hpF
              have hpre : q.length ≤ Q.length ∧ Q[k]? = some n := by
                obtain ⟨ext, he⟩ := rlxL_pre ok n ((nearL W H n).take t) (far, q)
                rw [HFT.out] at he
                have he' : Q = q ++ ext := he
                rw [he']
                exact ⟨by simp, by rw [List.getElem?_append_left hlt]; exact HQK.out⟩
              obtain ⟨hqQ, hQk⟩ := hpre
              obtain ⟨b1_0, b1_1, b1_2⟩ := tcells b1
              by_cases hlt2 : t < L
              · obtain ⟨gn, cn', e, -, -⟩ := own_shape ownn (by omega)
                cases e
                obtain ⟨j, hj1, hj2⟩ := near_get (show t < (nearL W H n).length by rw [← HL.out]; exact hlt2)
                have hjN : j < N := HLT.out j (List.mem_of_getElem? hj1)
                have cj := own_int ownn t hlt2 (by rw [natsI_length]; exact HL.out)
                rw [hj2] at cj
                have HTK := rlx_take ok n (nearL W H n) (far, q) hj1
                rw [HFT.out] at HTK
                obtain ⟨x, hx⟩ : ∃ x, x = gi F j := ⟨_, rfl⟩
                obtain ⟨y, hy⟩ : ∃ y, y = gi F n := ⟨_, rfl⟩
                have cx := own_int own j hjN hbF.len.symm
                have cy := own_int own n hnN hbF.len.symm
                have bx := hbF.hi j hjN
                have bb := hbF.hi n hnN
                rw [← hx] at cx bx
                rw [← hy] at cy bb hnF
                have hcj := own_cell hcr j (by rw [← HCL.out]; exact hjN) HCL.out
                have hgj := Tryd.six0 Gc N capc j hjN
                have HX := hidI hx
                have HY := hidI hy
                have HTK := hidI HTK
                have HBF2 := hidI hbF
                clear hj1 hj2 hx hy hbF
                by_cases hx0 : x < 0
                · by_cases hc : at0 c j = 35
                  · have e2 : (((at0 c j).toNat : Int) == 35) = true := beq_byte hc
                    have e3 : (((at0 c j).toNat : Int) != 35) = false := by rw [bne, e2]; rfl
                    have HT2 := hidI (show ((nearL W H n).take (t + 1)).foldl (rlx ok n) (far, q) = (F, Q) from by
                      rw [HTK.out]; unfold rlx; rw [HOK.out]; simp [hc])
                    clear hc hQk
                    go_wp2_with (first | (refine r_idx 40 _ _ (.slice (some ⟨gn, 0, none⟩) L cn) (.int .i64 t) _ rfl rfl (Tryd.wix0 gn L cn t hlt2 _) rfl ?_) | (refine r_ldc 3 _ ⟨gn, t, none⟩ (.int .i64 j) rfl (Tryd.isAgg3 _) cj rfl ?_) | (refine r_idx 40 _ _ (.slice (some ⟨G, 0, none⟩) N N) (.int .i64 j) _ rfl rfl (Tryd.wix0 G N N j hjN _) rfl ?_) | (refine r_ldc 3 _ ⟨G, j, none⟩ (.int .i64 x) rfl (Tryd.isAgg3 _) cx rfl ?_))
                    go_roundw
                    case rel => exact ⟨t + 1, F, Q, by omega, by go_num, HT2, hq, own, ownn, HAP, b1, hcr, gg, zi⟩
                    case measure => simp [intOf]; omega
                  · have e2 : (((at0 c j).toNat : Int) == 35) = false := bne_byte hc
                    have e3 : (((at0 c j).toNat : Int) != 35) = true := by rw [bne, e2]; rfl
                    have HT2 := hidI (show ((nearL W H n).take (t + 1)).foldl (rlx ok n) (far, q) = (F.set j (y + 1), Q ++ [j]) from by
                      rw [HTK.out]; unfold rlx; rw [HOK.out]; simp only [← HX.out, ← HY.out]; rw [if_pos (by simp [hc, hx0])])
                    have hQb : (intsV (natsI Q)).length + 1 ≤ 1073741824 := by rw [nq_length]; omega
                    have hkQ : k < Q.length := by omega
                    obtain ⟨gz, oz, cz, hz, hzc⟩ := hq.shape
                    rw [nq_length] at hz
                    have ck := hzc k _ (natsI_get hQk)
                    subst hz
                    clear hc hQk hzc
                    go_wp2_with (first | (refine r_idx 40 _ _ (.slice (some ⟨gn, 0, none⟩) L cn) (.int .i64 t) _ rfl rfl (Tryd.wix0 gn L cn t hlt2 _) rfl ?_) | (refine r_ldc 3 _ ⟨gn, t, none⟩ (.int .i64 j) rfl (Tryd.isAgg3 _) cj rfl ?_) | (refine r_idx 40 _ _ (.slice (some ⟨G, 0, none⟩) N N) (.int .i64 j) _ rfl rfl (Tryd.wix0 G N N j hjN _) rfl ?_) | (refine r_ldc 3 _ ⟨G, j, none⟩ (.int .i64 x) rfl (Tryd.isAgg3 _) cx rfl ?_) | (refine r_idx 40 _ _ (.slice (some ⟨gz, oz, none⟩) Q.length cz) (.int .i64 k) _ rfl rfl (Tryd.wix gz oz Q.length cz k hkQ _) rfl ?_) | (refine r_ldc 3 _ ⟨gz, oz + k, none⟩ (.int .i64 n) rfl (Tryd.isAgg3 _) ck rfl ?_) | (refine r_idx 40 _ _ (.slice (some ⟨G, 0, none⟩) N N) (.int .i64 n) _ rfl rfl (Tryd.wix0 G N N n hnN _) rfl ?_) | (refine r_ldc 3 _ ⟨G, n, none⟩ (.int .i64 y) rfl (Tryd.isAgg3 _) cy rfl ?_) | (refine r_store_own 3 3 _ _ G j N N _ _ rfl (.int .i64 (y + 1)) rfl own hjN Tryd.sizeOf3 rfl rfl ?_; intro w8 u8 own8; rw [intsV_set] at own8; have hq := hq.upd u8 (hq.ne hG5); have b1 := u8.blk b1 (by omega); have hcr := u8.row hcr (own_ne3 hcr own (by decide) rfl); have ownn := u8.row ownn (own_below ownn (by omega)); have gg := u8.gr gg (by omega); have z8 := u8.size) | (refine r_slice1 40 3 (.tmp 78) (.int .i64 j) rfl (Tryd.bsi1 _ _) rfl ?_; intro w9 B9 N9; have g9 := N9.gr; have hq := hq.gr g9; have own9 := g9.row own8; have b1 := g9.blk b1; have hcr := g9.row hcr; have ownn := g9.row ownn; have gg := gg.trans g9; have z9 := g9.size; have c9 := (Blk.cell N9.blk 0).trans rfl) | (refine r_append_q (.tmp 77) (.tmp 79) 40 3 _ 8 b6 Tryd.intsI (.slice (some ⟨gz, oz, none⟩) Q.length cz) _ rfl hq ⟨B9, 0, none⟩ 1 (.int .i64 j) rfl c9 rfl hQb (by decide) (by omega) rfl ?_; intro va wa qa ga pa))
                    have hnk := hq.ne hG5
                    have hcr := ga.row hcr (own_neQ hcr hq (by decide))
                    have own := ga.row own9 (.inr (fun e => hnk e.symm))
                    have ownn2 := ga.row ownn HAP.out
                    have b1 := ga.blk b1 (hq.ne hB6)
                    have gg := ga.gr gg (fun k hk => by have := (hq.lt k hk).1; omega)
                    have za := ga.size
                    have HAP2 := hidI (show (Value.slice (some ⟨gn, 0, none⟩) L cn).ownBlock = none ∨ (Value.slice (some ⟨gn, 0, none⟩) L cn).ownBlock ≠ va.ownBlock from .inr (fun e => by
                      rcases pa gn e.symm with h | h
                      · rcases HAP.out with h' | h'
                        · cases h'
                        · exact h' h.symm
                      · have h1 := (HNL.out gn rfl)
                        omega))
                    rw [natsI_snoc] at qa
                    go_roundw
                    case rel => exact ⟨t + 1, F.set j (y + 1), Q ++ [j], by omega, by go_num, HT2, qa, own, ownn2, HAP2, b1, hcr, gg, by omega⟩
                    case measure => simp [intOf]; omega
                · have HT2 := hidI (show ((nearL W H n).take (t + 1)).foldl (rlx ok n) (far, q) = (F, Q) from by
                    rw [HTK.out]; unfold rlx; simp only [← HX.out]; rw [if_neg (by simp [hx0])])
                  have hx1 : 0 ≤ x := by omega
                  clear hx0 hQk
                  go_wp2_with (first | (refine r_idx 40 _ _ (.slice (some ⟨gn, 0, none⟩) L cn) (.int .i64 t) _ rfl rfl (Tryd.wix0 gn L cn t hlt2 _) rfl ?_) | (refine r_ldc 3 _ ⟨gn, t, none⟩ (.int .i64 j) rfl (Tryd.isAgg3 _) cj rfl ?_) | (refine r_idx 40 _ _ (.slice (some ⟨G, 0, none⟩) N N) (.int .i64 j) _ rfl rfl (Tryd.wix0 G N N j hjN _) rfl ?_) | (refine r_ldc 3 _ ⟨G, j, none⟩ (.int .i64 x) rfl (Tryd.isAgg3 _) cx rfl ?_))
                  go_roundw
                  case rel => exact ⟨t + 1, F, Q, by omega, by go_num, HT2, hq, own, ownn, HAP, b1, hcr, gg, zi⟩
                  case measure => simp [intOf]; omega
              · obtain rfl : t = L := by omega
                have hall := HFT.out
                rw [List.take_of_length_le (by rw [← HL.out]; exact Nat.le_refl _)] at hall
                have HF3 := hidI (show ∃ f, negs F + (Q.length - (k + 1)) ≤ f ∧ bfR ok W H f F (Q.drop (k + 1)) = R from by
                  obtain ⟨f, h1, h2⟩ := HF2.out
                  rw [hall] at h2
                  exact ⟨f, by omega, h2⟩)
                have HBF2 := hidI hbF
                have hnle := negs_le F
                clear hlt2 hall hbF hQk
                go_wp2
                go_roundw
                case rel => exact ⟨k + 1, F, Q, by go_num, by omega, hq, own, HBF2.out, by omega, HF3, b1, hcr, gg, by omega⟩
                case measure => simp [intOf]; omega
          · obtain rfl : k = q.length := by omega
            have HFR := hidI (show far = R from by
              obtain ⟨f, -, h⟩ := HF.out
              rw [List.drop_of_length_le (Nat.le_refl _), bfR_nil] at h
              exact h)
            clear hlt hbf
            go_wp2
            go_ret
            refine ⟨gg, _, rfl, ?_⟩
            rw [HRL.out, ← HFR.out]
            exact own
end Go.Proofs.YtoadoeahbekkoaaDoor
