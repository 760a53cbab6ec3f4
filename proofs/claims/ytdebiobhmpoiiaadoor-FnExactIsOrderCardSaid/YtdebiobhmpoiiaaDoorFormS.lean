/-
  Forms: the pieces of a tray in the model, counted and marked.
-/
import Derived.Test.YtdebiobhmpoiiaaDoorFormP
namespace Go.Proofs.YtdebiobhmpoiiaaDoor
open Go.RowKit
theorem skTo_not {ok : Nat → Bool} {W H k : Nat} (h : ok k = false ∨ ¬ gi (skTo ok W H k).1 k < 0) : skTo ok W H (k + 1) = skTo ok W H k := by
  rw [skTo]
  rcases h with h | h
  · rw [h]; rfl
  · rw [decide_eq_false h, Bool.and_false]; rfl
theorem skTo_add {ok : Nat → Bool} {W H k : Nat} (h : ok k = true) (h2 : gi (skTo ok W H k).1 k < 0) : skTo ok W H (k + 1) = (bfS ok W H (skTo ok W H k).2 (nn W H) ((skTo ok W H k).1.set k (skTo ok W H k).2) [k], (skTo ok W H k).2 + 1) := by
  rw [skTo, h, decide_eq_true h2]; rfl
set_option maxHeartbeats 4000000 in
set_option maxRecDepth 100000 in
theorem skPieces_any (W H base0 Gc capc N : Nat) (c : List UInt8) (w : World) (hw1 : 1 ≤ W) (hw7 : W ≤ 7) (hh7 : H ≤ 7) (hN : N = nn W H) (hN1 : 1 ≤ N) (h36 : N ≤ 36) (hcl : N = c.length)
    (hown : w.ownsRow base0 5 1 (.slice (some ⟨Gc, 0, none⟩) N capc) N (cellsV c)) :
    Calls Tryd.prog 135 #[.agg (tg W H (.slice (some ⟨Gc, 0, none⟩) N capc))] w fun e w' => Gr w w' ∧ ∃ v, e = .returned (.tuple #[v, .int .i64 (skTo (okB c) W H N).2]) ∧ w'.ownsRow w.heap.size 3 1 v N (intsV (skTo (okB c) W H N).1) := by
  have gg := Gr.refl w
  have HNN := hidI hN
  have HCL := hidI hcl
  have hmk : N * 1 ≤ 16777216 := by omega
  have hby : 8 * N ≤ 281474976710656 := by omega
  have HBA := hidI (fun (j : Nat) => show okB c j = isBallB (at0 c j) from rfl)
  obtain ⟨ok, hok⟩ : ∃ ok : Nat → Bool, ok = okB c := ⟨_, rfl⟩
  rw [← hok] at HBA ⊢
  have HSK := hidI (fun k (hk : k ≤ N) => (show SkI ok W H k (skTo ok W H k).1 (skTo ok W H k).2 from skTo_ok ok W H k (by rw [← HNN.out]; exact hk)))
  have HNE := hidI (fun (i : Nat) (w : World) (hi : i < N) => tyNear_any W H i (.slice (some ⟨Gc, 0, none⟩) N capc) w hw1 hw7 hh7 (by rw [← HNN.out]; exact hi) (by rw [← HNN.out]; exact h36))
  clear hN hcl hok
  go_enter Tryd.func135, Tryd.ntmps135
  go_wp2_with (first | (refine r_box 55 _ (tg (W) (H) (.slice (some ⟨Gc, 0, none⟩) N capc)) rfl rfl ?_; intro w1 B1 N1; have g1 := N1.gr; have b1 : Blk w1 B1 (tg (W) (H) (.slice (some ⟨Gc, 0, none⟩) N capc)) 55 := N1.blk; have l1 := N1.lo; have t1 := N1.hi; have z1 := g1.size; have gg := gg.trans g1; clear N1; obtain ⟨b1_0, b1_1, b1_2⟩ := tcells b1) | (refine r_make 34 3 _ _ _ Tryd.intsI (.tmp 15) (.tmp 15) N rfl rfl hmk hby (by omega) rfl ?_; intro w2 G N2; have g2 := N2.gr; have l2 := N2.lo; have hg := made_repI N2; have z2 := g2.size; have b1 := g2.blk b1; have gg := gg.trans g2; clear N2))
  have own := own_of_blk (base := w.heap.size) hg (repI_length (Nat.zero_le _)) (by omega) (by omega)
  have hcr := gg.row hown
  have hGB : B1 < G := by omega
  clear hg b1_0 b1_1 b1_2
  go_loopw [19] (fun iv wr => ∃ k : Nat, k ≤ N ∧ iv = .int .i64 k ∧ wr.ownsRow w.heap.size 3 1 (.slice (some ⟨G, 0, none⟩) N N) N (intsV (repI N k)) ∧ wr.ownsRow base0 5 1 (.slice (some ⟨Gc, 0, none⟩) N capc) N (cellsV c) ∧ Blk wr B1 (tg W H (.slice (some ⟨Gc, 0, none⟩) N capc)) 55 ∧ Gr w wr) (fun iv _ => N - (intOf iv).toNat)
  case atStart => exact ⟨0, Nat.zero_le _, rfl, own, hcr, b1, gg⟩
  case round =>
    clear own hcr b1 gg
    obtain ⟨k, hk, rfl, own, hcr, b1, gg⟩ := hrel
    by_cases hlt : k < N
    · have HS := hidI (repI_set hlt)
      go_wp2_with (first | (refine r_idx 34 _ _ (.slice (some ⟨G, 0, none⟩) N N) (.int .i64 k) _ rfl rfl (Tryd.wix0 G N N k hlt _) rfl ?_) | (refine r_store_own 3 3 _ _ G k N N _ _ rfl (.int .i64 (-1)) rfl own hlt Tryd.sizeOf3 rfl rfl ?_; intro w3 u3 own3))
      rw [HS.out] at own3
      go_roundw
      case rel => exact ⟨k + 1, by omega, by go_num, own3, u3.row hcr (own_ne3 hcr own (by decide) rfl), u3.blk b1 (by omega), u3.gr gg (by have := gg.size; omega)⟩
      case measure => simp [intOf]; omega
    · obtain rfl : N = k := by omega
      rw [repI_full] at own
      clear hlt
      obtain ⟨b1_0, b1_1, b1_2⟩ := tcells b1
      have HS0 := hidI (show (skTo ok W H 0).1 = List.replicate N (-1) from by rw [HNN.out]; rfl)
      rw [← HS0.out] at own
      obtain ⟨wq, rfl⟩ : ∃ wq : World, wq = wr := ⟨_, rfl⟩
      go_wp2
      clear b1_0 b1_1 b1_2
      go_loopw [6, 29] (fun nv iv wr => ∃ i : Nat, i ≤ N ∧ iv = .int .i64 i ∧ nv = .int .i64 (skTo ok W H i).2 ∧ wr.ownsRow w.heap.size 3 1 (.slice (some ⟨G, 0, none⟩) N N) N (intsV (skTo ok W H i).1) ∧ wr.ownsRow base0 5 1 (.slice (some ⟨Gc, 0, none⟩) N capc) N (cellsV c) ∧ Blk wr B1 (tg W H (.slice (some ⟨Gc, 0, none⟩) N capc)) 55 ∧ Gr w wr) (fun _ iv _ => N - (intOf iv).toNat)
      case atStart => exact ⟨0, Nat.zero_le _, rfl, rfl, own, hcr, b1, gg⟩
      case round =>
        clear own hcr b1 gg
        obtain ⟨i, hi, rfl, rfl, own, hcr, b1, gg⟩ := hrel
        obtain ⟨wp, rfl⟩ : ∃ wp : World, wp = wr := ⟨_, rfl⟩
        have SK := HSK.out i hi
        by_cases hil : i < N
        · have hck := own_cell hcr i (by rw [← HCL.out]; exact hil) HCL.out
          have hgk := Tryd.six0 Gc N capc i hil
          have HNO := hidI (fun h => skTo_not (ok := ok) (W := W) (H := H) (k := i) h)
          have HAD := hidI (fun h h2 => skTo_add (ok := ok) (W := W) (H := H) (k := i) h h2)
          obtain ⟨o, ho⟩ : ∃ o, o = (skTo ok W H i).1 := ⟨_, rfl⟩
          obtain ⟨m, hm⟩ : ∃ m, m = (skTo ok W H i).2 := ⟨_, rfl⟩
          rw [← ho] at own SK HNO HAD
          rw [← hm] at SK HAD ⊢
          have hmi := SK.le
          have hol := SK.len
          rw [← HNN.out] at hol
          obtain ⟨x0, hx0⟩ : ∃ x, x = gi o i := ⟨_, rfl⟩
          have cx0 := own_int own i hil hol.symm
          rw [← hx0] at cx0
          have HO := hidI ho
          have HM := hidI hm
          have HX0 := hidI hx0
          have SKH := hidI SK
          have HOL := hidI hol
          clear ho hm hx0 SK hol
          cases hb : ok i with
          | false =>
            have HB := hidI (show isBallB (at0 c i) = false from by rw [← HBA.out i]; exact hb)
            have HS := hidI (HNO.out (.inl hb))
            clear hb
            go_wp2_with (first | (go_at_call 111; refine (tyBall_any _ _).mono ?_; rintro e wSame ⟨rfl, rfl⟩; rw [HB.out]))
            go_roundw
            case rel => exact ⟨i + 1, by omega, by go_num, by rw [HS.out, ← HM.out], by rw [HS.out, ← HO.out]; exact own, hcr, b1, gg⟩
            case measure => simp [intOf]; omega
          | true =>
            have HB := hidI (show isBallB (at0 c i) = true from by rw [← HBA.out i]; exact hb)
            by_cases hn0 : x0 < 0
            · have HADD := hidI (HAD.out hb (by rw [← HX0.out]; exact hn0))
              obtain ⟨R, hR⟩ : ∃ R, R = bfS ok W H (m : Int) (nn W H) (o.set i (m : Int)) [i] := ⟨_, rfl⟩
              rw [← hR] at HADD
              obtain ⟨f0, hf0⟩ : ∃ f, f = o.set i (m : Int) := ⟨_, rfl⟩
              have HST := hidI (show Sk N ((m : Int) + 1) f0 [i] ∧ negs f0 + 1 ≤ N from by
                rw [hf0, HNN.out]
                exact sk_start SKH.out (by rw [← HNN.out]; exact hil) (by rw [← HX0.out]; exact hn0))
              have HV := hidI (show bfS ok W H (m : Int) N f0 [i] = R from by rw [hR, hf0, HNN.out])
              have HS0 := hidI (show (intsV o).set i (.int .i64 (m : Int)) = intsV f0 from by rw [hf0, intsV_set])
              clear hb hR hf0
              go_wp2_with (first | (go_at_call 111; refine (tyBall_any _ _).mono ?_; rintro e wSame ⟨rfl, rfl⟩; rw [HB.out]) | (refine r_idx 34 _ _ (.slice (some ⟨G, 0, none⟩) N N) (.int .i64 i) _ rfl rfl (Tryd.wix0 G N N i hil _) rfl ?_) | (refine r_store_own 3 3 _ _ G i N N _ _ rfl (.int .i64 (m : Int)) rfl own hil Tryd.sizeOf3 rfl rfl ?_; intro w5 u5 own5; rw [HS0.out] at own5; have b1 := u5.blk b1 (by omega); have hcr := u5.row hcr (own_ne3 hcr own (by decide) rfl); have gg := u5.gr gg (by omega); have z5 := u5.size; have hG5 := (own5.lt G rfl).2) | (refine r_slice1 34 3 (.tmp 48) (.int .i64 i) rfl (Tryd.bsi1 _ _) rfl ?_; intro w6 B6 N6; have g6 := N6.gr; have own6 := g6.row own5; have hcr := g6.row hcr; have b1 := g6.blk b1; have gg := gg.trans g6; have z6 := g6.size; have q6 := own_made (l := [.int .i64 i]) (base := w5.heap.size) (m := 1) N6 (Nat.le_refl _) rfl))
              have hq := QRow.of_own q6
              obtain ⟨b6, hb6⟩ : ∃ b, b = w5.heap.size := ⟨_, rfl⟩
              rw [← hb6] at hq hG5
              have hb6' : b6 ≤ w6.heap.size := by omega
              clear own5 own q6 hck
              have hB6 : B1 < b6 := by omega
              have hm0 : (0 : Int) ≤ (m : Int) := Int.natCast_nonneg m
              have hm1 : (m : Int) < (m : Int) + 1 := by omega
              go_loopw [9, 10] (fun qv kv wr => ∃ (k : Nat) (far : List Int) (q : List Nat), kv = .int .i64 k ∧ k ≤ q.length ∧ QRow wr b6 3 qv (intsV (natsI q)) ∧ wr.ownsRow w.heap.size 3 1 (.slice (some ⟨G, 0, none⟩) N N) N (intsV far) ∧ Sk N ((m : Int) + 1) far q ∧ negs far + q.length ≤ N ∧ Hid (∃ f, negs far + (q.length - k) ≤ f ∧ bfS ok W H (m : Int) f far (q.drop k) = R) ∧ Blk wr B1 (tg W H (.slice (some ⟨Gc, 0, none⟩) N capc)) 55 ∧ wr.ownsRow base0 5 1 (.slice (some ⟨Gc, 0, none⟩) N capc) N (cellsV c) ∧ Gr w wr ∧ b6 ≤ wr.heap.size) (fun _ kv _ => N - (intOf kv).toNat)
              case atStart => exact ⟨0, f0, [i], rfl, Nat.zero_le _, hq, own6, HST.out.1, HST.out.2, hidI ⟨N, by have := HST.out.2; show negs f0 + 1 ≤ N; omega, HV.out⟩, b1, hcr, gg, hb6'⟩
              case round =>
                clear own6 hq b1 gg hcr
                obtain ⟨k, far, q, rfl, hk, hq, own, hbf, hpot, HF, b1, hcr, gg, zb⟩ := hrel
                obtain ⟨wo, rfl⟩ : ∃ wo : World, wo = wr := ⟨_, rfl⟩
                have hq' := hq
                obtain ⟨gq, off, cq, hv, hcells⟩ := hq.shape
                rw [nq_length] at hv
                subst hv
                have HBF := hidI hbf
                by_cases hlt : k < q.length
                · obtain ⟨n, hn⟩ : ∃ n, n = q[k] := ⟨_, rfl⟩
                  have hqk : q[k]? = some n := by rw [hn]; exact List.getElem?_eq_getElem hlt
                  have hdr : q.drop k = n :: q.drop (k + 1) := by rw [hn]; exact List.drop_eq_getElem_cons hlt
                  have cqk := hcells k _ (natsI_get hqk)
                  have hnN := hbf.inq n (List.mem_of_getElem? hqk)
                  obtain ⟨L, hL⟩ : ∃ L, L = (nearL W H n).length := ⟨_, rfl⟩
                  have HL := hidI hL
                  have hL4 : L ≤ 4 := by rw [hL]; exact nearL_le _ _ _
                  have HN1 := hidI (fun (w : World) => show Calls Tryd.prog 162 #[.agg (tg W H (.slice (some ⟨Gc, 0, none⟩) N capc)), .int .i64 n] w fun e w' => ∃ v, e = .returned v ∧ Gr w w' ∧ ∃ p m, v = .slice p L m ∧ w'.ownsRow w.heap.size 3 1 (.slice p L m) L (intsV (natsI (nearL W H n))) from
                    (HNE.out n w hnN).mono fun e w' ⟨g, v, he, ho⟩ => by
                      rw [natsI_length, ← hL] at ho
                      obtain ⟨p, m, k, rfl⟩ := own_slice ho
                      obtain rfl : m = L := own_len ho
                      exact ⟨_, he, g, p, k, rfl, ho⟩)
                  have HF2 := hidI (show ∃ f, negs far + (q.length - (k + 1)) ≤ f ∧ bfS ok W H (m : Int) f ((nearL W H n).foldl (rlS ok (m : Int)) (far, q)).1 (((nearL W H n).foldl (rlS ok (m : Int)) (far, q)).2.drop (k + 1)) = R from by
                    obtain ⟨f, h1, h2⟩ := HF.out
                    obtain ⟨f', rfl⟩ : ∃ f', f = f' + 1 := ⟨f - 1, by omega⟩
                    rw [hdr] at h2
                    obtain ⟨d1, d2⟩ := rlSL_drop ok (m : Int) (k + 1) (nearL W H n) far q (by omega)
                    rw [d1, d2]
                    exact ⟨f', by omega, h2⟩)
                  have HQL := hidI (fun k hk => (hq'.lt k hk).2)
                  have HLT := hidI (fun j (hj : j ∈ nearL W H n) => show j < N from by rw [HNN.out]; exact nearL_lt (by rw [← HNN.out]; exact hnN) j hj)
                  have HQK := hidI hqk
                  clear hL hq' HF hdr hqk hn hbf hcells
                  go_wp2
                  have gdr := (Gr.refl wo).drew
                  have b1 := gdr.blk b1
                  have own := gdr.row own
                  have hcr := gdr.row hcr
                  have hq := hq.gr gdr
                  have cqk := gdr.cell cqk
                  have gg := gg.trans gdr
                  have zd := gdr.size
                  refine F_begin (fun w => Blk w B1 (tg W H (.slice (some ⟨Gc, 0, none⟩) N capc)) 55 ∧ w.cell? ⟨gq, off + k, none⟩ = some (.int .i64 n)) 5 8 #[false, false, false, false, false, false, false, false] rfl (by kernel_rfl) (by kernel_rfl) ?_
                  generalize wo.drew = wd at *
                  refine F_take (v := .agg (tg W H (.slice (some ⟨Gc, 0, none⟩) N capc))) 0 #[true, false, false, false, false, false, false, false] rfl (by kernel_rfl) (fun _ _ _ h => h) rfl (fun w hF => e_load_row 55 (.tmp 1) B1 _ _ _ rfl hF.1 Tryd.underlying55 rfl Tryd.tinfo) (⟨b1, cqk⟩) ?_; simp only [Act.put, List.setIfInBounds_toArray, List.set_cons_succ, List.set_cons_zero]
                  refine F_free (v := .slice (some ⟨gq, off, none⟩) q.length cq) 1 #[true, true, false, false, false, false, false, false] rfl (by kernel_rfl) (fun _ _ _ h => h) rfl (fun _ => rfl) (⟨b1, cqk⟩) ?_; simp only [Act.put, List.setIfInBounds_toArray, List.set_cons_succ, List.set_cons_zero]
                  refine F_free (v := .int .i64 k) 2 #[true, true, true, false, false, false, false, false] rfl (by kernel_rfl) (fun _ _ _ h => h) rfl (fun _ => rfl) (⟨b1, cqk⟩) ?_; simp only [Act.put, List.setIfInBounds_toArray, List.set_cons_succ, List.set_cons_zero]
                  refine F_free (v := .pointer (some ⟨gq, off + k, none⟩)) 3 #[true, true, true, true, false, false, false, false] rfl (by kernel_rfl) (fun _ _ _ h => h) rfl (fun _ => e_val _ _ (Tryd.wix gq off q.length cq k hlt _)) (⟨b1, cqk⟩) ?_; simp only [Act.put, List.setIfInBounds_toArray, List.set_cons_succ, List.set_cons_zero]
                  refine F_take (v := .int .i64 n) 4 #[true, true, true, true, true, false, false, false] rfl (by kernel_rfl) (fun _ _ _ h => h) rfl (fun w hF => e_load 3 (.tmp 59) ⟨gq, off + k, none⟩ _ rfl (Tryd.isAgg3 _) hF.2) (⟨b1, cqk⟩) ?_; simp only [Act.put, List.setIfInBounds_toArray, List.set_cons_succ, List.set_cons_zero]
                  refine F_free (v := .int .i64 0) 7 #[true, true, true, true, true, false, false, true] rfl (by kernel_rfl) (fun _ _ _ h => h) rfl (fun _ => rfl) (⟨b1, cqk⟩) ?_; simp only [Act.put, List.setIfInBounds_toArray, List.set_cons_succ, List.set_cons_zero]
                  refine F_one 5 #[true, true, true, true, true, true, false, true] rfl (by kernel_rfl) ?_
                  refine r_callx 162 [.tmp 56, .tmp 60] _ [.agg (tg W H (.slice (some ⟨Gc, 0, none⟩) N capc)), .int .i64 n] (fun v w' => Gr wd w' ∧ ∃ p m, v = .slice p L m ∧ w'.ownsRow wd.heap.size 3 1 (.slice p L m) L (intsV (natsI (nearL W H n)))) Tryd.call162 rfl rfl (HN1.out wd) ?_
                  rintro _ w7 ⟨g7, pn, cn, rfl, ownn⟩
                  have b1 := g7.blk b1
                  have cqk := g7.cell cqk
                  have own := g7.row own
                  have hcr := g7.row hcr
                  have hq := hq.gr g7
                  have gg := gg.trans g7
                  have z7 := g7.size
                  refine ⟨fun h => (by cases h), ?_⟩
                  simp only [Act.put, List.setIfInBounds_toArray, List.set_cons_succ, List.set_cons_zero]
                  refine F_one 6 #[true, true, true, true, true, true, true, true] rfl (by kernel_rfl) ?_
                  refine r_val (.int .i64 L) (by first | rfl | (unfold execOp; simp [go_sem, Act.eval])) rfl ?_
                  refine ⟨fun _ => ⟨b1, cqk⟩, ?_⟩
                  simp only [Act.put, List.setIfInBounds_toArray, List.set_cons_succ, List.set_cons_zero]
                  refine F_done (by kernel_rfl) ?_
                  go_wp2
                  have HNL := hidI (fun k hk => (ownn.lt k hk).2)
                  have HAP := hidI (show (Value.slice pn L cn).ownBlock = none ∨ (Value.slice pn L cn).ownBlock ≠ (Value.slice (some ⟨gq, off, none⟩) q.length cq).ownBlock from by
                    rcases hb : (Value.slice pn L cn).ownBlock with _ | k
                    · exact .inl rfl
                    · refine .inr fun e => ?_
                      have h1 := HQL.out k e.symm
                      have h2 := (ownn.lt k hb).1
                      omega)
                  clear cqk
                  go_loopw [9, 63] (fun qv tv wi => ∃ (t : Nat) (F : List Int) (Q : List Nat), t ≤ L ∧ tv = .int .i64 t ∧ Hid (((nearL W H n).take t).foldl (rlS ok (m : Int)) (far, q) = (F, Q)) ∧ QRow wi b6 3 qv (intsV (natsI Q)) ∧ wi.ownsRow w.heap.size 3 1 (.slice (some ⟨G, 0, none⟩) N N) N (intsV F) ∧ wi.ownsRow wd.heap.size 3 1 (.slice pn L cn) L (intsV (natsI (nearL W H n))) ∧ Hid ((Value.slice pn L cn).ownBlock = none ∨ (Value.slice pn L cn).ownBlock ≠ qv.ownBlock) ∧ Blk wi B1 (tg W H (.slice (some ⟨Gc, 0, none⟩) N capc)) 55 ∧ wi.ownsRow base0 5 1 (.slice (some ⟨Gc, 0, none⟩) N capc) N (cellsV c) ∧ Gr w wi ∧ w7.heap.size ≤ wi.heap.size) (fun _ tv _ => L - (intOf tv).toNat)
                  case atStart => exact ⟨0, far, q, Nat.zero_le _, rfl, hidI rfl, hq, own, ownn, HAP, b1, hcr, gg, Nat.le_refl _⟩
                  case round =>
                    clear hq own ownn HAP b1 gg hcr
                    obtain ⟨t, F, Q, ht, rfl, HFT, hq, own, ownn, HAP, b1, hcr, gg, zi⟩ := hrel
                    have hk := rlSL_ok (ok := ok) hm0 hm1 ((nearL W H n).take t) HBF.out (fun j hj => HLT.out j (List.mem_of_mem_take hj))
                    rw [HFT.out] at hk
                    obtain ⟨hbF, hpF⟩ := hk
                    have hpF' : negs F + Q.length = negs far + q.length := hpF
                    clear hpF
                    have hqQ : q.length ≤ Q.length := by
                      obtain ⟨ext, he⟩ := rlSL_pre ok (m : Int) ((nearL W H n).take t) (far, q)
                      rw [HFT.out] at he
                      have he' : Q = q ++ ext := he
                      rw [he']
                      simp
                    obtain ⟨b1_0, b1_1, b1_2⟩ := tcells b1
                    by_cases hlt2 : t < L
                    · obtain ⟨gn, cn', e, -, -⟩ := own_shape ownn (by omega)
                      cases e
                      obtain ⟨j, hj1, hj2⟩ := near_get (show t < (nearL W H n).length by rw [← HL.out]; exact hlt2)
                      have hjN : j < N := HLT.out j (List.mem_of_getElem? hj1)
                      have cj := own_int ownn t hlt2 (by rw [natsI_length]; exact HL.out)
                      rw [hj2] at cj
                      have HTK := rlS_take ok (m : Int) (nearL W H n) (far, q) hj1
                      rw [HFT.out] at HTK
                      obtain ⟨x, hx⟩ : ∃ x, x = gi F j := ⟨_, rfl⟩
                      have cx := own_int own j hjN hbF.len.symm
                      have bx := hbF.hi j hjN
                      rw [← hx] at cx bx
                      have hcj := own_cell hcr j (by rw [← HCL.out]; exact hjN) HCL.out
                      have hgj := Tryd.six0 Gc N capc j hjN
                      have HX := hidI hx
                      have HTK := hidI HTK
                      have HBF2 := hidI hbF
                      clear hj1 hj2 hx hbF
                      cases hbj : ok j with
                      | false =>
                        have HBJ := hidI (show isBallB (at0 c j) = false from by rw [← HBA.out j]; exact hbj)
                        have HT2 := hidI (show ((nearL W H n).take (t + 1)).foldl (rlS ok (m : Int)) (far, q) = (F, Q) from by
                          rw [HTK.out]; unfold rlS; rw [hbj]; rfl)
                        clear hbj
                        go_wp2_with (first | (refine r_idx 34 _ _ (.slice (some ⟨gn, 0, none⟩) L cn) (.int .i64 t) _ rfl rfl (Tryd.wix0 gn L cn t hlt2 _) rfl ?_) | (refine r_ldc 3 _ ⟨gn, t, none⟩ (.int .i64 j) rfl (Tryd.isAgg3 _) cj rfl ?_) | (go_at_call 111; refine (tyBall_any _ _).mono ?_; rintro e wSame ⟨rfl, rfl⟩; rw [HBJ.out]))
                        go_roundw
                        case rel => exact ⟨t + 1, F, Q, by omega, by go_num, HT2, hq, own, ownn, HAP, b1, hcr, gg, zi⟩
                        case measure => simp [intOf]; omega
                      | true =>
                        have HBJ := hidI (show isBallB (at0 c j) = true from by rw [← HBA.out j]; exact hbj)
                        by_cases hxn : x < 0
                        · have HT2 := hidI (show ((nearL W H n).take (t + 1)).foldl (rlS ok (m : Int)) (far, q) = (F.set j (m : Int), Q ++ [j]) from by
                            rw [HTK.out]; unfold rlS; simp only [← HX.out]; rw [if_pos (by simp [hbj, hxn])])
                          have hQb : (intsV (natsI Q)).length + 1 ≤ 1073741824 := by rw [nq_length]; omega
                          obtain ⟨gz, oz, cz, hz, hzc⟩ := hq.shape
                          rw [nq_length] at hz
                          subst hz
                          clear hbj hzc
                          go_wp2_with (first | (go_at_call 111; refine (tyBall_any _ _).mono ?_; rintro e wSame ⟨rfl, rfl⟩; rw [HBJ.out]) | (refine r_idx 34 _ _ (.slice (some ⟨gn, 0, none⟩) L cn) (.int .i64 t) _ rfl rfl (Tryd.wix0 gn L cn t hlt2 _) rfl ?_) | (refine r_ldc 3 _ ⟨gn, t, none⟩ (.int .i64 j) rfl (Tryd.isAgg3 _) cj rfl ?_) | (refine r_idx 34 _ _ (.slice (some ⟨G, 0, none⟩) N N) (.int .i64 j) _ rfl rfl (Tryd.wix0 G N N j hjN _) rfl ?_) | (refine r_ldc 3 _ ⟨G, j, none⟩ (.int .i64 x) rfl (Tryd.isAgg3 _) cx rfl ?_) | (refine r_store_own 3 3 _ _ G j N N _ _ rfl (.int .i64 (m : Int)) rfl own hjN Tryd.sizeOf3 rfl rfl ?_; intro w8 u8 own8; rw [intsV_set] at own8; have hq := hq.upd u8 (hq.ne hG5); have b1 := u8.blk b1 (by omega); have hcr := u8.row hcr (own_ne3 hcr own (by decide) rfl); have ownn := u8.row ownn (own_below ownn (by omega)); have gg := u8.gr gg (by omega); have z8 := u8.size) | (refine r_slice1 34 3 (.tmp 85) (.int .i64 j) rfl (Tryd.bsi1 _ _) rfl ?_; intro w9 B9 N9; have g9 := N9.gr; have hq := hq.gr g9; have own9 := g9.row own8; have b1 := g9.blk b1; have hcr := g9.row hcr; have ownn := g9.row ownn; have gg := gg.trans g9; have z9 := g9.size; have c9 := (Blk.cell N9.blk 0).trans rfl) | (refine r_append_q (.tmp 84) (.tmp 86) 34 3 _ 8 b6 Tryd.intsI (.slice (some ⟨gz, oz, none⟩) Q.length cz) _ rfl hq ⟨B9, 0, none⟩ 1 (.int .i64 j) rfl c9 rfl hQb (by decide) (by omega) rfl ?_; intro va wa qa ga pa))
                          have hnk := hq.ne hG5
                          have hcr := ga.row hcr (own_neQ hcr hq (by decide))
                          have own := ga.row own9 (.inr (fun e => hnk e.symm))
                          have ownn2 := ga.row ownn HAP.out
                          have b1 := ga.blk b1 (hq.ne hB6)
                          have gg := ga.gr gg (fun k hk => by have := (hq.lt k hk).1; omega)
                          have za := ga.size
                          have HAP2 := hidI (show (Value.slice (some ⟨gn, 0, none⟩) L cn).ownBlock = none ∨ (Value.slice (some ⟨gn, 0, none⟩) L cn).ownBlock ≠ va.ownBlock from .inr (fun e => by
                            rcases pa gn e.symm with h | h
                            · rcases HAP.out with h' | h'
                              · cases h'
                              · exact h' h.symm
                            · have h1 := (HNL.out gn rfl)
                              omega))
                          rw [natsI_snoc] at qa
                          go_roundw
                          case rel => exact ⟨t + 1, F.set j (m : Int), Q ++ [j], by omega, by go_num, HT2, qa, own, ownn2, HAP2, b1, hcr, gg, by omega⟩
                          case measure => simp [intOf]; omega
                        · have HT2 := hidI (show ((nearL W H n).take (t + 1)).foldl (rlS ok (m : Int)) (far, q) = (F, Q) from by
                            rw [HTK.out]; unfold rlS; simp only [← HX.out]; rw [if_neg (by simp [hxn])])
                          have hx1 : 0 ≤ x := by omega
                          clear hxn hbj
                          go_wp2_with (first | (go_at_call 111; refine (tyBall_any _ _).mono ?_; rintro e wSame ⟨rfl, rfl⟩; rw [HBJ.out]) | (refine r_idx 34 _ _ (.slice (some ⟨gn, 0, none⟩) L cn) (.int .i64 t) _ rfl rfl (Tryd.wix0 gn L cn t hlt2 _) rfl ?_) | (refine r_ldc 3 _ ⟨gn, t, none⟩ (.int .i64 j) rfl (Tryd.isAgg3 _) cj rfl ?_) | (refine r_idx 34 _ _ (.slice (some ⟨G, 0, none⟩) N N) (.int .i64 j) _ rfl rfl (Tryd.wix0 G N N j hjN _) rfl ?_) | (refine r_ldc 3 _ ⟨G, j, none⟩ (.int .i64 x) rfl (Tryd.isAgg3 _) cx rfl ?_))
                          go_roundw
                          case rel => exact ⟨t + 1, F, Q, by omega, by go_num, HT2, hq, own, ownn, HAP, b1, hcr, gg, zi⟩
                          case measure => simp [intOf]; omega
                    · obtain rfl : t = L := by omega
                      have hall := HFT.out
                      rw [List.take_of_length_le (by rw [← HL.out]; exact Nat.le_refl _)] at hall
                      have HF3 := hidI (show ∃ f, negs F + (Q.length - (k + 1)) ≤ f ∧ bfS ok W H (m : Int) f F (Q.drop (k + 1)) = R from by
                        obtain ⟨f, h1, h2⟩ := HF2.out
                        rw [hall] at h2
                        exact ⟨f, by omega, h2⟩)
                      have HBF2 := hidI hbF
                      have hnle := negs_le F
                      clear hlt2 hall hbF
                      go_wp2
                      go_roundw
                      case rel => exact ⟨k + 1, F, Q, by go_num, by omega, hq, own, HBF2.out, by omega, HF3, b1, hcr, gg, by omega⟩
                      case measure => simp [intOf]; omega
                · obtain rfl : k = q.length := by omega
                  have HFR := hidI (show far = R from by
                    obtain ⟨f, -, h⟩ := HF.out
                    rw [List.drop_of_length_le (Nat.le_refl _), bfS_nil] at h
                    exact h)
                  clear hlt hbf
                  go_wp2
                  go_roundw
                  case rel => exact ⟨i + 1, by omega, by go_num, by rw [HADD.out]; go_num, by rw [HADD.out, ← HFR.out]; exact own, hcr, b1, gg⟩
                  case measure => simp [intOf]; omega
            · have HS := hidI (HNO.out (.inr (by rw [← HX0.out]; exact hn0)))
              have hn1 : 0 ≤ x0 := by omega
              clear hb hn0
              go_wp2_with (first | (go_at_call 111; refine (tyBall_any _ _).mono ?_; rintro e wSame ⟨rfl, rfl⟩; rw [HB.out]) | (refine r_idx 34 _ _ (.slice (some ⟨G, 0, none⟩) N N) (.int .i64 i) _ rfl rfl (Tryd.wix0 G N N i hil _) rfl ?_) | (refine r_ldc 3 _ ⟨G, i, none⟩ (.int .i64 x0) rfl (Tryd.isAgg3 _) cx0 rfl ?_))
              go_roundw
              case rel => exact ⟨i + 1, by omega, by go_num, by rw [HS.out, ← HM.out], by rw [HS.out, ← HO.out]; exact own, hcr, b1, gg⟩
              case measure => simp [intOf]; omega
        · obtain rfl : N = i := by omega
          clear hil
          go_wp2
          go_ret2
          exact ⟨gg, _, rfl, own⟩
end Go.Proofs.YtdebiobhmpoiiaaDoor
