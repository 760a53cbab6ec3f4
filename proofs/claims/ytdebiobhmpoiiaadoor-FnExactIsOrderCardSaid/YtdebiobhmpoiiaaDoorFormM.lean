/-
  Forms: the model's reader of forms, the functions that only read them, and their laws.
-/
import Derived.Test.YtdebiobhmpoiiaaDoorFormS
import Derived.Test.YtdebiobhmpoiiaaDoorFormI
namespace Go.Proofs.YtdebiobhmpoiiaaDoor
open Go.RowKit
/-- What the model's reader of forms leaves. -/
def RetBu (T : TypeId) (l : List UInt8) (w : World) (e : Ending) (w' : World) : Prop :=
  Gr w w' ∧ ((fmOk l = false ∧ ∃ (x y : Int) (sl : Value), sl.oneCell' = true ∧ e = .returned (.tuple #[.agg (tg x y sl), .bool false])) ∨
    ∃ (g : Grid) (G cap : Nat), parse l = some g ∧ rdG l = g ∧ fmOk l = true ∧ fmG l = g ∧ FormG g ∧ e = .returned (.tuple #[.agg (tg g.w g.h (.slice (some ⟨G, 0, none⟩) (nn g.w g.h) cap)), .bool true]) ∧ w'.ownsRow w.heap.size T 1 (.slice (some ⟨G, 0, none⟩) (nn g.w g.h) cap) (nn g.w g.h) (cellsV g.c))
theorem inN_any (n : Nat) (w : World) : Calls Tryd.prog 84 #[.int .i64 n, .int .i64 1, .int .i64 10] w fun e w' => e = .returned (.bool (decide (1 ≤ n) && decide (n ≤ 10))) ∧ w = w' :=
  (l1In_any n 1 10 w).mono fun e w' ⟨h1, h2⟩ => ⟨by
    rw [h1]
    refine ret_bool ?_
    unfold btw
    rw [Bool.eq_iff_iff]
    simp
    omega, h2⟩
set_option maxHeartbeats 2000000 in
set_option maxRecDepth 100000 in
theorem buIs_any (W H base0 Gc capc N : Nat) (c : List UInt8) (w : World) (hw1 : 1 ≤ W) (hw7 : W ≤ 7) (hh7 : H ≤ 7) (hN : N = nn W H) (hN1 : 1 ≤ N) (h36 : N ≤ 36) (hcl : N = c.length)
    (hown : w.ownsRow base0 5 1 (.slice (some ⟨Gc, 0, none⟩) N capc) N (cellsV c)) :
    Calls Tryd.prog 110 #[.agg (tg W H (.slice (some ⟨Gc, 0, none⟩) N capc))] w (Ret (.bool (isFo W H c)) w) := by
  have gg := Gr.refl w
  obtain ⟨n, hn⟩ : ∃ n, n = (ballsTo isBallB c N).length := ⟨_, rfl⟩
  obtain ⟨p, hp⟩ : ∃ p, p = pcN W H c := ⟨_, rfl⟩
  have hn36 : n ≤ 36 := by rw [hn]; have := ballsTo_le isBallB c N; omega
  have HV := hidI (show isFo W H c = ((decide (1 ≤ n) && decide (n ≤ 10)) && decide (p = 1)) from by unfold isFo; rw [hn, hp, hN])
  have HTB := hidI (fun w (ho : w.ownsRow base0 5 1 (.slice (some ⟨Gc, 0, none⟩) N capc) N (cellsV c)) => show Calls Tryd.prog 73 #[.agg (tg W H (.slice (some ⟨Gc, 0, none⟩) N capc))] w fun e w' => Gr w w' ∧ ∃ q m, e = .returned (.slice q n m) from by
    rw [hcl] at ho ⊢
    refine (tyBalls_any W H base0 c Gc capc w (by omega) ho).mono fun e w' ⟨g, v, he, ho⟩ => ?_
    obtain ⟨q, k, m, rfl⟩ := own_slice ho
    obtain rfl : k = _ := own_len ho
    exact ⟨g, q, m, by rw [he, hn, hcl]⟩)
  have HSP := hidI (fun w (ho : w.ownsRow base0 5 1 (.slice (some ⟨Gc, 0, none⟩) N capc) N (cellsV c)) => show Calls Tryd.prog 135 #[.agg (tg W H (.slice (some ⟨Gc, 0, none⟩) N capc))] w fun e w' => Gr w w' ∧ ∃ v, e = .returned (.tuple #[v, .int .i64 p]) from
    (skPieces_any W H base0 Gc capc N c w hw1 hw7 hh7 hN hN1 h36 hcl ho).mono fun e w' ⟨g, v, he, _⟩ => ⟨g, v, by rw [he, hp]; unfold pcN; rw [hN]⟩)
  have HIN := hidI (fun w => inN_any n w)
  have hp36 : p ≤ 36 := by rw [hp]; unfold pcN; have := (skTo_ok (okB c) W H (nn W H) (Nat.le_refl _)).le; omega
  rw [HV.out]
  clear hn hp hN hcl HV
  go_enter Tryd.func110, Tryd.ntmps110
  go_wp2_with (first | (refine r_box 55 _ (tg (W) (H) (.slice (some ⟨Gc, 0, none⟩) N capc)) rfl rfl ?_; intro w1 B1 N1; have g1 := N1.gr; have b1 : Blk w1 B1 (tg (W) (H) (.slice (some ⟨Gc, 0, none⟩) N capc)) 55 := N1.blk; have l1 := N1.lo; have t1 := N1.hi; have z1 := g1.size; have gg := gg.trans g1; clear N1; obtain ⟨b1_0, b1_1, b1_2⟩ := tcells b1) | (refine r_load_row 55 _ _ rfl _ _ _ b1 Tryd.underlying55 rfl Tryd.tinfo rfl ?_) | (go_at_call 73; refine (HTB.out _ (g1.row hown)).mono ?_; rintro e w2 ⟨g2, q, m, rfl⟩; have b1 := g2.blk b1; have gg := gg.trans g2; have hown2 := g2.row (g1.row hown)) | (go_at_call 135; refine (HSP.out _ hown2).mono ?_; rintro e w3 ⟨g3, v, rfl⟩; have gg := gg.trans g3))
  obtain ⟨B1', hB1⟩ : ∃ B, B = (decide (1 ≤ n) && decide (n ≤ 10)) := ⟨_, rfl⟩
  rw [← hB1] at HIN
  have HB1 := hidI hB1
  clear hB1
  cases B1' with
  | false =>
    go_wp2_with (go_at_call 84; refine (HIN.out _).mono ?_; rintro e wSame ⟨rfl, rfl⟩)
    go_ret
    exact ⟨ret_bool (by rw [← HB1.out]; rfl), gg⟩
  | true =>
    by_cases h1 : p = 1
    · have HX := hidI (decide_eq_true h1)
      have e1 : ((p : Int) == 1) = true := by rw [h1]; rfl
      clear h1
      go_wp2_with (go_at_call 84; refine (HIN.out _).mono ?_; rintro e wSame ⟨rfl, rfl⟩)
      go_ret
      exact ⟨ret_bool (by rw [← HB1.out, HX.out]; rfl), gg⟩
    · have HX := hidI (decide_eq_false h1)
      have e1 : ((p : Int) == 1) = false := by rw [beq_eq_false_iff_ne]; omega
      clear h1
      go_wp2_with (go_at_call 84; refine (HIN.out _).mono ?_; rintro e wSame ⟨rfl, rfl⟩)
      go_ret
      exact ⟨ret_bool (by rw [← HB1.out, HX.out]; rfl), gg⟩
set_option maxHeartbeats 4000000 in
set_option maxRecDepth 100000 in
theorem buRead_any (s : ByteArray) (w : World) (hs : s.size ≤ 1048576) : Calls Tryd.prog 71 #[.string s] w (RetBu 5 s.data.toList w) := by
  have gg := Gr.refl w
  go_enter Tryd.func71, Tryd.ntmps71
  go_wp2_with (refine r_alloc (dst := some 2) 55 _ Tryd.tzero rfl ?_; intro w1 B1 N1; have g1 := N1.gr; have b1 : Blk w1 B1 (tg 0 0 (.slice none 0 0)) 55 := N1.blk; have l1 := N1.lo; have t1 := N1.hi; have z1 := g1.size; have gg := gg.trans g1; clear N1; obtain ⟨b1_0, b1_1, b1_2⟩ := tcells b1)
  refine (tyRead_any s _ hs).mono ?_
  rintro e w2 ⟨g2, ⟨hp, rfl⟩ | ⟨g, sl, hp, rfl, hown⟩⟩
  · have HF := hidI (show fmOk s.data.toList = false from by unfold fmOk; rw [(rd_parse_none hp).2]; rfl)
    have z2 := g2.size
    have b1 := g2.blk b1
    have gg := gg.trans g2
    clear hp
    go_wp2_with (first | (refine r_alloc (dst := some 4) 55 _ Tryd.tzero rfl ?_; intro w4 B4 N4; have g4 := N4.gr; have b4 : Blk w4 B4 (tg 0 0 (.slice none 0 0)) 55 := N4.blk; have l4 := N4.lo; have t4 := N4.hi; have z4 := g4.size; have b1 := g4.blk b1; obtain ⟨b1_0, b1_1, b1_2⟩ := tcells b1; have gg := gg.trans g4; clear N4; obtain ⟨b4_0, b4_1, b4_2⟩ := tcells b4) | (refine r_store_row 55 55 _ _ _ rfl (tg _ _ _) _ rfl b4 Tryd.tsize rfl (tg_one rfl) rfl ?_; intro w3 u3 b4'; have z3 := u3.size; have gg := u3.gr gg (by omega); have b1 := u3.blk b1 (by omega); obtain ⟨b1_0, b1_1, b1_2⟩ := tcells b1; clear b4; have b4 := b4'; clear b4'; obtain ⟨b4_0, b4_1, b4_2⟩ := tcells b4) | (refine r_load_row 55 _ _ rfl _ _ _ b4 Tryd.underlying55 rfl Tryd.tinfo rfl ?_) | (refine r_store_row 55 55 _ _ _ rfl (tg _ _ _) _ rfl b1 Tryd.tsize rfl (tg_one rfl) rfl ?_; intro w5 u5 b1'; have z5 := u5.size; have gg := u5.gr gg (by omega); have b4 := u5.blk b4 (by omega); obtain ⟨b4_0, b4_1, b4_2⟩ := tcells b4; clear b1; have b1 := b1'; clear b1'; obtain ⟨b1_0, b1_1, b1_2⟩ := tcells b1))
    refine bodyPost_ret (results_row_bool rfl _ _ _ _ _ _ rfl b1 Tryd.underlying55 rfl Tryd.tinfo) rfl ?_
    exact ⟨gg, .inl ⟨HF.out, 0, 0, _, rfl, rfl⟩⟩
  · obtain ⟨hg, hk⟩ := rd_parse_some hp
    have ht := parse_tray hp
    have hw1 := ht.w1
    have hw7 := ht.w7
    have hh7 := ht.h7
    obtain ⟨N, hN⟩ : ∃ N, N = nn g.w g.h := ⟨_, rfl⟩
    have hN1 : 1 ≤ N := by rw [hN]; exact Nat.mul_pos ht.w1 ht.h1
    have h36 : N ≤ 36 := by rw [hN]; exact ht.n36
    have hcl : N = g.c.length := by rw [ht.len, hN]
    rw [← hcl] at hown
    obtain ⟨Gc, capc, rfl, hG, hcap⟩ := own_shape hown hN1
    have z2 := g2.size
    have b1 := g2.blk b1
    have gg := gg.trans g2
    have HNO := hidI (fun (i : Nat) (hi : i < N) (h : foB (at0 g.c i) = false) => show fmOk s.data.toList = false from by
      unfold fmOk
      rw [hg]
      have : foAll g.c (nn g.w g.h) = false := by
        rw [← Bool.not_eq_true, foAll_iff]
        intro ha
        have := ha i (by rw [← hN]; exact hi)
        rw [h] at this
        cases this
      unfold foG
      rw [this, Bool.false_and, Bool.and_false])
    have HYES := hidI (fun (h : ∀ i, i < N → foB (at0 g.c i) = true) => show (isFo g.w g.h g.c = false → fmOk s.data.toList = false) ∧ (isFo g.w g.h g.c = true → fmOk s.data.toList = true ∧ fmG s.data.toList = g ∧ FormG g) from by
      have hA : foAll g.c (nn g.w g.h) = true := foAll_iff.2 (by rw [← hN]; exact h)
      have e : fmOk s.data.toList = isFo g.w g.h g.c := by unfold fmOk foG; rw [hg, hA, hk]; rfl
      refine ⟨fun h2 => by rw [e, h2], fun h2 => ?_⟩
      have e2 : fmOk s.data.toList = true := by rw [e, h2]
      exact ⟨e2, by unfold fmG; rw [e2, hg]; rfl, ht, fun i hi => h i (by rw [hcl]; exact hi), h2⟩)
    have HBI := hidI (fun w (ho : w.ownsRow w1.heap.size 5 1 (.slice (some ⟨Gc, 0, none⟩) N capc) N (cellsV g.c)) => buIs_any g.w g.h w1.heap.size Gc capc N g.c w hw1 hw7 hh7 hN hN1 h36 hcl ho)
    have HP := hidI hp
    have HG := hidI hg
    have HN := hidI hN
    have HCL := hidI hcl
    clear hp hg hk ht hN hcl
    go_wp2_with (first | (refine r_alloc (dst := some 4) 55 _ Tryd.tzero rfl ?_; intro w4 B4 N4; have g4 := N4.gr; have b4 : Blk w4 B4 (tg 0 0 (.slice none 0 0)) 55 := N4.blk; have l4 := N4.lo; have t4 := N4.hi; have z4 := g4.size; have b1 := g4.blk b1; obtain ⟨b1_0, b1_1, b1_2⟩ := tcells b1; have gg := gg.trans g4; clear N4; obtain ⟨b4_0, b4_1, b4_2⟩ := tcells b4) | (refine r_store_row 55 55 _ _ _ rfl (tg _ _ _) _ rfl b4 Tryd.tsize rfl (tg_one rfl) rfl ?_; intro w3 u3 b4'; have z3 := u3.size; have gg := u3.gr gg (by omega); have b1 := u3.blk b1 (by omega); obtain ⟨b1_0, b1_1, b1_2⟩ := tcells b1; clear b4; have b4 := b4'; clear b4'; obtain ⟨b4_0, b4_1, b4_2⟩ := tcells b4))
    have own := u3.row (g4.row hown) (own_new hown l4)
    go_loopw [19] (fun iv wr => ∃ k : Nat, k ≤ N ∧ iv = .int .i64 k ∧ Hid (∀ i, i < k → foB (at0 g.c i) = true) ∧ wr.ownsRow w1.heap.size 5 1 (.slice (some ⟨Gc, 0, none⟩) N capc) N (cellsV g.c) ∧ Blk wr B1 (tg 0 0 (.slice none 0 0)) 55 ∧ Blk wr B4 (tg g.w g.h (.slice (some ⟨Gc, 0, none⟩) N capc)) 55 ∧ Gr w wr) (fun iv _ => N - (intOf iv).toNat)
    case atStart => exact ⟨0, Nat.zero_le _, rfl, hidI (fun i h => absurd h (Nat.not_lt_zero _)), own, b1, b4, gg⟩
    case round =>
      clear own b1 b4 gg
      obtain ⟨k, hk, rfl, HA, own, b1, b4, gg⟩ := hrel
      have tb1 := b1.lt
      have hB14 : B1 < B4 := by omega
      by_cases hlt : k < N
      · have hck := own_cell own k (by rw [← HCL.out]; exact hlt) HCL.out
        have hgk := Tryd.six0 Gc N capc k hlt
        by_cases h1 : at0 g.c k = 46
        · have HA2 := hidI (show ∀ i, i < k + 1 → foB (at0 g.c i) = true from fun i hi => if h : i < k then HA.out i h else by rw [show i = k by omega, h1]; rfl)
          have e1 : (((at0 g.c k).toNat : Int) == 46) = true := beq_byte h1
          have e2 : (((at0 g.c k).toNat : Int) != 46) = false := by rw [bne, e1]; rfl
          clear h1
          go_wp2
          go_roundw
          case rel => exact ⟨k + 1, by omega, by go_num, HA2, own, b1, b4, gg⟩
          case measure => simp [intOf]; omega
        · have e1 : (((at0 g.c k).toNat : Int) == 46) = false := bne_byte h1
          have e2 : (((at0 g.c k).toNat : Int) != 46) = true := by rw [bne, e1]; rfl
          by_cases h2 : at0 g.c k = 111
          · have HA2 := hidI (show ∀ i, i < k + 1 → foB (at0 g.c i) = true from fun i hi => if h : i < k then HA.out i h else by rw [show i = k by omega, h2]; rfl)
            have e3 : (((at0 g.c k).toNat : Int) == 111) = true := beq_byte h2
            have e4 : (((at0 g.c k).toNat : Int) != 111) = false := by rw [bne, e3]; rfl
            clear h1 h2
            go_wp2
            go_roundw
            case rel => exact ⟨k + 1, by omega, by go_num, HA2, own, b1, b4, gg⟩
            case measure => simp [intOf]; omega
          · have e3 : (((at0 g.c k).toNat : Int) == 111) = false := bne_byte h2
            have e4 : (((at0 g.c k).toNat : Int) != 111) = true := by rw [bne, e3]; rfl
            have HF := hidI (HNO.out k hlt (by unfold foB; simp [h1, h2]))
            clear h1 h2
            go_wp2_with (first | (refine r_load_row 55 _ _ rfl _ _ _ b4 Tryd.underlying55 rfl Tryd.tinfo rfl ?_) | (refine r_store_row 55 55 _ _ _ rfl (tg _ _ _) _ rfl b1 Tryd.tsize rfl (tg_one rfl) rfl ?_; intro w5 u5 b1'; have z5 := u5.size; have gg := u5.gr gg (by omega); have b4 := u5.blk b4 (by omega); obtain ⟨b4_0, b4_1, b4_2⟩ := tcells b4; clear b1; have b1 := b1'; clear b1'; obtain ⟨b1_0, b1_1, b1_2⟩ := tcells b1))
            refine bodyPost_ret (results_row_bool rfl _ _ _ _ _ _ rfl b1 Tryd.underlying55 rfl Tryd.tinfo) rfl ?_
            exact ⟨gg, .inl ⟨HF.out, _, _, _, rfl, rfl⟩⟩
      · obtain rfl : N = k := by omega
        have HY := hidI (HYES.out HA.out)
        obtain ⟨B, hB⟩ : ∃ B, B = isFo g.w g.h g.c := ⟨_, rfl⟩
        have HB := hidI hB
        rw [← hB] at HY
        have HBI := hidI (fun w ho => show Calls Tryd.prog 110 #[.agg (tg g.w g.h (.slice (some ⟨Gc, 0, none⟩) N capc))] w (Ret (.bool B) w) from by rw [hB]; exact HBI.out w ho)
        clear hlt hB
        go_wp2
        have gd := (Gr.refl wr).drew
        have b1 := gd.blk b1
        have b4 := gd.blk b4
        have own := gd.row own
        have gg := gg.trans gd
        refine K_begin (fun w => Blk w B4 (tg g.w g.h (.slice (some ⟨Gc, 0, none⟩) N capc)) 55) 5 5 #[false, false, false, false, false] rfl (by kernel_rfl) (by kernel_rfl) ?_
        generalize wr.drew = wd at *
        refine K_take 0 #[true, false, false, false, false] rfl (by kernel_rfl) (fun _ _ _ h => h) rfl (fun w hF => e_load_row 55 (.tmp 4) B4 _ _ _ rfl hF Tryd.underlying55 rfl Tryd.tinfo) (b4) ?_; simp only [Act.put, List.setIfInBounds_toArray, List.set_cons_succ, List.set_cons_zero]
        refine K_take 1 #[true, true, false, false, false] rfl (by kernel_rfl) (fun _ _ _ h => h) rfl (fun w hF => e_load_row 55 (.tmp 4) B4 _ _ _ rfl hF Tryd.underlying55 rfl Tryd.tinfo) (b4) ?_; simp only [Act.put, List.setIfInBounds_toArray, List.set_cons_succ, List.set_cons_zero]
        refine K_one 2 #[true, true, true, false, false] rfl (by kernel_rfl) ?_
        refine r_call 110 [.tmp 32] _ [.agg (tg g.w g.h (.slice (some ⟨Gc, 0, none⟩) N capc))] (.bool B) (fun w' => Gr wd w') Tryd.call110 rfl rfl (HBI.out wd own) ?_
        intro w5 g5
        have b1 := g5.blk b1
        have b4 := g5.blk b4
        have own := g5.row own
        have gg := gg.trans g5
        simp only [Act.put, List.setIfInBounds_toArray, List.set_cons_succ, List.set_cons_zero]
        refine ⟨fun _ => b4, ?_⟩
        refine K_one 3 #[true, true, true, true, false] rfl (by kernel_rfl) ?_
        refine r_store_row 55 55 _ _ B1 rfl (tg g.w g.h (.slice (some ⟨Gc, 0, none⟩) N capc)) _ rfl b1 Tryd.tsize rfl (tg_one rfl) rfl ?_
        intro w6 u6 b1'
        simp only [Act.put]
        have hne := own_ne own b1 (by decide)
        have b4 := u6.blk b4 (by omega)
        have own := u6.row own hne
        have gg := u6.gr gg (by omega)
        refine ⟨fun _ => b4, ?_⟩
        refine K_one 4 #[true, true, true, true, true] rfl (by kernel_rfl) ?_
        refine r_val (.bool B) rfl rfl ?_
        simp only [Act.put, List.setIfInBounds_toArray, List.set_cons_succ, List.set_cons_zero]
        refine ⟨fun _ => b4, ?_⟩
        refine K_done' (by kernel_rfl) ?_
        go_wp2
        refine bodyPost_ret (results_row_bool rfl _ _ _ _ _ _ rfl b1' Tryd.underlying55 rfl Tryd.tinfo) rfl ?_
        refine ⟨gg, ?_⟩
        cases B with
        | false => exact .inl ⟨HY.out.1 rfl, _, _, _, rfl, rfl⟩
        | true =>
          obtain ⟨e1, e2, F⟩ := HY.out.2 rfl
          refine .inr ⟨g, Gc, capc, HP.out, HG.out, e1, e2, F, ?_, ?_⟩
          · rw [← HN.out]
            rfl
          · rw [← HN.out]
            exact own_up own (by omega)
end Go.Proofs.YtdebiobhmpoiiaaDoor
