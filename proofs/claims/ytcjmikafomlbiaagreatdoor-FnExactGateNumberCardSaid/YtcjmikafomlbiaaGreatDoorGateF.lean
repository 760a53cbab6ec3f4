/-
  slices.IndexFunc and slices.ContainsFunc over numbers; cells of a list that are different, free, or walls.
-/
import Derived.Test.YtcjmikafomlbiaaGreatDoorGateM
import Derived.Test.YtcjmikafomlbiaaGreatDoorPeriI
import Derived.Test.YtcjmikafomlbiaaGreatDoorCallC
import Derived.Test.YtcjmikafomlbiaaGreatDoorOps
namespace Go.Proofs.YtcjmikafomlbiaaGreatDoor
open Go.RowKit
set_option maxHeartbeats 800000 in
set_option maxRecDepth 100000 in
theorem indexZ_any (f : FuncId) (hcf : ∀ args w, (callFunc f args).run Tryz.prog w = .ok (.enter f args) w) (q : Int → Bool) (L : List Int) (B base : Nat) (sl : Value) (w0 w : World) (hl : L.length ≤ 1000) (hown : w.ownsRow base 3 1 sl L.length (intsV L)) (g0 : Gr w0 w)
    (HP : ∀ j, j < L.length → ∀ w', Gr w0 w' → Calls Tryz.prog f #[.int .i64 (gi L j), .pointer (some ⟨B, 0, none⟩)] w' (Ret (.bool (q (gi L j))) w')) :
    Calls Tryz.prog 55 #[sl, .func (.func f) #[] #[.pointer (some ⟨B, 0, none⟩)]] w (Ret (.int .i64 (fiN (fun j => q (gi L j)) L.length)) w) := by
  have gg := Gr.refl w
  obtain ⟨N, hN⟩ : ∃ N, N = L.length := ⟨_, rfl⟩
  rw [← hN] at hown hl ⊢
  have HAT := hidI (fun j (h : ∀ k, k < j → q (gi L k) = false) (hp : q (gi L j) = true) (hj : j < N) => fiN_at (p := fun k => q (gi L k)) h hp hj)
  have HNO := hidI (fun (h : ∀ k, k < N → q (gi L k) = false) => fiN_no (p := fun k => q (gi L k)) h)
  obtain ⟨R, hR⟩ : ∃ R, R = fiN (fun k => q (gi L k)) N := ⟨_, rfl⟩
  rw [← hR] at HAT HNO ⊢
  have HPP := hidI (fun j (hj : j < N) => HP j (by omega))
  have HG := hidI (fun j (hj : j < N) => intsV_getM L j (by omega))
  clear hR HP hN
  obtain ⟨p, cap, rfl⟩ := own_sliceN hown
  go_enter Tryz.func55, Tryz.ntmps55
  go_wp2
  go_loopw [8] (fun iv wr => ∃ j : Nat, j ≤ N ∧ iv = .int .i64 j ∧ (∀ k, k < j → q (gi L k) = false) ∧ Gr w wr) (fun iv _ => N - (intOf iv).toNat)
  case atStart => exact ⟨0, Nat.zero_le _, rfl, fun k hk => absurd hk (Nat.not_lt_zero _), gg⟩
  case round =>
    obtain ⟨j, hj, rfl, hall, gg⟩ := hrel
    have own := gg.row hown
    by_cases hlt : j < N
    · have HALL := hidI hall
      clear hall
      obtain ⟨G, cap', he, -, -⟩ := own_shape own (by omega)
      obtain ⟨rfl, rfl⟩ : p = some ⟨G, 0, none⟩ ∧ cap = cap' := by
        simp only [Value.slice.injEq] at he
        exact ⟨he.1, he.2.2⟩
      have hcell := (own.cellAt j (by omega)).trans (HG.out j hlt)
      have HC := hidI (HPP.out j hlt _ (g0.trans gg))
      obtain ⟨l, hl⟩ : ∃ l, l = gi L j := ⟨_, rfl⟩
      have HLJ := hidI hl
      rw [← hl] at hcell HC
      clear he hl
      cases hb : q l
      · rw [hb] at HC
        have HB := hidI hb
        clear hb
        go_wp2_with (first | (refine r_idx 22 _ _ (.slice (some ⟨G, 0, none⟩) N cap) (.int .i64 j) _ rfl rfl (Tryz.iixM G N cap j hlt _) rfl ?_) | (refine r_ldc 3 _ ⟨G, j, none⟩ (.int .i64 l) rfl (Tryz.isAgg3 _) hcell rfl ?_) | (refine r_callc f (.tmp 11) [.tmp 15] _ [.int .i64 l] [.pointer (some ⟨B, 0, none⟩)] (.bool false) (fun w' => Gr _ w') hcf rfl rfl rfl HC.out ?_; intro w5 g5; have gg := gg.trans g5))
        go_roundw
        case rel => exact ⟨j + 1, by omega, by go_num, fun k hk => (by rcases Nat.lt_succ_iff_lt_or_eq.1 hk with h | rfl; exact HALL.out k h; rw [← HLJ.out]; exact HB.out), gg⟩
        case measure => simp [intOf]; omega
      · rw [hb] at HC
        have HB := hidI hb
        clear hb
        go_wp2_with (first | (refine r_idx 22 _ _ (.slice (some ⟨G, 0, none⟩) N cap) (.int .i64 j) _ rfl rfl (Tryz.iixM G N cap j hlt _) rfl ?_) | (refine r_ldc 3 _ ⟨G, j, none⟩ (.int .i64 l) rfl (Tryz.isAgg3 _) hcell rfl ?_) | (refine r_callc f (.tmp 11) [.tmp 15] _ [.int .i64 l] [.pointer (some ⟨B, 0, none⟩)] (.bool true) (fun w' => Gr _ w') hcf rfl rfl rfl HC.out ?_; intro w5 g5; have gg := gg.trans g5))
        go_ret
        exact ⟨ret_int (HAT.out j HALL.out (by rw [← HLJ.out]; exact HB.out) hlt).symm, gg⟩
    · obtain rfl : j = N := by omega
      have HV := hidI (HNO.out hall)
      clear hlt hall
      go_wp2
      go_ret
      exact ⟨ret_int HV.out.symm, gg⟩
set_option maxHeartbeats 400000 in
set_option maxRecDepth 100000 in
theorem containsZ_any (f : FuncId) (hcf : ∀ args w, (callFunc f args).run Tryz.prog w = .ok (.enter f args) w) (q : Int → Bool) (L : List Int) (B base : Nat) (sl : Value) (w : World) (hl : L.length ≤ 1000) (hown : w.ownsRow base 3 1 sl L.length (intsV L))
    (HP : ∀ j, j < L.length → ∀ w', Gr w w' → Calls Tryz.prog f #[.int .i64 (gi L j), .pointer (some ⟨B, 0, none⟩)] w' (Ret (.bool (q (gi L j))) w')) :
    Calls Tryz.prog 38 #[sl, .func (.func f) #[] #[.pointer (some ⟨B, 0, none⟩)]] w (Ret (.bool (L.any q)) w) := by
  have gg := Gr.refl w
  have HI := hidI (fun w' (g : Gr w w') => indexZ_any f hcf q L B base sl w w' hl (g.row hown) g HP)
  have HA := hidI (show L.any q = decide (0 ≤ fiN (fun j => q (gi L j)) L.length) from by
    rw [Bool.eq_iff_iff, List.any_eq_true, decide_eq_true_eq]
    unfold fiN
    cases hf : (List.range L.length).find? (fun j => q (gi L j)) with
    | none =>
      rw [List.find?_eq_none] at hf
      constructor
      · rintro ⟨x, hx, hq⟩
        obtain ⟨j, hj, rfl⟩ := List.getElem_of_mem hx
        have := hf j (List.mem_range.2 hj)
        unfold gi at this
        rw [List.getD_eq_getElem?_getD, List.getElem?_eq_getElem hj] at this
        exact absurd hq this
      · intro h
        exact absurd h (by show ¬ (0 : Int) ≤ -1; omega)
    | some k =>
      have h1 := List.find?_some hf
      have h2 := List.mem_range.1 (List.mem_of_find?_eq_some hf)
      constructor
      · intro _
        show (0 : Int) ≤ (k : Nat)
        omega
      · intro _
        refine ⟨gi L k, ?_, h1⟩
        unfold gi
        rw [List.getD_eq_getElem?_getD, List.getElem?_eq_getElem h2]
        exact List.getElem_mem _)
  obtain ⟨R, hR⟩ : ∃ R, R = fiN (fun j => q (gi L j)) L.length := ⟨_, rfl⟩
  rw [← hR] at HI HA
  clear hR HP hown
  rw [HA.out]
  by_cases h0 : 0 ≤ R
  · go_enter Tryz.func38, Tryz.ntmps38
    go_wp2_with (go_at_call 55; refine (HI.out _ gg).mono ?_; rintro e w1 ⟨rfl, g1⟩; have gg := gg.trans g1)
    go_ret
    exact ⟨ret_bool (by simp [h0]), gg⟩
  · go_enter Tryz.func38, Tryz.ntmps38
    go_wp2_with (go_at_call 55; refine (HI.out _ gg).mono ?_; rintro e w1 ⟨rfl, g1⟩; have gg := gg.trans g1)
    go_ret
    exact ⟨ret_bool (by simp), gg⟩
/-- A list has the numbers of one to three different cells. -/
def adB (g : Grid) (L : List Int) : Bool := decide (1 ≤ L.length ∧ L.length ≤ 3) && L.all (fun x => inB x (nn g.w g.h)) && decide (cdT L L.length = L.length)
set_option maxHeartbeats 400000 in
set_option maxRecDepth 100000 in
theorem outside_any (g : Grid) (x : Int) (B : Nat) (w : World) (w7 : g.w ≤ 7) (h7 : g.h ≤ 7) (hb : Blk w B (gv g.w g.h g.c) 42) :
    Calls Tryz.prog 53 #[.int .i64 x, .pointer (some ⟨B, 0, none⟩)] w (Ret (.bool (!inB x (nn g.w g.h))) w) := by
  have gg := Gr.refl w
  have HN := hidI (fun w => hasNumber_any g.w g.h g.c x w w7 h7)
  obtain ⟨v, hv⟩ : ∃ v, v = inB x (nn g.w g.h) := ⟨_, rfl⟩
  rw [← hv] at HN ⊢
  clear hv
  go_enter Tryz.func53, Tryz.ntmps53
  go_wp2_with (first | (refine r_load_row 42 _ _ rfl _ _ _ hb Tryz.underlying42 rfl (Tryz.ginfo' _ _ _) rfl ?_) | (go_at_call 54; refine (HN.out _).mono ?_; rintro e w1 ⟨rfl, g1⟩; have gg := gg.trans g1))
  go_ret
  exact ⟨rfl, gg⟩
set_option maxHeartbeats 800000 in
set_option maxRecDepth 100000 in
theorem areDiff_any (g : Grid) (L : List Int) (base : Nat) (sl : Value) (w : World) (w7 : g.w ≤ 7) (h7 : g.h ≤ 7) (hown : w.ownsRow base 3 1 sl L.length (intsV L)) (hw : ∀ k, k < L.length → (Lit.int .i64 (gi L k)).wf = true) :
    Calls Tryz.prog 35 #[.agg (gv g.w g.h g.c), sl] w (Ret (.bool (adB g L)) w) := by
  have gg := Gr.refl w
  obtain ⟨p, cap, rfl⟩ := own_sliceN hown
  by_cases h1 : L.length < 1
  · have HV := hidI (show adB g L = false from by unfold adB; rw [decide_eq_false (by omega)]; rfl)
    have hl : ((L.length : Int) < 1) := by omega
    go_enter Tryz.func35, Tryz.ntmps35
    go_wp2_with (refine r_box 42 _ (gv g.w g.h g.c) rfl rfl ?_; intro w1 B1 N1; have g1 := N1.gr; have b1 : Blk w1 B1 (gv g.w g.h g.c) 42 := N1.blk; have l1 := N1.lo; have t1 := N1.hi; have z1 := g1.size; have gg := gg.trans g1; clear N1; obtain ⟨b1_0, b1_1, b1_2⟩ := gcells b1)
    go_ret
    exact ⟨ret_bool HV.out.symm, gg⟩
  · by_cases h3 : 3 < L.length
    · have HV := hidI (show adB g L = false from by unfold adB; rw [decide_eq_false (by omega)]; rfl)
      go_enter Tryz.func35, Tryz.ntmps35
      go_wp2_with (refine r_box 42 _ (gv g.w g.h g.c) rfl rfl ?_; intro w1 B1 N1; have g1 := N1.gr; have b1 : Blk w1 B1 (gv g.w g.h g.c) 42 := N1.blk; have l1 := N1.lo; have t1 := N1.hi; have z1 := g1.size; have gg := gg.trans g1; clear N1; obtain ⟨b1_0, b1_1, b1_2⟩ := gcells b1)
      go_ret
      exact ⟨ret_bool HV.out.symm, gg⟩
    · have HV := hidI (show adB g L = (!(L.any fun x => !inB x (nn g.w g.h)) && decide (cdT L L.length = L.length)) from by
        unfold adB
        rw [decide_eq_true (by omega), Bool.true_and, List.not_any_eq_all_not]
        simp)
      have HCF := hidI (fun (w' : World) (B : Nat) (b : Blk w' B (gv g.w g.h g.c) 42) (own : w'.ownsRow base 3 1 (.slice p L.length cap) L.length (intsV L)) => containsZ_any 53 Tryz.call53 (fun x => !inB x (nn g.w g.h)) L B base (.slice p L.length cap) w' (by omega) own (fun j _ w2 g2 => outside_any g (gi L j) B w2 w7 h7 (g2.blk b)))
      have HCD := hidI (fun (w' : World) (own : w'.ownsRow base 3 1 (.slice p L.length cap) L.length (intsV L)) => countDiff_any L base (.slice p L.length cap) w' (by omega) own hw)
      obtain ⟨N, hN⟩ : ∃ N, N = L.length := ⟨_, rfl⟩
      obtain ⟨q, hq⟩ : ∃ q, q = cdT L L.length := ⟨_, rfl⟩
      obtain ⟨r, hr⟩ : ∃ r, r = L.any fun x => !inB x (nn g.w g.h) := ⟨_, rfl⟩
      rw [← hq, ← hr, ← hN] at HV
      rw [← hq, ← hN] at HCD
      rw [← hr, ← hN] at HCF
      rw [← hN] at h1 h3 hown ⊢
      have hl1 : ¬ ((N : Int) < 1) := by omega
      have hl3 : ¬ ((3 : Int) < (N : Int)) := by omega
      clear hq hr hN hw
      cases r with
      | true =>
        go_enter Tryz.func35, Tryz.ntmps35
        go_wp2_with (first | ((refine r_box 42 _ (gv g.w g.h g.c) rfl rfl ?_; intro w1 B1 N1; have g1 := N1.gr; have b1 : Blk w1 B1 (gv g.w g.h g.c) 42 := N1.blk; have l1 := N1.lo; have t1 := N1.hi; have z1 := g1.size; have gg := gg.trans g1; clear N1; obtain ⟨b1_0, b1_1, b1_2⟩ := gcells b1); have own := g1.row hown) | (go_at_call 38; refine (HCF.out _ B1 b1 own).mono ?_; rintro e w2 ⟨rfl, g2⟩; have own := g2.row own; have gg := gg.trans g2))
        go_ret
        exact ⟨ret_bool HV.out.symm, gg⟩
      | false =>
        by_cases he : q = N
        · have he' : ((q : Int) == (N : Int)) = true := by rw [he]; simp
          have HV' := hidI (show adB g L = true from by rw [HV.out, decide_eq_true he]; rfl)
          clear he
          go_enter Tryz.func35, Tryz.ntmps35
          go_wp2_with (first | ((refine r_box 42 _ (gv g.w g.h g.c) rfl rfl ?_; intro w1 B1 N1; have g1 := N1.gr; have b1 : Blk w1 B1 (gv g.w g.h g.c) 42 := N1.blk; have l1 := N1.lo; have t1 := N1.hi; have z1 := g1.size; have gg := gg.trans g1; clear N1; obtain ⟨b1_0, b1_1, b1_2⟩ := gcells b1); have own := g1.row hown) | (go_at_call 38; refine (HCF.out _ B1 b1 own).mono ?_; rintro e w2 ⟨rfl, g2⟩; have own := g2.row own; have gg := gg.trans g2) | (go_at_call 28; refine (HCD.out _ own).mono ?_; rintro e w3 ⟨rfl, g3⟩; have gg := gg.trans g3))
          go_ret
          exact ⟨ret_bool HV'.out.symm, gg⟩
        · have he' : ((q : Int) == (N : Int)) = false := by rw [beq_eq_false_iff_ne]; omega
          have HV' := hidI (show adB g L = false from by rw [HV.out, decide_eq_false he]; rfl)
          clear he
          go_enter Tryz.func35, Tryz.ntmps35
          go_wp2_with (first | ((refine r_box 42 _ (gv g.w g.h g.c) rfl rfl ?_; intro w1 B1 N1; have g1 := N1.gr; have b1 : Blk w1 B1 (gv g.w g.h g.c) 42 := N1.blk; have l1 := N1.lo; have t1 := N1.hi; have z1 := g1.size; have gg := gg.trans g1; clear N1; obtain ⟨b1_0, b1_1, b1_2⟩ := gcells b1); have own := g1.row hown) | (go_at_call 38; refine (HCF.out _ B1 b1 own).mono ?_; rintro e w2 ⟨rfl, g2⟩; have own := g2.row own; have gg := gg.trans g2) | (go_at_call 28; refine (HCD.out _ own).mono ?_; rintro e w3 ⟨rfl, g3⟩; have gg := gg.trans g3))
          go_ret
          exact ⟨ret_bool HV'.out.symm, gg⟩
end Go.Proofs.YtcjmikafomlbiaaGreatDoor
