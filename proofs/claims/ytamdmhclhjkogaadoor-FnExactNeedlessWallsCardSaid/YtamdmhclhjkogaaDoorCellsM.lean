/-
  The cells that a ball comes to, in the model.
-/
import Derived.Test.YtamdmhclhjkogaaDoorCellsO
namespace Go.Proofs.YtamdmhclhjkogaaDoor
open Go.RowKit
theorem rcS_knownC {l : List UInt8} {S : List (Sta Grid)} (h : rcS l = some S) : 0 < S.length ∧ S.length ≤ 300 ∧ ∀ j, j < S.length → Cel (sta S j).t ∧ 1 ≤ (sta S j).t.w ∧ 1 ≤ (sta S j).t.h := by
  obtain ⟨g, hp, hi⟩ := rcS_inv h
  obtain ⟨-, h1, h2, -⟩ := cel_of hp
  exact ⟨hi.pos, hi.le, fun j hj => by
    have := hi.good j hj
    exact ⟨this.cel, by rw [this.w]; exact h1, by rw [this.h]; exact h2⟩⟩
theorem cb_name_bounds {b : UInt8} : isNameB b = true ↔ 97 ≤ (b.toNat : Int) ∧ (b.toNat : Int) ≤ 102 := by
  unfold isNameB
  rw [Bool.and_eq_true, decide_eq_true_eq, decide_eq_true_eq, UInt8.le_iff_toNat_le, UInt8.le_iff_toNat_le]
  have h1 : (97 : UInt8).toNat = 97 := rfl
  have h2 : (102 : UInt8).toNat = 102 := rfl
  omega
theorem SSt.upC {b0 base : Nat} {w : World} {v : Value} {S : List (Sta Grid)} {bk : Nat → Nat} {sl nx : Nat → Value} (h : SSt base w v S bk sl nx) (hb : b0 ≤ base) : SSt b0 w v S bk sl nx :=
  ⟨own_up h.row hb, h.blk, fun j hj => Nat.le_trans hb (h.lo j hj), h.inj, fun j hj => own_up (h.grd j hj) hb⟩
theorem SNx.upC {b0 base : Nat} {w : World} {S : List (Sta Grid)} {nx : Nat → Value} (h : SNx base w S nx) (hb : b0 ≤ base) : SNx b0 w S nx := ⟨fun j hj => own_up (h.nxt j hj) hb⟩
theorem e_lssC {P : Program} {w : World} {a : Act} {dst : Option Tmp} {ty T yt : TypeId} {pos : String} {aft : Array Edge} {gd : Option (Nat × Bool)} {k : IntKind} (x y : Operand) (m n : Int) (v : Bool) (hx : a.eval x = .int k m) (hy : a.eval y = .int k n) (hv : decide (m < n) = v) :
    (execOp a.eval ⟨dst, .binOp .lss T x y yt, ty, pos, aft, gd⟩).run P w = .ok (.value (.bool v)) w := by
  subst hv
  unfold execOp
  simp [hx, hy, eqGuard, binOp, Op.intCmp]
set_option maxHeartbeats 1000000 in
theorem reName_any (n : ByteArray) (w : World) : Calls Tryd.prog 74 #[.string n] w fun e w' => e = .returned (.bool (nameS n)) ∧ w = w' := by
  by_cases hsz : n.size = 1
  · have hn1 := one_of n hsz
    obtain ⟨b, hb⟩ : ∃ b, hd n = b := ⟨_, rfl⟩
    rw [hb] at hn1
    subst hn1
    have hix := fun w => s_idx0 (P := Tryd.prog) Tryd.underlying9 b w
    have hns : nameS ⟨#[b]⟩ = isNameB b := by unfold nameS; rw [decide_eq_true hsz, hb]; rfl
    have hcs : (97 ≤ (b.toNat : Int) ∧ (b.toNat : Int) ≤ 102) ∨ (b.toNat : Int) < 97 ∨ (97 ≤ (b.toNat : Int) ∧ 102 < (b.toNat : Int)) := by omega
    rcases hcs with ⟨n1, n2⟩ | n1 | ⟨n1, n2⟩
    · have HV := hidI (show nameS ⟨#[b]⟩ = true from by rw [hns]; exact cb_name_bounds.2 ⟨n1, n2⟩)
      clear hns hsz hb
      go_enter Tryd.func74, Tryd.ntmps74
      go_wp2
      go_ret
      exact ⟨ret_bool HV.out.symm, rfl⟩
    · have HV := hidI (show nameS ⟨#[b]⟩ = false from by rw [hns, ← Bool.not_eq_true, cb_name_bounds]; omega)
      clear hns hsz hb
      go_enter Tryd.func74, Tryd.ntmps74
      go_wp2
      go_ret
      exact ⟨ret_bool HV.out.symm, rfl⟩
    · have HV := hidI (show nameS ⟨#[b]⟩ = false from by rw [hns, ← Bool.not_eq_true, cb_name_bounds]; omega)
      clear hns hsz hb
      go_enter Tryd.func74, Tryd.ntmps74
      go_wp2
      go_ret
      exact ⟨ret_bool (by rw [HV.out]; exact decide_eq_false (by omega)), rfl⟩
  · have HV := hidI (show nameS n = false from by unfold nameS; rw [decide_eq_false hsz]; rfl)
    have hn : ((n.size : Int) == 1) = false := by rw [beq_eq_false_iff_ne]; omega
    clear hsz
    go_enter Tryd.func74, Tryd.ntmps74
    go_wp2
    go_ret
    exact ⟨ret_bool HV.out.symm, rfl⟩
set_option maxHeartbeats 2000000 in
set_option maxRecDepth 100000 in
theorem reBall_any (s n : ByteArray) (w : World) (hs : s.size ≤ 1048576) : Calls Tryd.prog 70 #[.string s, .string n] w (RetM (rbS s.data.toList n) w) := by
  have gg := Gr.refl w
  go_enter Tryd.func70, Tryd.ntmps70
  go_wp2_with fail
  refine (tyRead_any s _ hs).mono ?_
  rintro e w1 ⟨g1, ⟨hp, rfl⟩ | ⟨g, sl, hp, rfl, hown⟩⟩
  · have HV := hidI (show rbS s.data.toList n = none from by unfold rbS; rw [hp])
    have z1 := g1.size
    have gg := gg.trans g1
    clear hp
    go_wp2_with (first | (refine r_alloc 58 _ Tryd.tzero rfl ?_; intro w2 B2 N2; have g2 := N2.gr; have b2 : Blk w2 B2 (tg 0 0 (.slice none 0 0)) 58 := N2.blk; have l2 := N2.lo; have t2 := N2.hi; have z2 := g2.size; have gg := gg.trans g2; clear N2; obtain ⟨b2_0, b2_1, b2_2⟩ := tcells b2) | (refine r_store_row 58 58 _ _ _ rfl (tg _ _ _) _ rfl b2 Tryd.tsize rfl (tg_one rfl) rfl ?_; intro w3 u3 b2'; have z3 := u3.size; have gg := u3.gr gg (by omega); clear b2; have b2 := b2'; clear b2'; obtain ⟨b2_0, b2_1, b2_2⟩ := tcells b2))
    refine q_whole (by kernel_rfl) (by kernel_rfl) ?_
    refine q_take (.bool false) rfl (fun w' hw' => by first | rfl | (unfold execOp; simp [go_sem, Act.eval])) ?_
    simp only [Act.put, List.setIfInBounds_toArray, List.set_cons_succ, List.set_cons_zero]
    refine q_take (.bool true) rfl (fun w' hw' => by first | rfl | (unfold execOp; simp [go_sem, Act.eval])) ?_
    simp only [Act.put, List.setIfInBounds_toArray, List.set_cons_succ, List.set_cons_zero]
    refine q_take (.bool true) rfl (fun w' hw' => by first | rfl | (unfold execOp; simp [go_sem, Act.eval])) ?_
    simp only [Act.put, List.setIfInBounds_toArray, List.set_cons_succ, List.set_cons_zero]
    refine BigFrame.wpQuiet_skip rfl ?_
    simp only [Act.put, List.setIfInBounds_toArray, List.set_cons_succ, List.set_cons_zero]
    refine BigFrame.wpQuiet_skip rfl ?_
    simp only [Act.put, List.setIfInBounds_toArray, List.set_cons_succ, List.set_cons_zero]
    refine BigFrame.wpQuiet_skip rfl ?_
    simp only [Act.put, List.setIfInBounds_toArray, List.set_cons_succ, List.set_cons_zero]
    refine q_take (.bool true) rfl (fun w' hw' => by first | rfl | (unfold execOp; simp [go_sem, Act.eval])) ?_
    simp only [Act.put, List.setIfInBounds_toArray, List.set_cons_succ, List.set_cons_zero]
    refine q_take (.bool true) rfl (fun w' hw' => by first | rfl | (unfold execOp; simp [go_sem, Act.eval])) ?_
    simp only [Act.put, List.setIfInBounds_toArray, List.set_cons_succ, List.set_cons_zero]
    refine BigFrame.wpQuiet_skip rfl ?_
    simp only [Act.put, List.setIfInBounds_toArray, List.set_cons_succ, List.set_cons_zero]
    refine BigFrame.wpQuiet_skip rfl ?_
    simp only [Act.put, List.setIfInBounds_toArray, List.set_cons_succ, List.set_cons_zero]
    refine BigFrame.wpQuiet_skip rfl ?_
    simp only [Act.put, List.setIfInBounds_toArray, List.set_cons_succ, List.set_cons_zero]
    refine BigFrame.wpQuiet_skip rfl ?_
    simp only [Act.put, List.setIfInBounds_toArray, List.set_cons_succ, List.set_cons_zero]
    refine BigFrame.wpQuiet_skip rfl ?_
    simp only [Act.put, List.setIfInBounds_toArray, List.set_cons_succ, List.set_cons_zero]
    refine q_take (.bool true) rfl (fun w' hw' => by first | rfl | (unfold execOp; simp [go_sem, Act.eval])) ?_
    simp only [Act.put, List.setIfInBounds_toArray, List.set_cons_succ, List.set_cons_zero]
    refine wpQuiet_nil ?_
    intro wq gq
    have gg := gg.trans gq
    go_wp2
    go_ret2
    exact ⟨gg, by rw [HV.out]; rfl⟩
  · obtain ⟨hc, hw1, hh1, hl⟩ := cel_of hp
    have z1 := g1.size
    have gg := gg.trans g1
    have hone := own_one hown
    have h36 : g.c.length ≤ 36 := by have := hc.len; have := hc.n36; omega
    cases hnm : nameS n with
    | false =>
      have HNM := hidI hnm
      have HV := hidI (show rbS s.data.toList n = none from by unfold rbS; rw [hp, hnm]; rfl)
      clear hp hc hnm
      go_wp2_with (first | (refine r_alloc 58 _ Tryd.tzero rfl ?_; intro w2 B2 N2; have g2 := N2.gr; have b2 : Blk w2 B2 (tg 0 0 (.slice none 0 0)) 58 := N2.blk; have l2 := N2.lo; have t2 := N2.hi; have z2 := g2.size; have gg := gg.trans g2; clear N2; obtain ⟨b2_0, b2_1, b2_2⟩ := tcells b2) | (refine r_store_row 58 58 _ _ _ rfl (tg _ _ _) _ rfl b2 Tryd.tsize rfl (tg_one hone) rfl ?_; intro w3 u3 b2'; have z3 := u3.size; have gg := u3.gr gg (by omega); clear b2; have b2 := b2'; clear b2'; obtain ⟨b2_0, b2_1, b2_2⟩ := tcells b2))
      refine q_whole (by kernel_rfl) (by kernel_rfl) ?_
      refine q_take (.bool true) rfl (fun w' hw' => by first | rfl | (unfold execOp; simp [go_sem, Act.eval])) ?_
      simp only [Act.put, List.setIfInBounds_toArray, List.set_cons_succ, List.set_cons_zero]
      refine q_take (.bool false) rfl (fun w' hw' => by first | rfl | (unfold execOp; simp [go_sem, Act.eval])) ?_
      simp only [Act.put, List.setIfInBounds_toArray, List.set_cons_succ, List.set_cons_zero]
      refine q_take (.bool false) rfl (fun w' hw' => by first | rfl | (unfold execOp; simp [go_sem, Act.eval])) ?_
      simp only [Act.put, List.setIfInBounds_toArray, List.set_cons_succ, List.set_cons_zero]
      refine q_take (.string n) rfl (fun w' hw' => by first | rfl | (unfold execOp; simp [go_sem, Act.eval])) ?_
      simp only [Act.put, List.setIfInBounds_toArray, List.set_cons_succ, List.set_cons_zero]
      refine q_call 74 [.tmp 16] _ [.string n] (.bool false) Tryd.call74 rfl rfl (fun w' hw' => (reName_any n w').mono fun e w'' h => ⟨by rw [h.1, HNM.out], h.2 ▸ hw'⟩) ?_
      simp only [Act.put, List.setIfInBounds_toArray, List.set_cons_succ, List.set_cons_zero]
      refine q_take (.bool true) rfl (fun w' hw' => by first | rfl | (unfold execOp; simp [go_sem, Act.eval])) ?_
      simp only [Act.put, List.setIfInBounds_toArray, List.set_cons_succ, List.set_cons_zero]
      refine q_take (.bool true) rfl (fun w' hw' => by first | rfl | (unfold execOp; simp [go_sem, Act.eval])) ?_
      simp only [Act.put, List.setIfInBounds_toArray, List.set_cons_succ, List.set_cons_zero]
      refine q_take (.bool true) rfl (fun w' hw' => by first | rfl | (unfold execOp; simp [go_sem, Act.eval])) ?_
      simp only [Act.put, List.setIfInBounds_toArray, List.set_cons_succ, List.set_cons_zero]
      refine BigFrame.wpQuiet_skip rfl ?_
      simp only [Act.put, List.setIfInBounds_toArray, List.set_cons_succ, List.set_cons_zero]
      refine BigFrame.wpQuiet_skip rfl ?_
      simp only [Act.put, List.setIfInBounds_toArray, List.set_cons_succ, List.set_cons_zero]
      refine BigFrame.wpQuiet_skip rfl ?_
      simp only [Act.put, List.setIfInBounds_toArray, List.set_cons_succ, List.set_cons_zero]
      refine BigFrame.wpQuiet_skip rfl ?_
      simp only [Act.put, List.setIfInBounds_toArray, List.set_cons_succ, List.set_cons_zero]
      refine BigFrame.wpQuiet_skip rfl ?_
      simp only [Act.put, List.setIfInBounds_toArray, List.set_cons_succ, List.set_cons_zero]
      refine q_take (.bool true) rfl (fun w' hw' => by first | rfl | (unfold execOp; simp [go_sem, Act.eval])) ?_
      simp only [Act.put, List.setIfInBounds_toArray, List.set_cons_succ, List.set_cons_zero]
      refine wpQuiet_nil ?_
      intro wq gq
      have gg := gg.trans gq
      go_wp2
      go_ret2
      exact ⟨gg, by rw [HV.out]; rfl⟩
    | true =>
      have HNM := hidI hnm
      have hnm' := hnm
      unfold nameS at hnm'
      rw [Bool.and_eq_true, decide_eq_true_eq] at hnm'
      have hn1 := one_of n hnm'.1
      obtain ⟨b, hb⟩ : ∃ b, hd n = b := ⟨_, rfl⟩
      obtain ⟨x, hx⟩ : ∃ x, x = ixC g.c b g.c.length := ⟨_, rfl⟩
      have HRB := hidI (show rbS s.data.toList n = if decide (0 ≤ x) then rcS s.data.toList else none from by unfold rbS; rw [hp, hnm, hb, hx]; rfl)
      obtain ⟨G, cap, rfl, -, -⟩ := own_shape hown hl
      have HX := hidI hx
      have HB := hidI hb
      rw [hb] at hn1
      have HN1 := hidI hn1
      clear hp hc hnm hnm' hb hx hn1
      go_wp2_with (first | (refine r_alloc 58 _ Tryd.tzero rfl ?_; intro w2 B2 N2; have g2 := N2.gr; have b2 : Blk w2 B2 (tg 0 0 (.slice none 0 0)) 58 := N2.blk; have l2 := N2.lo; have t2 := N2.hi; have z2 := g2.size; have gg := gg.trans g2; clear N2; obtain ⟨b2_0, b2_1, b2_2⟩ := tcells b2) | (refine r_store_row 58 58 _ _ _ rfl (tg _ _ _) _ rfl b2 Tryd.tsize rfl (tg_one hone) rfl ?_; intro w3 u3 b2'; have z3 := u3.size; have gg := u3.gr gg (by omega); clear b2; have b2 := b2'; clear b2'; obtain ⟨b2_0, b2_1, b2_2⟩ := tcells b2))
      have own := u3.row (g2.row hown) (own_new hown l2)
      refine q_whole (by kernel_rfl) (by kernel_rfl) ?_
      refine q_take (.bool true) rfl (fun w' hw' => by first | rfl | (unfold execOp; simp [go_sem, Act.eval])) ?_
      simp only [Act.put, List.setIfInBounds_toArray, List.set_cons_succ, List.set_cons_zero]
      refine q_take (.bool false) rfl (fun w' hw' => by first | rfl | (unfold execOp; simp [go_sem, Act.eval])) ?_
      simp only [Act.put, List.setIfInBounds_toArray, List.set_cons_succ, List.set_cons_zero]
      refine q_take (.bool false) rfl (fun w' hw' => by first | rfl | (unfold execOp; simp [go_sem, Act.eval])) ?_
      simp only [Act.put, List.setIfInBounds_toArray, List.set_cons_succ, List.set_cons_zero]
      refine q_take (.string n) rfl (fun w' hw' => by first | rfl | (unfold execOp; simp [go_sem, Act.eval])) ?_
      simp only [Act.put, List.setIfInBounds_toArray, List.set_cons_succ, List.set_cons_zero]
      refine q_call 74 [.tmp 16] _ [.string n] (.bool true) Tryd.call74 rfl rfl (fun w' hw' => (reName_any n w').mono fun e w'' h => ⟨by rw [h.1, HNM.out], h.2 ▸ hw'⟩) ?_
      simp only [Act.put, List.setIfInBounds_toArray, List.set_cons_succ, List.set_cons_zero]
      refine q_take (.bool false) rfl (fun w' hw' => by first | rfl | (unfold execOp; simp [go_sem, Act.eval])) ?_
      simp only [Act.put, List.setIfInBounds_toArray, List.set_cons_succ, List.set_cons_zero]
      refine q_take (.bool false) rfl (fun w' hw' => by first | rfl | (unfold execOp; simp [go_sem, Act.eval])) ?_
      simp only [Act.put, List.setIfInBounds_toArray, List.set_cons_succ, List.set_cons_zero]
      refine q_take (.bool false) rfl (fun w' hw' => by first | rfl | (unfold execOp; simp [go_sem, Act.eval])) ?_
      simp only [Act.put, List.setIfInBounds_toArray, List.set_cons_succ, List.set_cons_zero]
      refine q_take (.agg (tg g.w g.h (.slice (some ⟨G, 0, Option.none⟩) g.c.length cap))) rfl (fun w' hw' => e_load_row 58 (.tmp 6) B2 _ _ _ rfl (hw'.blk b2) Tryd.underlying58 rfl Tryd.tinfo) ?_
      simp only [Act.put, List.setIfInBounds_toArray, List.set_cons_succ, List.set_cons_zero]
      refine q_take (.string n) rfl (fun w' hw' => by first | rfl | (unfold execOp; simp [go_sem, Act.eval])) ?_
      simp only [Act.put, List.setIfInBounds_toArray, List.set_cons_succ, List.set_cons_zero]
      refine q_take (.int .u8 b.toNat) rfl (fun w' hw' => e_val _ _ (by rw [show (Act.eval _ (.tmp 22)) = Value.string n from rfl, HN1.out]; exact s_idx0 Tryd.underlying9 b _)) ?_
      simp only [Act.put, List.setIfInBounds_toArray, List.set_cons_succ, List.set_cons_zero]
      refine q_call 55 [.tmp 21, .tmp 23] _ [.agg (tg g.w g.h (.slice (some ⟨G, 0, Option.none⟩) g.c.length cap)), .int .u8 b.toNat] (.int .i64 x) Tryd.call55 rfl rfl (fun w' hw' => (tiPlace_any g.w g.h w.heap.size g.c b G cap w' h36 (hw'.row own)).mono fun e w'' h => ⟨by rw [HX.out]; exact h.1, hw'.trans h.2⟩) ?_
      simp only [Act.put, List.setIfInBounds_toArray, List.set_cons_succ, List.set_cons_zero]
      by_cases hneg : x < 0
      · have HV := hidI (show rbS s.data.toList n = none from by rw [HRB.out, decide_eq_false (by omega)]; rfl)
        have hdec : decide (x < 0) = true := decide_eq_true hneg
        refine q_take (.bool true) rfl (fun w' hw' => e_lssC _ _ _ _ _ rfl rfl hdec) ?_
        simp only [Act.put, List.setIfInBounds_toArray, List.set_cons_succ, List.set_cons_zero]
        refine q_take (.bool true) rfl (fun w' hw' => by first | rfl | (unfold execOp; simp [go_sem, Act.eval])) ?_
        simp only [Act.put, List.setIfInBounds_toArray, List.set_cons_succ, List.set_cons_zero]
        refine wpQuiet_nil ?_
        intro wq gq
        have gg := gg.trans gq
        go_wp2
        go_ret2
        exact ⟨gg, by rw [HV.out]; rfl⟩
      · have HV := hidI (show rbS s.data.toList n = rcS s.data.toList from by rw [HRB.out, decide_eq_true (by omega)]; rfl)
        have hdec : decide (x < 0) = false := decide_eq_false hneg
        have HA := hidI (fun w' => reAll_any s w' hs)
        refine q_take (.bool false) rfl (fun w' hw' => e_lssC _ _ _ _ _ rfl rfl hdec) ?_
        simp only [Act.put, List.setIfInBounds_toArray, List.set_cons_succ, List.set_cons_zero]
        refine q_take (.bool false) rfl (fun w' hw' => by first | rfl | (unfold execOp; simp [go_sem, Act.eval])) ?_
        simp only [Act.put, List.setIfInBounds_toArray, List.set_cons_succ, List.set_cons_zero]
        refine wpQuiet_nil ?_
        intro wq gq
        have gg := gg.trans gq
        have zz := gg.size
        clear hneg
        have HA2 := HA.out wq
        unfold RetM at HA2
        cases hR : rcS s.data.toList with
        | none =>
          rw [hR] at HA2
          have HRR := hidI hR
          clear hR
          go_wp2_with (go_at_call 90; refine HA2.mono ?_; rintro e w4 ⟨g4, rfl⟩)
          go_ret2
          exact ⟨gg.trans g4, by rw [HV.out, HRR.out]; rfl⟩
        | some S =>
          rw [hR] at HA2
          have HRR := hidI hR
          clear hR
          go_wp2_with (go_at_call 90; refine HA2.mono ?_; rintro e w4 ⟨g4, v, bk, sl, nx, rfl, M, X⟩)
          go_ret2
          exact ⟨gg.trans g4, by rw [HV.out, HRR.out]; exact ⟨v, bk, sl, nx, rfl, M.upC zz, X.upC zz⟩⟩
end Go.Proofs.YtamdmhclhjkogaaDoor
