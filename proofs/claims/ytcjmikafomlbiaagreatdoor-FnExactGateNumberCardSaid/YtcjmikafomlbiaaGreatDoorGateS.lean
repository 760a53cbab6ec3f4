/-
  Machines in the model: cells looked at, and tables made.
-/
import Derived.Test.YtcjmikafomlbiaaGreatDoorGateI
import Derived.Test.YtcjmikafomlbiaaGreatDoorMachS
namespace Go.Proofs.YtcjmikafomlbiaaGreatDoor
open Go.RowKit
/-- What the model asks of the number at place j. -/
def mcC1 (c : List UInt8) (L : List Int) (wh : UInt8) (j : Nat) : Bool := btw (gi L j) 0 ((c.length : Int) - 1) && !hsIn (L.take j) (gi L j) && !decide (at0 c (gi L j).toNat = 35) && (decide (wh = 0) || decide (at0 c (gi L j).toNat = wh))
def mccB (c : List UInt8) (L : List Int) (wh : UInt8) : Bool := btw (L.length : Int) 1 3 && (List.range L.length).all (mcC1 c L wh)
theorem mcc_no {c : List UInt8} {L : List Int} {wh : UInt8} {j : Nat} (hj : j < L.length) (h : mcC1 c L wh j = false) : mccB c L wh = false := by
  rw [← Bool.not_eq_true]
  intro e
  unfold mccB at e
  rw [Bool.and_eq_true, List.all_eq_true] at e
  have := e.2 j (List.mem_range.2 hj)
  rw [h] at this; cases this
theorem mcc_yes {c : List UInt8} {L : List Int} {wh : UInt8} (hb : btw (L.length : Int) 1 3 = true) (h : ∀ j, j < L.length → mcC1 c L wh j = true) : mccB c L wh = true := by
  unfold mccB
  rw [hb, Bool.true_and, List.all_eq_true]
  exact fun j hj => h j (List.mem_range.1 hj)
theorem Tryz.icutG (g n cap q : Nat) (hc : q ≤ cap) (w : World) : (Instr.sliceAt 22 (.slice (some ⟨g, 0, none⟩) n cap) none (some (.int .i64 q)) none).run Tryz.prog w = .ok (.slice (some ⟨g, 0, none⟩) q cap) w := by
  have he : Tryz.prog.elem 22 = 3 := by kernel_rfl
  have hu : Tryz.prog.underlying 22 = some (.slice (Tryz.prog.elem 22)) := by rw [he]; exact Tryz.underlying22
  have hs : (sizeOf 3).run Tryz.prog w = .ok 1 w := by kernel_rfl
  rw [run_sliceAt_slice w 22 _ _ _ _ hu, run_slice_h w 22 (some ⟨g, 0, none⟩) n cap hu .i64 q (by omega) (by omega), he]
  simp [hs, Result.andThen, sliced, add_zero']
section
variable {P : Program} {w : World} {ops : Array Oper} {rest : List Oper} {a : Act} {Q : Exit → Act → World → Prop} {dst : Option Tmp} {ty : TypeId} {pos : String} {aft : Array Edge} {gd : Option (Nat × Bool)}
theorem r_neq8 {T yt : TypeId} (x y : Operand) (m n : Int) (b : Bool) (hx : a.eval x = .int .u8 m) (hy : a.eval y = .int .u8 n) (hb : (m != n) = b)
    (hgd : Region.wanted ⟨dst, .binOp .neq T x y yt, ty, pos, aft, gd⟩ (yielded ops a.tmps) = true) (h : wpList P ops Q rest (a.put dst (.bool b)) w) : wpList P ops Q (⟨dst, .binOp .neq T x y yt, ty, pos, aft, gd⟩ :: rest) a w :=
  r_val (.bool b) (by
    subst hb
    unfold execOp
    simp [hx, hy, eqGuard, binOp, Op.intCmp]) hgd h
theorem r_subG {T yt : TypeId} (x y : Operand) (m n r : Int) (hx : a.eval x = .int .i64 m) (hy : a.eval y = .int .i64 n) (hr : m - n = r) (h : -9223372036854775808 ≤ r ∧ r ≤ 9223372036854775807)
    (hgd : Region.wanted ⟨dst, .binOp .sub T x y yt, ty, pos, aft, gd⟩ (yielded ops a.tmps) = true) (hh : wpList P ops Q rest (a.put dst (.int .i64 r)) w) : wpList P ops Q (⟨dst, .binOp .sub T x y yt, ty, pos, aft, gd⟩ :: rest) a w :=
  r_val (.int .i64 r) (by
    unfold execOp
    simp only [hx, hy, eqGuard_sub, Sem.run_bind, Sem.run_pure, Result.andThen_ok, run_sub T m n r hr h]) hgd hh
end
set_option maxHeartbeats 4000000 in
set_option maxRecDepth 100000 in
theorem mcCells_any (W H base : Nat) (c : List UInt8) (G0 cap : Nat) (L : List Int) (bL : Nat) (slL : Value) (wh : UInt8) (v : Int) (w : World) (hwh : (wh = 0 ∧ v = 0) ∨ (wh = 46 ∧ v = 46)) (h36 : c.length ≤ 36) (h1 : 0 < c.length)
    (hown : w.ownsRow base 5 1 (.slice (some ⟨G0, 0, none⟩) c.length cap) c.length (cellsV c)) (hL : w.ownsRow bL 3 1 slL L.length (intsV L)) :
    Calls Tryz.prog 30 #[.agg (tg W H (.slice (some ⟨G0, 0, none⟩) c.length cap)), slL, .int .u8 v] w (Ret (.bool (mccB c L wh)) w) := by
  have gg := Gr.refl w
  obtain ⟨pL, kL, rfl⟩ := own_sliceN hL
  cases hb : btw (L.length : Int) 1 3
  · have HL := hidI hb
    have HV := hidI (show mccB c L wh = false from by unfold mccB; rw [hb]; rfl)
    clear hb hL
    go_enter Tryz.func30, Tryz.ntmps30
    go_wp2_with (first | (refine r_box 36 _ (tg (W) (H) (.slice (some ⟨G0, 0, none⟩) c.length cap)) rfl rfl ?_; intro w1 B1 N1; have g1 := N1.gr; have b1 : Blk w1 B1 (tg (W) (H) (.slice (some ⟨G0, 0, none⟩) c.length cap)) 36 := N1.blk; have l1 := N1.lo; have t1 := N1.hi; have z1 := g1.size; have gg := gg.trans g1; clear N1; obtain ⟨b1_0, b1_1, b1_2⟩ := tcells b1) | (go_at_call 46; refine (l1In_any _ _ _ _).mono ?_; rintro e wSame ⟨rfl, rfl⟩; rw [HL.out]))
    go_ret
    exact ⟨ret_bool HV.out.symm, gg⟩
  · have hN : 1 ≤ L.length ∧ L.length ≤ 3 := by unfold btw at hb; simp at hb; omega
    obtain ⟨GL, cL, hsl, -, hkL⟩ := own_shape hL (by omega)
    simp only [Value.slice.injEq] at hsl
    obtain ⟨rfl, -, rfl⟩ := hsl
    have HLB := hidI hb
    have HYES := hidI (fun (h : ∀ j, j < L.length → mcC1 c L wh j = true) => mcc_yes hb h)
    have HNO := hidI (fun j (hj : j < L.length) (h : mcC1 c L wh j = false) => mcc_no hj h)
    have HCUT := hidI (fun k (hk : k ≤ L.length) (w' : World) (o : w'.ownsRow bL 3 1 (.slice (some ⟨GL, 0, none⟩) L.length kL) L.length (intsV L)) (x : Int) => show Calls Tryz.prog 27 #[.slice (some ⟨GL, 0, none⟩) k kL, .int .i64 x] w' (Ret (.bool (hsIn (L.take k) x)) w') from by
      have hl : (L.take k).length = k := by rw [List.length_take]; omega
      have o2 := own_cutG o hk
      have o3 : w'.ownsRow bL 3 1 (.slice (some ⟨GL, 0, none⟩) (L.take k).length kL) (L.take k).length (intsV (L.take k)) := by rw [hl]; exact o2
      have := hsHas_any _ (L.take k) x bL w' o3 (by omega)
      rwa [hl] at this)
    have HINT := hidI (fun k (hk : k < L.length) (w' : World) (o : w'.ownsRow bL 3 1 (.slice (some ⟨GL, 0, none⟩) L.length kL) L.length (intsV L)) => own_int o k hk rfl)
    have HMC := hidI (fun k => show mcC1 c L wh k = (btw (gi L k) 0 ((c.length : Int) - 1) && !hsIn (L.take k) (gi L k) && !decide (at0 c (gi L k).toNat = 35) && (decide (wh = 0) || decide (at0 c (gi L k).toNat = wh))) from rfl)
    obtain ⟨N, hNe⟩ : ∃ N, N = L.length := ⟨_, rfl⟩
    rw [← hNe] at hL hN HLB HYES HNO HCUT HINT hkL ⊢
    obtain ⟨M, hMe⟩ : ∃ M, M = c.length - 1 := ⟨_, rfl⟩
    have HM := hidI (show (c.length : Int) - 1 = (M : Int) by omega)
    have hM36 : M < 36 := by omega
    clear hb hNe hMe
    go_enter Tryz.func30, Tryz.ntmps30
    go_wp2_with (first | (refine r_box 36 _ (tg (W) (H) (.slice (some ⟨G0, 0, none⟩) c.length cap)) rfl rfl ?_; intro w1 B1 N1; have g1 := N1.gr; have b1 : Blk w1 B1 (tg (W) (H) (.slice (some ⟨G0, 0, none⟩) c.length cap)) 36 := N1.blk; have l1 := N1.lo; have t1 := N1.hi; have z1 := g1.size; have gg := gg.trans g1; clear N1; obtain ⟨b1_0, b1_1, b1_2⟩ := tcells b1) | (go_at_call 46; refine (l1In_any _ _ _ _).mono ?_; rintro e wSame ⟨rfl, rfl⟩; rw [HLB.out]))
    have hown := g1.row hown
    have hL := g1.row hL
    go_loopw [15] (fun iv wr => ∃ k : Nat, k ≤ N ∧ iv = .int .i64 k ∧ Hid (∀ j, j < k → mcC1 c L wh j = true) ∧ Gr w1 wr) (fun iv _ => N - (intOf iv).toNat)
    case atStart => exact ⟨0, Nat.zero_le _, rfl, fun j hj => absurd hj (Nat.not_lt_zero _), Gr.refl _⟩
    case round =>
      obtain ⟨k, hk, rfl, HA, gr⟩ := hrel
      have b1 := gr.blk b1
      obtain ⟨b1_0, b1_1, b1_2⟩ := tcells b1
      by_cases hlt : k < N
      · have own := gr.row hown
        have oL := gr.row hL
        have hcell := HINT.out k hlt _ oL
        have HC := HCUT.out k (by omega) wr oL
        have hmc := HMC.out k
        have HNK := hidI (HNO.out k hlt)
        obtain ⟨x, hx⟩ : ∃ x, x = gi L k := ⟨_, rfl⟩
        rw [← hx] at hcell hmc
        have HH := hidI (HC x)
        clear HC hx
        cases h1x : btw x 0 ((c.length : Int) - 1)
        · have HL1 := hidI (fun w => l1In_any x 0 ((c.length : Int) - 1) w)
          rw [h1x] at HL1
          have HV := hidI (HNK.out (by rw [hmc, h1x]; rfl))
          clear hmc h1x HH hwh HNO HYES HCUT HINT HMC HNK HM
          go_wp2_with (go_at_call 46; refine (HL1.out _).mono ?_; rintro e wSame ⟨rfl, rfl⟩)
          go_ret
          exact ⟨ret_bool HV.out.symm, gg.trans gr⟩
        · have HL1 := hidI (fun w => l1In_any x 0 ((c.length : Int) - 1) w)
          rw [h1x] at HL1
          have hxi : 0 ≤ x ∧ x ≤ (c.length : Int) - 1 := by have h := h1x; unfold btw at h; rw [Bool.and_eq_true, decide_eq_true_eq, decide_eq_true_eq] at h; exact h
          obtain ⟨i, rfl⟩ : ∃ i : Nat, x = i := ⟨x.toNat, by omega⟩
          have hi : i < c.length := by omega
          have hcx := own_cell own i hi rfl
          rw [h1x, Int.toNat_natCast, Bool.true_and] at hmc
          obtain ⟨y, hy⟩ : ∃ y, y = at0 c i := ⟨_, rfl⟩
          rw [← hy] at hcx hmc
          clear h1x hy
          have zr := gr.size
          cases hh : hsIn (L.take k) (i : Int)
          · have HHF := hidI (show Calls Tryz.prog 27 #[.slice (some ⟨GL, 0, none⟩) k kL, .int .i64 i] wr (Ret (.bool false) wr) from by have h := HH.out; rw [hh] at h; exact h)
            rw [hh] at hmc
            by_cases h35 : y = 35
            · subst h35
              have HV := hidI (HNK.out (by rw [hmc]; rfl))
              clear hmc hh HH
              clear HNO HCUT HINT HMC HNK HM
              go_wp2_with (first | (go_at_call 46; refine (HL1.out _).mono ?_; rintro e wSame ⟨rfl, rfl⟩) | (go_at_call 27; refine (HHF.out).mono ?_; rintro e w5 ⟨rfl, g5⟩; have gr := gr.trans g5; have b1 := g5.blk b1; obtain ⟨b1_0, b1_1, b1_2⟩ := tcells b1; have hcx := g5.cell hcx))
              go_ret
              exact ⟨ret_bool HV.out.symm, gg.trans gr⟩
            · have hn35 : ((y.toNat : Int) == 35) = false := by
                rw [beq_eq_false_iff_ne]
                intro e
                exact h35 (UInt8.toNat_inj.1 (by show y.toNat = 35; omega))
              rcases hwh with ⟨rfl, rfl⟩ | ⟨rfl, rfl⟩
              · have HT := hidI (show mcC1 c L 0 k = true from by rw [hmc, decide_eq_false h35]; rfl)
                clear hmc hh HH h35
                clear HNO HCUT HINT HMC HNK HM
                go_wp2_with (first | (go_at_call 46; refine (HL1.out _).mono ?_; rintro e wSame ⟨rfl, rfl⟩) | (go_at_call 27; refine (HHF.out).mono ?_; rintro e w5 ⟨rfl, g5⟩; have gr := gr.trans g5; have b1 := g5.blk b1; obtain ⟨b1_0, b1_1, b1_2⟩ := tcells b1; have hcx := g5.cell hcx))
                go_roundw
                case rel => exact ⟨k + 1, by omega, by go_num, fun j hj => if h : j < k then HA.out j h else by rw [show j = k by omega]; exact HT.out, gr⟩
                case measure => simp [intOf]; omega
              · by_cases h46 : y = 46
                · subst h46
                  have HT := hidI (show mcC1 c L 46 k = true from by rw [hmc]; rfl)
                  clear hmc hh HH h35 hn35
                  clear HNO HCUT HINT HMC HNK HM
                  go_wp2_with (first | (go_at_call 46; refine (HL1.out _).mono ?_; rintro e wSame ⟨rfl, rfl⟩) | (go_at_call 27; refine (HHF.out).mono ?_; rintro e w5 ⟨rfl, g5⟩; have gr := gr.trans g5; have b1 := g5.blk b1; obtain ⟨b1_0, b1_1, b1_2⟩ := tcells b1; have hcx := g5.cell hcx))
                  go_roundw
                  case rel => exact ⟨k + 1, by omega, by go_num, fun j hj => if h : j < k then HA.out j h else by rw [show j = k by omega]; exact HT.out, gr⟩
                  case measure => simp [intOf]; omega
                · have hn46 : ((y.toNat : Int) == 46) = false := by
                    rw [beq_eq_false_iff_ne]
                    intro e
                    exact h46 (UInt8.toNat_inj.1 (by show y.toNat = 46; omega))
                  have HB46 := hidI (show ((y.toNat : Int) != 46) = true from by rw [bne, hn46]; rfl)
                  have HV := hidI (HNK.out (by rw [hmc, decide_eq_false h35, decide_eq_false h46]; rfl))
                  clear hmc hh HH h35 h46
                  clear HNO HCUT HINT HMC HNK HM
                  go_wp2_with (first | (go_at_call 46; refine (HL1.out _).mono ?_; rintro e wSame ⟨rfl, rfl⟩) | (go_at_call 27; refine (HHF.out).mono ?_; rintro e w5 ⟨rfl, g5⟩; have gr := gr.trans g5; have b1 := g5.blk b1; obtain ⟨b1_0, b1_1, b1_2⟩ := tcells b1; have hcx := g5.cell hcx))
                  go_ret
                  exact ⟨ret_bool HV.out.symm, gg.trans gr⟩
          · have HHT := hidI (show Calls Tryz.prog 27 #[.slice (some ⟨GL, 0, none⟩) k kL, .int .i64 i] wr (Ret (.bool true) wr) from by have h := HH.out; rw [hh] at h; exact h)
            have HV := hidI (HNK.out (by rw [hmc, hh]; rfl))
            clear hmc hh HH
            clear HNO HCUT HINT HMC HNK HM
            go_wp2_with (first | (go_at_call 46; refine (HL1.out _).mono ?_; rintro e wSame ⟨rfl, rfl⟩) | (go_at_call 27; refine (HHT.out).mono ?_; rintro e w5 ⟨rfl, g5⟩; have gr := gr.trans g5; have b1 := g5.blk b1; obtain ⟨b1_0, b1_1, b1_2⟩ := tcells b1; have hcx := g5.cell hcx))
            go_ret
            exact ⟨ret_bool HV.out.symm, gg.trans gr⟩
      · obtain rfl : k = N := by omega
        have HV := hidI (HYES.out HA.out)
        clear hlt
        go_wp2
        go_ret
        exact ⟨ret_bool HV.out.symm, gg.trans gr⟩
end Go.Proofs.YtcjmikafomlbiaaGreatDoor
