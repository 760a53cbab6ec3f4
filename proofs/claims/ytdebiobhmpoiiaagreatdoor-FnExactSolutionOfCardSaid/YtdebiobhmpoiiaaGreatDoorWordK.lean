/-
  The shortest word behind which a ball stands in a cell: the model, and the law.
-/
import Derived.Test.YtdebiobhmpoiiaaGreatDoorWordC
namespace Go.Proofs.YtdebiobhmpoiiaaGreatDoor
open Go.RowKit
theorem e_leqK {P : Program} {w : World} {a : Act} {dst : Option Tmp} {ty T yt : TypeId} {pos : String} {aft : Array Edge} {gd : Option (Nat × Bool)} {k : IntKind} (x y : Operand) (m n : Int) (v : Bool) (hx : a.eval x = .int k m) (hy : a.eval y = .int k n) (hv : decide (m ≤ n) = v) :
    (execOp a.eval ⟨dst, .binOp .leq T x y yt, ty, pos, aft, gd⟩).run P w = .ok (.value (.bool v)) w := by
  subst hv
  unfold execOp
  simp [hx, hy, eqGuard, binOp, Op.intCmp]
theorem rec_rangeK {w : World} {B : Nat} {s : Sta Grid} {sl nv : Value} {T : TypeId} (h : Blk w B (recS s sl nv) T) : w.rangeAt B 0 (tg s.t.w s.t.h sl).toList := by
  intro j u hj
  have h3 : j < 3 := by
    rcases Nat.lt_or_ge j 3 with h | h
    · exact h
    · rw [List.getElem?_eq_none (by show 3 ≤ j; exact h)] at hj; cases hj
  rw [Nat.zero_add, h.cell j]
  have hj' : j = 0 ∨ j = 1 ∨ j = 2 := by omega
  rcases hj' with rfl | rfl | rfl <;> exact hj
set_option maxHeartbeats 2000000 in
set_option maxRecDepth 100000 in
theorem sWordToCell (s n : ByteArray) (z : Int) (w : World) (hs : s.size ≤ 1048576) : Calls Tryz.prog 23 #[.string s, .string n, .int .i64 z] w (Ret (.tuple #[.string (wcB s.data.toList n z), .bool (wcOk s.data.toList n z)]) w) := by
  have gg := Gr.refl w
  have HA := reBall_any s n w hs
  unfold RetM at HA
  cases hR : rbS s.data.toList n with
  | none =>
    rw [hR] at HA
    obtain ⟨e1, e2⟩ := wc_none (wc_no (z := z) hR)
    have HN := hidI e1
    have HO := hidI e2
    clear hR e1 e2
    go_enter Tryz.func23, Tryz.ntmps23
    go_wp2_with (go_at_call 44; refine HA.mono ?_; rintro e w1 ⟨g1, rfl⟩)
    go_ret2
    exact ⟨fin_sbC HN.out.symm HO.out.symm, g1⟩
  | some S =>
    rw [hR] at HA
    obtain ⟨hrc, hnm⟩ := rbS_some hR
    obtain ⟨h0, h300, hS⟩ := rcS_knownC hrc
    have hW := rcS_ways hrc
    unfold nameS at hnm
    rw [Bool.and_eq_true, decide_eq_true_eq] at hnm
    have hn1 := one_of n hnm.1
    have HIT := hidI (fun j (hj : j < S.length) => hit_ix hR z hj)
    have HFO := hidI (fun m hm hh h40 hb => wc_found (l := s.data.toList) (n := n) (z := z) (S := S) (m := m) hR hm hh h40 hb)
    have HNO := hidI (fun hb => wc_nowhere (l := s.data.toList) (n := n) (z := z) (S := S) hR hb)
    obtain ⟨b, hb⟩ : ∃ b, hd n = b := ⟨_, rfl⟩
    rw [hb] at HIT HFO HNO hn1
    have HST := hidI (fun j (hj : j < S.length) => show 0 < (sta S j).t.c.length ∧ (sta S j).t.c.length ≤ 36 from by
      obtain ⟨a1, a2, a3⟩ := hS j hj
      have h36 : (sta S j).t.c.length ≤ 36 := by have := a1.len; have := a1.n36; omega
      exact ⟨by rw [a1.len]; exact Nat.mul_pos a2 a3, h36⟩)
    have HN1 := hidI hn1
    have HWY := hidI hW
    clear hR hrc hnm hS hW hb hn1
    go_enter Tryz.func23, Tryz.ntmps23
    go_wp2_with (go_at_call 44; refine HA.mono ?_; rintro e w1 ⟨g1, v, bk, sl, nx, rfl, M1, X1⟩; have gg := gg.trans g1; obtain ⟨gB, cap, rfl, hlo, hcap⟩ := own_shape M1.row h0)
    go_loopw [22] (fun iv wr => ∃ m : Nat, m ≤ S.length ∧ iv = .int .i64 m ∧ Hid (∀ i, i < m → hitB S b z i = true → 40 < (sta S i).far) ∧ Gr w1 wr) (fun iv _ => S.length - (intOf iv).toNat)
    case atStart => exact ⟨0, Nat.zero_le _, rfl, hidI (fun i hi => absurd hi (Nat.not_lt_zero _)), Gr.refl _⟩
    case round =>
      obtain ⟨m, hm, rfl, HN, k1⟩ := hrel
      have gg := gg.trans k1
      have M := M1.gr k1
      by_cases hlt : m < S.length
      · obtain ⟨hl0, hl36⟩ := HST.out m hlt
        obtain ⟨b0, hb0⟩ : ∃ b0, b0 = bk m := ⟨_, rfl⟩
        have cp : wr.cell? ⟨gB, m, none⟩ = some (.pointer (some ⟨bk m, 0, none⟩)) := M.ptr hlt
        have hblk := M.blk m hlt
        have hgrd := M.grd m hlt
        have hrg := rec_rangeK hblk
        have hcf : wr.cell? ⟨bk m, 4, none⟩ = some (.int .i64 ((sta S m).far : Int)) := hblk.cell 4
        obtain ⟨c, hc⟩ : ∃ c, c = (sta S m).t.c := ⟨_, rfl⟩
        obtain ⟨W, hW⟩ : ∃ W : Nat, W = (sta S m).t.w := ⟨_, rfl⟩
        obtain ⟨H, hH⟩ : ∃ H : Nat, H = (sta S m).t.h := ⟨_, rfl⟩
        obtain ⟨far, hfar⟩ : ∃ far, far = (sta S m).far := ⟨_, rfl⟩
        obtain ⟨sk, hsk⟩ : ∃ sk, sk = sl m := ⟨_, rfl⟩
        obtain ⟨X, hX⟩ : ∃ X, X = ixC c b c.length := ⟨_, rfl⟩
        have hit := HIT.out m hlt
        rw [← hc, ← hX] at hit
        rw [← hc] at hgrd hl0 hl36
        rw [← hb0, ← hW, ← hH, ← hsk] at hrg
        rw [← hb0, ← hfar] at hcf
        rw [← hb0] at cp
        rw [← hsk] at hgrd
        obtain ⟨G, capg, rfl, -, -⟩ := own_shape hgrd hl0
        have HF := hidI hfar
        have HX := hidI hX
        have HRW := hidI (fun (w' : World) (h : SSt w.heap.size w' (.slice (some ⟨gB, 0, none⟩) S.length cap) S bk sl nx) (h40 : (sta S m).far ≤ 40) => reWord_any w.heap.size S _ bk sl nx m w' h h0 hlt HWY.out h40)
        clear hc hW hH hblk hX hb0 hsk hfar
        cases hh : hitB S b z m with
        | true =>
          rw [hh] at hit
          by_cases h40 : far ≤ 40
          · have hle : decide ((far : Int) ≤ 40) = true := decide_eq_true (by omega)
            obtain ⟨e1, e2⟩ := HFO.out m hlt hh (by rw [← HF.out]; exact h40) HN.out
            have HV := hidI e1
            have HO := hidI e2
            have HRC := hidI (fun w' h => HRW.out w' h (by rw [← HF.out]; exact h40))
            clear h40 e1 e2 hh
            go_wp2_with (first | (refine r_idx 43 _ _ (.slice (some ⟨gB, 0, none⟩) S.length cap) (.int .i64 m) _ rfl rfl (Tryz.psix gB S.length cap m hlt _) rfl ?_) | (refine r_ldc 89 _ ⟨gB, m, none⟩ (.pointer (some ⟨b0, 0, none⟩)) rfl (Tryz.isAgg89 _) cp rfl ?_))
            refine q_whole (by kernel_rfl) (by kernel_rfl) ?_
            refine q_move _ (.pointer (some ⟨b0, 0, none⟩)) rfl rfl ?_; simp only [Act.put, List.setIfInBounds_toArray, List.set_cons_succ, List.set_cons_zero]
            refine q_take (.pointer (some ⟨b0, 0, Option.none⟩)) rfl (fun w' hw' => rfl) ?_
            simp only [Act.put, List.setIfInBounds_toArray, List.set_cons_succ, List.set_cons_zero]
            refine q_take (.pointer (some ⟨b0, 0, none⟩)) rfl (fun w' hw' => e_val _ _ (Tryz.rf0 _ _)) ?_; simp only [Act.put, List.setIfInBounds_toArray, List.set_cons_succ, List.set_cons_zero]
            refine q_take (.agg (tg W H (.slice (some ⟨G, 0, Option.none⟩) c.length capg))) rfl (fun w' hw' => e_load_mid 60 (.tmp 29) b0 0 (tg W H (.slice (some ⟨G, 0, Option.none⟩) c.length capg)).toList _ rfl (fun j u hj => hw'.cell (hrg j u hj)) Tryz.underlying60 rfl Tryz.tinfo) ?_
            simp only [Act.put, List.setIfInBounds_toArray, List.set_cons_succ, List.set_cons_zero]
            refine q_move _ (.string n) rfl rfl ?_; simp only [Act.put, List.setIfInBounds_toArray, List.set_cons_succ, List.set_cons_zero]
            refine q_take (.int .u8 b.toNat) rfl (fun w' hw' => e_val _ _ (by rw [show (Act.eval _ (.tmp 31)) = Value.string n from rfl, HN1.out]; exact s_idx0 Tryz.underlying9 b _)) ?_
            simp only [Act.put, List.setIfInBounds_toArray, List.set_cons_succ, List.set_cons_zero]
            refine q_call 43 [.tmp 30, .tmp 32] _ [.agg (tg W H (.slice (some ⟨G, 0, Option.none⟩) c.length capg)), .int .u8 b.toNat] (.int .i64 X) Tryz.call43 rfl rfl (fun w' hw' => (tiPlace_any W H _ c b G capg w' hl36 (hw'.row hgrd)).mono fun e w'' h => ⟨by rw [HX.out]; exact h.1, hw'.trans h.2⟩) ?_
            simp only [Act.put, List.setIfInBounds_toArray, List.set_cons_succ, List.set_cons_zero]
            refine q_move _ (.int .i64 z) rfl rfl ?_; simp only [Act.put, List.setIfInBounds_toArray, List.set_cons_succ, List.set_cons_zero]
            refine q_take (.bool true) rfl (fun w' hw' => e_eqK _ _ _ _ _ rfl rfl hit) ?_
            simp only [Act.put, List.setIfInBounds_toArray, List.set_cons_succ, List.set_cons_zero]
            refine q_move _ (.bool true) rfl rfl ?_; simp only [Act.put, List.setIfInBounds_toArray, List.set_cons_succ, List.set_cons_zero]
            refine q_move _ (.pointer (some ⟨b0, 0, none⟩)) rfl rfl ?_; simp only [Act.put, List.setIfInBounds_toArray, List.set_cons_succ, List.set_cons_zero]
            refine q_take (.pointer (some ⟨b0, 0, Option.none⟩)) rfl (fun w' hw' => rfl) ?_
            simp only [Act.put, List.setIfInBounds_toArray, List.set_cons_succ, List.set_cons_zero]
            refine q_take (.pointer (some ⟨b0, 4, none⟩)) rfl (fun w' hw' => e_val _ _ (Tryz.rf2 _ _)) ?_; simp only [Act.put, List.setIfInBounds_toArray, List.set_cons_succ, List.set_cons_zero]
            refine q_take (.int .i64 (far : Int)) rfl (fun w' hw' => e_load 3 (.tmp 39) _ _ rfl (Tryz.isAgg3 _) (hw'.cell hcf)) ?_; simp only [Act.put, List.setIfInBounds_toArray, List.set_cons_succ, List.set_cons_zero]
            refine q_take (.bool true) rfl (fun w' hw' => e_leqK _ _ _ _ _ rfl rfl hle) ?_
            simp only [Act.put, List.setIfInBounds_toArray, List.set_cons_succ, List.set_cons_zero]
            refine q_take (.bool true) rfl (fun w' hw' => by unfold execOp; simp [go_sem, Act.eval]) ?_
            simp only [Act.put, List.setIfInBounds_toArray, List.set_cons_succ, List.set_cons_zero]
            refine wpQuiet_nil ?_
            intro wq gq
            have gg := gg.trans gq
            have M := M.gr gq
            go_wp2_with (go_at_call 45; refine (HRC.out _ M).mono ?_; rintro e w9 ⟨rfl, g9⟩; have z9 := g9.size; have gg := gg.trans g9)
            go_ret2
            exact ⟨fin_sbC HV.out.symm HO.out.symm, gg⟩
          · have hle : decide ((far : Int) ≤ 40) = false := decide_eq_false (by omega)
            have HN2 := hidI (show ∀ i, i < m + 1 → hitB S b z i = true → 40 < (sta S i).far from fun i hi hb => if h : i < m then HN.out i h hb else by
              obtain rfl : i = m := by omega
              rw [← HF.out]
              omega)
            clear h40 hh
            go_wp2_with (first | (refine r_idx 43 _ _ (.slice (some ⟨gB, 0, none⟩) S.length cap) (.int .i64 m) _ rfl rfl (Tryz.psix gB S.length cap m hlt _) rfl ?_) | (refine r_ldc 89 _ ⟨gB, m, none⟩ (.pointer (some ⟨b0, 0, none⟩)) rfl (Tryz.isAgg89 _) cp rfl ?_))
            refine q_whole (by kernel_rfl) (by kernel_rfl) ?_
            refine q_move _ (.pointer (some ⟨b0, 0, none⟩)) rfl rfl ?_; simp only [Act.put, List.setIfInBounds_toArray, List.set_cons_succ, List.set_cons_zero]
            refine q_take (.pointer (some ⟨b0, 0, Option.none⟩)) rfl (fun w' hw' => rfl) ?_
            simp only [Act.put, List.setIfInBounds_toArray, List.set_cons_succ, List.set_cons_zero]
            refine q_take (.pointer (some ⟨b0, 0, none⟩)) rfl (fun w' hw' => e_val _ _ (Tryz.rf0 _ _)) ?_; simp only [Act.put, List.setIfInBounds_toArray, List.set_cons_succ, List.set_cons_zero]
            refine q_take (.agg (tg W H (.slice (some ⟨G, 0, Option.none⟩) c.length capg))) rfl (fun w' hw' => e_load_mid 60 (.tmp 29) b0 0 (tg W H (.slice (some ⟨G, 0, Option.none⟩) c.length capg)).toList _ rfl (fun j u hj => hw'.cell (hrg j u hj)) Tryz.underlying60 rfl Tryz.tinfo) ?_
            simp only [Act.put, List.setIfInBounds_toArray, List.set_cons_succ, List.set_cons_zero]
            refine q_move _ (.string n) rfl rfl ?_; simp only [Act.put, List.setIfInBounds_toArray, List.set_cons_succ, List.set_cons_zero]
            refine q_take (.int .u8 b.toNat) rfl (fun w' hw' => e_val _ _ (by rw [show (Act.eval _ (.tmp 31)) = Value.string n from rfl, HN1.out]; exact s_idx0 Tryz.underlying9 b _)) ?_
            simp only [Act.put, List.setIfInBounds_toArray, List.set_cons_succ, List.set_cons_zero]
            refine q_call 43 [.tmp 30, .tmp 32] _ [.agg (tg W H (.slice (some ⟨G, 0, Option.none⟩) c.length capg)), .int .u8 b.toNat] (.int .i64 X) Tryz.call43 rfl rfl (fun w' hw' => (tiPlace_any W H _ c b G capg w' hl36 (hw'.row hgrd)).mono fun e w'' h => ⟨by rw [HX.out]; exact h.1, hw'.trans h.2⟩) ?_
            simp only [Act.put, List.setIfInBounds_toArray, List.set_cons_succ, List.set_cons_zero]
            refine q_move _ (.int .i64 z) rfl rfl ?_; simp only [Act.put, List.setIfInBounds_toArray, List.set_cons_succ, List.set_cons_zero]
            refine q_take (.bool true) rfl (fun w' hw' => e_eqK _ _ _ _ _ rfl rfl hit) ?_
            simp only [Act.put, List.setIfInBounds_toArray, List.set_cons_succ, List.set_cons_zero]
            refine q_move _ (.bool true) rfl rfl ?_; simp only [Act.put, List.setIfInBounds_toArray, List.set_cons_succ, List.set_cons_zero]
            refine q_move _ (.pointer (some ⟨b0, 0, none⟩)) rfl rfl ?_; simp only [Act.put, List.setIfInBounds_toArray, List.set_cons_succ, List.set_cons_zero]
            refine q_take (.pointer (some ⟨b0, 0, Option.none⟩)) rfl (fun w' hw' => rfl) ?_
            simp only [Act.put, List.setIfInBounds_toArray, List.set_cons_succ, List.set_cons_zero]
            refine q_take (.pointer (some ⟨b0, 4, none⟩)) rfl (fun w' hw' => e_val _ _ (Tryz.rf2 _ _)) ?_; simp only [Act.put, List.setIfInBounds_toArray, List.set_cons_succ, List.set_cons_zero]
            refine q_take (.int .i64 (far : Int)) rfl (fun w' hw' => e_load 3 (.tmp 39) _ _ rfl (Tryz.isAgg3 _) (hw'.cell hcf)) ?_; simp only [Act.put, List.setIfInBounds_toArray, List.set_cons_succ, List.set_cons_zero]
            refine q_take (.bool false) rfl (fun w' hw' => e_leqK _ _ _ _ _ rfl rfl hle) ?_
            simp only [Act.put, List.setIfInBounds_toArray, List.set_cons_succ, List.set_cons_zero]
            refine q_take (.bool false) rfl (fun w' hw' => by unfold execOp; simp [go_sem, Act.eval]) ?_
            simp only [Act.put, List.setIfInBounds_toArray, List.set_cons_succ, List.set_cons_zero]
            refine wpQuiet_nil ?_
            intro wq gq
            have k1 := k1.trans gq
            go_wp2
            go_roundw
            case rel => exact ⟨m + 1, by omega, by go_num, HN2, k1⟩
            case measure => simp [intOf]; omega
        | false =>
          rw [hh] at hit
          have HN2 := hidI (show ∀ i, i < m + 1 → hitB S b z i = true → 40 < (sta S i).far from fun i hi hb => if h : i < m then HN.out i h hb else by
            obtain rfl : i = m := by omega
            rw [hh] at hb
            cases hb)
          clear hh
          go_wp2_with (first | (refine r_idx 43 _ _ (.slice (some ⟨gB, 0, none⟩) S.length cap) (.int .i64 m) _ rfl rfl (Tryz.psix gB S.length cap m hlt _) rfl ?_) | (refine r_ldc 89 _ ⟨gB, m, none⟩ (.pointer (some ⟨b0, 0, none⟩)) rfl (Tryz.isAgg89 _) cp rfl ?_))
          refine q_whole (by kernel_rfl) (by kernel_rfl) ?_
          refine q_move _ (.pointer (some ⟨b0, 0, none⟩)) rfl rfl ?_; simp only [Act.put, List.setIfInBounds_toArray, List.set_cons_succ, List.set_cons_zero]
          refine q_take (.pointer (some ⟨b0, 0, Option.none⟩)) rfl (fun w' hw' => rfl) ?_
          simp only [Act.put, List.setIfInBounds_toArray, List.set_cons_succ, List.set_cons_zero]
          refine q_take (.pointer (some ⟨b0, 0, none⟩)) rfl (fun w' hw' => e_val _ _ (Tryz.rf0 _ _)) ?_; simp only [Act.put, List.setIfInBounds_toArray, List.set_cons_succ, List.set_cons_zero]
          refine q_take (.agg (tg W H (.slice (some ⟨G, 0, Option.none⟩) c.length capg))) rfl (fun w' hw' => e_load_mid 60 (.tmp 29) b0 0 (tg W H (.slice (some ⟨G, 0, Option.none⟩) c.length capg)).toList _ rfl (fun j u hj => hw'.cell (hrg j u hj)) Tryz.underlying60 rfl Tryz.tinfo) ?_
          simp only [Act.put, List.setIfInBounds_toArray, List.set_cons_succ, List.set_cons_zero]
          refine q_move _ (.string n) rfl rfl ?_; simp only [Act.put, List.setIfInBounds_toArray, List.set_cons_succ, List.set_cons_zero]
          refine q_take (.int .u8 b.toNat) rfl (fun w' hw' => e_val _ _ (by rw [show (Act.eval _ (.tmp 31)) = Value.string n from rfl, HN1.out]; exact s_idx0 Tryz.underlying9 b _)) ?_
          simp only [Act.put, List.setIfInBounds_toArray, List.set_cons_succ, List.set_cons_zero]
          refine q_call 43 [.tmp 30, .tmp 32] _ [.agg (tg W H (.slice (some ⟨G, 0, Option.none⟩) c.length capg)), .int .u8 b.toNat] (.int .i64 X) Tryz.call43 rfl rfl (fun w' hw' => (tiPlace_any W H _ c b G capg w' hl36 (hw'.row hgrd)).mono fun e w'' h => ⟨by rw [HX.out]; exact h.1, hw'.trans h.2⟩) ?_
          simp only [Act.put, List.setIfInBounds_toArray, List.set_cons_succ, List.set_cons_zero]
          refine q_move _ (.int .i64 z) rfl rfl ?_; simp only [Act.put, List.setIfInBounds_toArray, List.set_cons_succ, List.set_cons_zero]
          refine q_take (.bool false) rfl (fun w' hw' => e_eqK _ _ _ _ _ rfl rfl hit) ?_
          simp only [Act.put, List.setIfInBounds_toArray, List.set_cons_succ, List.set_cons_zero]
          refine q_move _ (.bool false) rfl rfl ?_; simp only [Act.put, List.setIfInBounds_toArray, List.set_cons_succ, List.set_cons_zero]
          refine BigFrame.wpQuiet_skip rfl ?_
          simp only [Act.put, List.setIfInBounds_toArray, List.set_cons_succ, List.set_cons_zero]
          refine BigFrame.wpQuiet_skip rfl ?_
          simp only [Act.put, List.setIfInBounds_toArray, List.set_cons_succ, List.set_cons_zero]
          refine BigFrame.wpQuiet_skip rfl ?_
          simp only [Act.put, List.setIfInBounds_toArray, List.set_cons_succ, List.set_cons_zero]
          refine BigFrame.wpQuiet_skip rfl ?_
          simp only [Act.put, List.setIfInBounds_toArray, List.set_cons_succ, List.set_cons_zero]
          refine BigFrame.wpQuiet_skip rfl ?_
          simp only [Act.put, List.setIfInBounds_toArray, List.set_cons_succ, List.set_cons_zero]
          refine q_take (.bool false) rfl (fun w' hw' => by unfold execOp; simp [go_sem, Act.eval]) ?_
          simp only [Act.put, List.setIfInBounds_toArray, List.set_cons_succ, List.set_cons_zero]
          refine wpQuiet_nil ?_
          intro wq gq
          have k1 := k1.trans gq
          go_wp2
          go_roundw
          case rel => exact ⟨m + 1, by omega, by go_num, HN2, k1⟩
          case measure => simp [intOf]; omega
      · obtain rfl : m = S.length := by omega
        obtain ⟨e1, e2⟩ := HNO.out HN.out
        have HV := hidI e1
        have HO := hidI e2
        clear hlt e1 e2
        go_wp2
        go_ret2
        exact ⟨fin_sbC HV.out.symm HO.out.symm, gg⟩
end Go.Proofs.YtdebiobhmpoiiaaGreatDoor
