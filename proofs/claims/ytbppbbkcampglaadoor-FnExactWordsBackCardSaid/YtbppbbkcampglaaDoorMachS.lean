/-
  Words that come back, in the model; and the law on whether one does.
-/
import Derived.Test.YtbppbbkcampglaaDoorMachI
namespace Go.Proofs.YtbppbbkcampglaaDoor
open Go.RowKit
/-- A tray and a word, read by the model. -/
def RetMc (T : TypeId) (l : List UInt8) (u : ByteArray) (w : World) (e : Ending) (w' : World) : Prop :=
  Gr w w' ∧ ((mcOk l u = false ∧ ∃ W H sl, sl.oneCell' = true ∧ e = .returned (.tuple #[.agg (tg W H sl), .bool false])) ∨
    ∃ g sl, parse l = some g ∧ mcOk l u = true ∧ e = .returned (.tuple #[.agg (tg g.w g.h sl), .bool true]) ∧ w'.ownsRow w.heap.size T 1 sl g.c.length (cellsV g.c))
theorem e_neqB {P : Program} {w : World} {a : Act} {dst : Option Tmp} {ty T yt : TypeId} {pos : String} {aft : Array Edge} {gd : Option (Nat × Bool)} (x y : Operand) (p q v : Bool) (hT : P.underlying T = some .bool) (hx : a.eval x = .bool p) (hy : a.eval y = .bool q) (hv : (p != q) = v) :
    (execOp a.eval ⟨dst, .binOp .neq T x y yt, ty, pos, aft, gd⟩).run P w = .ok (.value (.bool v)) w := by
  subst hv
  unfold execOp
  simp [hx, hy, eqGuard, binOp, run_equal_bool _ _ _ _ hT, Result.andThen, bne]
theorem back_yes {g : Grid} {ds : List Nat} (hg : Cel g) (hd : ∀ d ∈ ds, d < 4) (h : ∀ j, j < g.c.length → isBallB (at0 g.c j) = isBallB (at0 (runG ds g).c j)) : backB g ds = true := by
  unfold backB
  refine decide_eq_true ?_
  unfold bpos
  apply List.filter_congr
  intro i hi
  have hi : i < g.c.length := by rw [hg.len]; exact List.mem_range.1 hi
  have hq := hg.run ds hd
  have hl : (runG ds g).c.length = g.c.length := by rw [hq.len, (runG_w ds g).1, (runG_w ds g).2, hg.len]
  rw [ball_cell (hg.cells i hi), ball_cell (hq.cells i (by rw [hl]; exact hi))]
  exact h i hi
theorem back_no {g : Grid} {ds : List Nat} {j : Nat} (hg : Cel g) (hd : ∀ d ∈ ds, d < 4) (hj : j < g.c.length) (h : isBallB (at0 g.c j) ≠ isBallB (at0 (runG ds g).c j)) : backB g ds = false := by
  unfold backB
  refine decide_eq_false fun e => h ?_
  have hq := hg.run ds hd
  have hl : (runG ds g).c.length = g.c.length := by rw [hq.len, (runG_w ds g).1, (runG_w ds g).2, hg.len]
  rw [← ball_cell (hg.cells j hj), ← ball_cell (hq.cells j (by rw [hl]; exact hj))]
  have h1 : j ∈ bpos g.c (nn g.w g.h) ↔ j ∈ bpos (runG ds g).c (nn g.w g.h) := by rw [e]
  rw [bpos_mem, bpos_mem] at h1
  have hjn : j < nn g.w g.h := by rw [← hg.len]; exact hj
  rw [Bool.eq_iff_iff]
  exact ⟨fun a => (h1.1 ⟨hjn, a⟩).2, fun a => (h1.2 ⟨hjn, a⟩).2⟩
set_option maxHeartbeats 2000000 in
set_option maxRecDepth 100000 in
theorem mcBack_any (g : Grid) (base : Nat) (u : ByteArray) (sl : Value) (w : World) (hg : Cel g) (hu : wordB u = true) (h1 : 0 < g.c.length) (hb : base ≤ w.heap.size) (hown : w.ownsRow base 5 1 sl g.c.length (cellsV g.c)) :
    Calls Tryd.prog 24 #[.agg (tg g.w g.h sl), .string u] w fun e w' => Gr w w' ∧ ∃ sl', sl'.oneCell' = true ∧ e = .returned (.tuple #[.agg (tg g.w g.h sl'), .bool (backB g (wds u))]) := by
  have gg := Gr.refl w
  obtain ⟨G, cap, rfl, -, -⟩ := own_shape hown h1
  have HRU := hidI (fun (w0 : World) (hb : base ≤ w0.heap.size) (h : w0.ownsRow base 5 1 (.slice (some ⟨G, 0, none⟩) g.c.length cap) g.c.length (cellsV g.c)) => tiRun_any g base u (.slice (some ⟨G, 0, none⟩) g.c.length cap) w0 hg hu h1 hb h)
  have HY := hidI (back_yes hg (wds_lt hu))
  have HNO := hidI (fun (j : Nat) (hj : j < g.c.length) => back_no (j := j) hg (wds_lt hu) hj)
  have n36 : g.c.length ≤ 36 := by rw [hg.len]; exact hg.n36
  have hql : (runG (wds u) g).c.length = g.c.length := by rw [(hg.run (wds u) (wds_lt hu)).len, (runG_w (wds u) g).1, (runG_w (wds u) g).2, hg.len]
  obtain ⟨q, hq⟩ : ∃ q, q = runG (wds u) g := ⟨_, rfl⟩
  rw [← hq] at HRU HY HNO hql
  obtain ⟨n, hn⟩ : ∃ n, n = g.c.length := ⟨_, rfl⟩
  have HQL := hidI (hql.trans hn.symm)
  have HN := hidI hn.symm
  rw [← hn] at HRU HY HNO h1 n36 hown ⊢
  clear hg hu hq hql hn
  go_enter Tryd.func24, Tryd.ntmps24
  go_wp2_with (first | (refine r_box 40 _ (tg (g.w) (g.h) (.slice (some ⟨G, 0, none⟩) n cap)) rfl rfl ?_; intro w1 B1 N1; have g1 := N1.gr; have b1 : Blk w1 B1 (tg (g.w) (g.h) (.slice (some ⟨G, 0, none⟩) n cap)) 40 := N1.blk; have l1 := N1.lo; have t1 := N1.hi; have z1 := g1.size; have gg := gg.trans g1; clear N1; obtain ⟨b1_0, b1_1, b1_2⟩ := tcells b1) | (refine r_alloc (dst := some 4) 40 _ Tryd.tzero rfl ?_; intro w2 B2 N2; have g2 := N2.gr; have b2 : Blk w2 B2 (tg 0 0 (.slice none 0 0)) 40 := N2.blk; have l2 := N2.lo; have t2 := N2.hi; have z2 := g2.size; have b1 := g2.blk b1; obtain ⟨b1_0, b1_1, b1_2⟩ := tcells b1; have gg := gg.trans g2; clear N2; obtain ⟨b2_0, b2_1, b2_2⟩ := tcells b2) | (refine r_load_row 40 _ _ rfl _ _ _ b1 Tryd.underlying40 rfl Tryd.tinfo rfl ?_))
  have own := g2.row (g1.row hown)
  have hb2 : base ≤ w2.heap.size := by omega
  refine (HRU.out w2 hb2 own).mono ?_
  rintro e w3 ⟨g3, sl3, rfl, own3⟩
  have b1 := g3.blk b1
  have b2 := g3.blk b2
  have own := g3.row own
  have z3 := g3.size
  have gg := gg.trans g3
  obtain ⟨G3, cap3, rfl, -, -⟩ := own_shape own3 h1
  go_wp2_with (first | (refine r_alloc (dst := some 6) 40 _ Tryd.tzero rfl ?_; intro w4 B4 N4; have g4 := N4.gr; have b4 : Blk w4 B4 (tg 0 0 (.slice none 0 0)) 40 := N4.blk; have l4 := N4.lo; have t4 := N4.hi; have z4 := g4.size; have b1 := g4.blk b1; obtain ⟨b1_0, b1_1, b1_2⟩ := tcells b1; have b2 := g4.blk b2; have gg := gg.trans g4; clear N4; obtain ⟨b4_0, b4_1, b4_2⟩ := tcells b4) | (refine r_store_row 40 40 _ _ _ rfl (tg _ _ _) _ rfl b4 Tryd.tsize rfl (tg_one rfl) rfl ?_; intro w5 u5 b4'; have z5 := u5.size; have gg := u5.gr gg (by omega); have b1 := u5.blk b1 (by omega); obtain ⟨b1_0, b1_1, b1_2⟩ := tcells b1; have b2 := u5.blk b2 (by omega); clear b4; have b4 := b4'; clear b4'; obtain ⟨b4_0, b4_1, b4_2⟩ := tcells b4))
  have own := u5.row (g4.row own) (own_new hown (by omega))
  have own3 := u5.row (g4.row own3) (own_new own3 (by omega))
  have lo2 : w.heap.size ≤ B2 := by omega
  clear hown
  go_wp2
  go_loopw [7, 8, 15] (fun _ _ iv wr => ∃ k : Nat, k ≤ n ∧ iv = .int .i64 k ∧ Blk wr B2 (tg 0 0 (.slice none 0 0)) 40 ∧ Blk wr B4 (tg g.w g.h (.slice (some ⟨G3, 0, none⟩) n cap3)) 40 ∧ wr.ownsRow base 5 1 (.slice (some ⟨G, 0, none⟩) n cap) n (cellsV g.c) ∧ wr.ownsRow base 5 1 (.slice (some ⟨G3, 0, none⟩) n cap3) n (cellsV q.c) ∧ Gr w wr ∧ Hid (∀ j, j < k → isBallB (at0 g.c j) = isBallB (at0 q.c j))) (fun _ _ iv _ => n - (intOf iv).toNat)
  case atStart => exact ⟨0, Nat.zero_le _, rfl, b2, b4, own, own3, gg, hidI (fun j hj => absurd hj (Nat.not_lt_zero _))⟩
  case round =>
    clear b2 b4 own own3 gg
    obtain ⟨k, hk, rfl, b2, b4, own, own3, gg, HA⟩ := hrel
    have zr := gg.size
    by_cases hlt : k < n
    · have ck := own_cell own k (by rw [HN.out]; exact hlt) HN.out.symm
      have cq := own_cell own3 k (by rw [HQL.out]; exact hlt) HQL.out.symm
      have hix := Tryd.six0 G n cap k hlt
      obtain ⟨b4_0, b4_1, b4_2⟩ := tcells b4
      have HC1 := hidI (fun w => tyBall_any (at0 g.c k) w)
      have HC2 := hidI (fun w => tyBall_any (at0 q.c k) w)
      have HNK := hidI (HNO.out k hlt)
      by_cases hpq : isBallB (at0 g.c k) = isBallB (at0 q.c k)
      · have HA2 := hidI (show ∀ j, j < k + 1 → isBallB (at0 g.c j) = isBallB (at0 q.c j) from fun j hj => if h : j < k then HA.out j h else by rw [show j = k by omega]; exact hpq)
        have hne : (isBallB (at0 g.c k) != isBallB (at0 q.c k)) = false := by rw [hpq]; simp
        have HNE := hidI hne
        clear hpq hne
        go_wp2
        refine q_whole (by kernel_rfl) (by kernel_rfl) ?_
        refine q_move _ (.int .u8 (at0 g.c k).toNat) rfl rfl ?_; simp only [Act.put, List.setIfInBounds_toArray, List.set_cons_succ, List.set_cons_zero]
        refine q_call 47 [.tmp 20] _ [.int .u8 (at0 g.c k).toNat] (.bool (isBallB (at0 g.c k))) Tryd.call47 rfl rfl (fun w' hw' => ((HC1.out w').mono fun e w'' h => ⟨h.1, h.2 ▸ hw'⟩)) ?_; simp only [Act.put, List.setIfInBounds_toArray, List.set_cons_succ, List.set_cons_zero]
        refine q_take (.pointer (some ⟨B4, 2, none⟩)) rfl (fun w' hw' => e_val _ _ (Tryd.tf2 B4 _)) ?_; simp only [Act.put, List.setIfInBounds_toArray, List.set_cons_succ, List.set_cons_zero]
        refine q_take (.slice (some ⟨G3, 0, none⟩) n cap3) rfl (fun w' hw' => e_load 38 (.tmp 22) ⟨B4, 2, none⟩ _ rfl (Tryd.isAgg38 _) (hw'.cell b4_2)) ?_; simp only [Act.put, List.setIfInBounds_toArray, List.set_cons_succ, List.set_cons_zero]
        refine q_move _ (.int .i64 k) rfl rfl ?_; simp only [Act.put, List.setIfInBounds_toArray, List.set_cons_succ, List.set_cons_zero]
        refine q_take (.pointer (some ⟨G3, k, none⟩)) rfl (fun w' hw' => e_val _ _ (Tryd.six0 G3 n cap3 k hlt _)) ?_; simp only [Act.put, List.setIfInBounds_toArray, List.set_cons_succ, List.set_cons_zero]
        refine q_take (.int .u8 (at0 q.c k).toNat) rfl (fun w' hw' => e_load 5 (.tmp 25) ⟨G3, k, none⟩ _ rfl (Tryd.isAgg5 _) (hw'.cell cq)) ?_; simp only [Act.put, List.setIfInBounds_toArray, List.set_cons_succ, List.set_cons_zero]
        refine q_call 47 [.tmp 26] _ [.int .u8 (at0 q.c k).toNat] (.bool (isBallB (at0 q.c k))) Tryd.call47 rfl rfl (fun w' hw' => ((HC2.out w').mono fun e w'' h => ⟨h.1, h.2 ▸ hw'⟩)) ?_; simp only [Act.put, List.setIfInBounds_toArray, List.set_cons_succ, List.set_cons_zero]
        refine q_take (.bool false) rfl (fun w' hw' => e_neqB _ _ (isBallB (at0 g.c k)) (isBallB (at0 q.c k)) false Tryd.underlying4 rfl rfl HNE.out) ?_
        simp only [Act.put, List.setIfInBounds_toArray, List.set_cons_succ, List.set_cons_zero]
        refine wpQuiet_nil ?_; intro w7 g7; have z7 := g7.size; have b2 := g7.blk b2; have b4 := g7.blk b4; have gg := gg.trans g7
        have own := g7.row own
        have own3 := g7.row own3
        go_wp2
        go_roundw
        case rel => exact ⟨k + 1, by omega, by go_num, b2, b4, own, own3, gg, HA2⟩
        case measure => simp [intOf]; omega
      · have HV := hidI (HNK.out hpq)
        have hne : (isBallB (at0 g.c k) != isBallB (at0 q.c k)) = true := by rw [bne_iff_ne]; exact hpq
        have HNE := hidI hne
        clear hpq hne
        go_wp2
        refine q_whole (by kernel_rfl) (by kernel_rfl) ?_
        refine q_move _ (.int .u8 (at0 g.c k).toNat) rfl rfl ?_; simp only [Act.put, List.setIfInBounds_toArray, List.set_cons_succ, List.set_cons_zero]
        refine q_call 47 [.tmp 20] _ [.int .u8 (at0 g.c k).toNat] (.bool (isBallB (at0 g.c k))) Tryd.call47 rfl rfl (fun w' hw' => ((HC1.out w').mono fun e w'' h => ⟨h.1, h.2 ▸ hw'⟩)) ?_; simp only [Act.put, List.setIfInBounds_toArray, List.set_cons_succ, List.set_cons_zero]
        refine q_take (.pointer (some ⟨B4, 2, none⟩)) rfl (fun w' hw' => e_val _ _ (Tryd.tf2 B4 _)) ?_; simp only [Act.put, List.setIfInBounds_toArray, List.set_cons_succ, List.set_cons_zero]
        refine q_take (.slice (some ⟨G3, 0, none⟩) n cap3) rfl (fun w' hw' => e_load 38 (.tmp 22) ⟨B4, 2, none⟩ _ rfl (Tryd.isAgg38 _) (hw'.cell b4_2)) ?_; simp only [Act.put, List.setIfInBounds_toArray, List.set_cons_succ, List.set_cons_zero]
        refine q_move _ (.int .i64 k) rfl rfl ?_; simp only [Act.put, List.setIfInBounds_toArray, List.set_cons_succ, List.set_cons_zero]
        refine q_take (.pointer (some ⟨G3, k, none⟩)) rfl (fun w' hw' => e_val _ _ (Tryd.six0 G3 n cap3 k hlt _)) ?_; simp only [Act.put, List.setIfInBounds_toArray, List.set_cons_succ, List.set_cons_zero]
        refine q_take (.int .u8 (at0 q.c k).toNat) rfl (fun w' hw' => e_load 5 (.tmp 25) ⟨G3, k, none⟩ _ rfl (Tryd.isAgg5 _) (hw'.cell cq)) ?_; simp only [Act.put, List.setIfInBounds_toArray, List.set_cons_succ, List.set_cons_zero]
        refine q_call 47 [.tmp 26] _ [.int .u8 (at0 q.c k).toNat] (.bool (isBallB (at0 q.c k))) Tryd.call47 rfl rfl (fun w' hw' => ((HC2.out w').mono fun e w'' h => ⟨h.1, h.2 ▸ hw'⟩)) ?_; simp only [Act.put, List.setIfInBounds_toArray, List.set_cons_succ, List.set_cons_zero]
        refine q_take (.bool true) rfl (fun w' hw' => e_neqB _ _ (isBallB (at0 g.c k)) (isBallB (at0 q.c k)) true Tryd.underlying4 rfl rfl HNE.out) ?_
        simp only [Act.put, List.setIfInBounds_toArray, List.set_cons_succ, List.set_cons_zero]
        refine wpQuiet_nil ?_; intro w7 g7; have z7 := g7.size; have b2 := g7.blk b2; have b4 := g7.blk b4; have gg := gg.trans g7
        have own := g7.row own
        have own3 := g7.row own3
        obtain ⟨b2_0, b2_1, b2_2⟩ := tcells b2
        obtain ⟨b4_0, b4_1, b4_2⟩ := tcells b4
        go_wp2_with (first | (refine r_load_row 40 _ _ rfl _ _ _ b4 Tryd.underlying40 rfl Tryd.tinfo rfl ?_) | (refine r_store_row 40 40 _ _ _ rfl (tg _ _ _) _ rfl b2 Tryd.tsize rfl (tg_one rfl) rfl ?_; intro w8 u8 b2'; have z8 := u8.size; have gg := u8.gr gg (by omega); clear b2; have b2 := b2'; clear b2'; obtain ⟨b2_0, b2_1, b2_2⟩ := tcells b2))
        refine bodyPost_ret (results_row_bool rfl _ _ _ _ _ _ rfl b2 Tryd.underlying40 rfl Tryd.tinfo) rfl ?_
        exact ⟨gg, .slice (some ⟨G3, 0, none⟩) n cap3, rfl, by rw [HV.out]; rfl⟩
    · obtain rfl : k = n := by omega
      have HV := hidI (HY.out HA.out)
      obtain ⟨b2_0, b2_1, b2_2⟩ := tcells b2
      obtain ⟨b4_0, b4_1, b4_2⟩ := tcells b4
      clear hlt
      go_wp2_with (first | (refine r_load_row 40 _ _ rfl _ _ _ b4 Tryd.underlying40 rfl Tryd.tinfo rfl ?_) | (refine r_store_row 40 40 _ _ _ rfl (tg _ _ _) _ rfl b2 Tryd.tsize rfl (tg_one rfl) rfl ?_; intro w8 u8 b2'; have z8 := u8.size; have gg := u8.gr gg (by omega); clear b2; have b2 := b2'; clear b2'; obtain ⟨b2_0, b2_1, b2_2⟩ := tcells b2))
      refine bodyPost_ret (results_row_bool rfl _ _ _ _ _ _ rfl b2 Tryd.underlying40 rfl Tryd.tinfo) rfl ?_
      exact ⟨gg, .slice (some ⟨G3, 0, none⟩) k cap3, rfl, by rw [HV.out]; rfl⟩
end Go.Proofs.YtbppbbkcampglaaDoor
