/-
  Words that come back, in the model; and the law on whether one does.
-/
import Derived.Test.YtcjmikafomlbiaaGreatDoorMachI
namespace Go.Proofs.YtcjmikafomlbiaaGreatDoor
open Go.RowKit
/-- A tray and a word, read by the model. -/
def RetMc (T : TypeId) (l : List UInt8) (u : ByteArray) (w : World) (e : Ending) (w' : World) : Prop :=
  Gr w w' ∧ ((mcOk l u = false ∧ ∃ W H sl, sl.oneCell' = true ∧ e = .returned (.tuple #[.agg (tg W H sl), .bool false])) ∨
    ∃ g sl, parse l = some g ∧ mcOk l u = true ∧ e = .returned (.tuple #[.agg (tg g.w g.h sl), .bool true]) ∧ w'.ownsRow w.heap.size T 1 sl g.c.length (cellsV g.c))
theorem e_neqB {P : Program} {w : World} {a : Act} {dst : Option Tmp} {ty T yt : TypeId} {pos : String} {aft : Array Edge} {gd : Option (Nat × Bool)} (x y : Operand) (p q v : Bool) (hT : P.underlying T = some .bool) (hx : a.eval x = .bool p) (hy : a.eval y = .bool q) (hv : (p != q) = v) :
    (execOp a.eval ⟨dst, .binOp .neq T x y yt, ty, pos, aft, gd⟩).run P w = .ok (.value (.bool v)) w := by
  subst hv
  unfold execOp
  simp [hx, hy, eqGuard, binOp, run_equal_bool _ _ _ _ hT, Result.andThen, bne]
theorem back_yes {g : Grid} {ds : List Nat} (hg : Cel g) (hd : ∀ d ∈ ds, d < 4) (h : ∀ j, j < g.c.length → isBallB (at0 g.c j) = isBallB (at0 (runG ds g).c j)) : backB g ds = true := by
  unfold backB
  refine decide_eq_true ?_
  unfold bpos
  apply List.filter_congr
  intro i hi
  have hi : i < g.c.length := by rw [hg.len]; exact List.mem_range.1 hi
  have hq := hg.run ds hd
  have hl : (runG ds g).c.length = g.c.length := by rw [hq.len, (runG_w ds g).1, (runG_w ds g).2, hg.len]
  rw [ball_cell (hg.cells i hi), ball_cell (hq.cells i (by rw [hl]; exact hi))]
  exact h i hi
theorem back_no {g : Grid} {ds : List Nat} {j : Nat} (hg : Cel g) (hd : ∀ d ∈ ds, d < 4) (hj : j < g.c.length) (h : isBallB (at0 g.c j) ≠ isBallB (at0 (runG ds g).c j)) : backB g ds = false := by
  unfold backB
  refine decide_eq_false fun e => h ?_
  have hq := hg.run ds hd
  have hl : (runG ds g).c.length = g.c.length := by rw [hq.len, (runG_w ds g).1, (runG_w ds g).2, hg.len]
  rw [← ball_cell (hg.cells j hj), ← ball_cell (hq.cells j (by rw [hl]; exact hj))]
  have h1 : j ∈ bpos g.c (nn g.w g.h) ↔ j ∈ bpos (runG ds g).c (nn g.w g.h) := by rw [e]
  rw [bpos_mem, bpos_mem] at h1
  have hjn : j < nn g.w g.h := by rw [← hg.len]; exact hj
  rw [Bool.eq_iff_iff]
  exact ⟨fun a => (h1.1 ⟨hjn, a⟩).2, fun a => (h1.2 ⟨hjn, a⟩).2⟩
set_option maxHeartbeats 2000000 in
set_option maxRecDepth 100000 in
theorem mcRead_any (s u : ByteArray) (w : World) (hs : s.size ≤ 1048576) : Calls Tryz.prog 29 #[.string s, .string u] w (RetMc 5 s.data.toList u w) := by
  have gg := Gr.refl w
  go_enter Tryz.func29, Tryz.ntmps29
  go_wp2_with (refine r_alloc (dst := some 4) 36 _ Tryz.tzero rfl ?_; intro w1 B1 N1; have g1 := N1.gr; have b1 : Blk w1 B1 (tg 0 0 (.slice none 0 0)) 36 := N1.blk; have l1 := N1.lo; have t1 := N1.hi; have z1 := g1.size; have gg := gg.trans g1; clear N1; obtain ⟨b1_0, b1_1, b1_2⟩ := tcells b1)
  refine (tyRead_any s _ hs).mono ?_
  rintro e w2 ⟨g2, ⟨hp, rfl⟩ | ⟨g, sl, hp, rfl, hown⟩⟩
  · have HN := hidI (show mcOk s.data.toList u = false from by unfold mcOk; rw [(rd_parse_none hp).2]; rfl)
    have z2 := g2.size
    have b1 := g2.blk b1
    have gg := gg.trans g2
    clear hp
    go_wp2_with (first | (refine r_alloc (dst := some 6) 36 _ Tryz.tzero rfl ?_; intro w3 B3 N3; have g3 := N3.gr; have b3 : Blk w3 B3 (tg 0 0 (.slice none 0 0)) 36 := N3.blk; have l3 := N3.lo; have t3 := N3.hi; have z3 := g3.size; have b1 := g3.blk b1; obtain ⟨b1_0, b1_1, b1_2⟩ := tcells b1; have gg := gg.trans g3; clear N3; obtain ⟨b3_0, b3_1, b3_2⟩ := tcells b3) | (refine r_store_row 36 36 _ _ _ rfl (tg _ _ _) _ rfl b3 Tryz.tsize rfl (tg_one rfl) rfl ?_; intro w4 u4 b3'; have z4 := u4.size; have gg := u4.gr gg (by omega); have b1 := u4.blk b1 (by omega); obtain ⟨b1_0, b1_1, b1_2⟩ := tcells b1; clear b3; have b3 := b3'; clear b3'; obtain ⟨b3_0, b3_1, b3_2⟩ := tcells b3))
    have gd := (Gr.refl w4).drew
    have b1 := gd.blk b1
    have b3 := gd.blk b3
    have gg := gg.trans gd
    have n13 : B3 ≠ B1 := by omega
    have lo1 : w.heap.size ≤ B1 := by omega
    refine K_begin (fun w => Blk w B3 (tg 0 0 (.slice none 0 0)) 36) 8 8 #[false, false, false, false, false, false, false, false] rfl (by kernel_rfl) (by kernel_rfl) ?_
    generalize w4.drew = wd at *
    refine K_take (v := .agg (tg 0 0 (.slice none 0 0))) 0 #[true, false, false, false, false, false, false, false] rfl (by kernel_rfl) (fun _ _ _ h => h) rfl (fun w hF => e_load_row 36 (.tmp 6) B3 _ _ _ rfl hF Tryz.underlying36 rfl Tryz.tinfo) (b3) ?_; simp only [Act.put, List.setIfInBounds_toArray, List.set_cons_succ, List.set_cons_zero]
    refine K_take (v := .bool false) 1 #[true, true, false, false, false, false, false, false] rfl (by kernel_rfl) (fun _ _ _ h => h) rfl (fun _ _ => rfl) (b3) ?_; simp only [Act.put, List.setIfInBounds_toArray, List.set_cons_succ, List.set_cons_zero]
    refine K_take (v := .bool false) 2 #[true, true, true, false, false, false, false, false] rfl (by kernel_rfl) (fun _ _ _ h => h) rfl (fun _ _ => rfl) (b3) ?_; simp only [Act.put, List.setIfInBounds_toArray, List.set_cons_succ, List.set_cons_zero]
    refine K_skip 3 #[true, true, true, true, false, false, false, false] rfl (by kernel_rfl) (fun _ _ _ h => h) rfl (b3) ?_; simp only [Act.put, List.setIfInBounds_toArray, List.set_cons_succ, List.set_cons_zero]
    refine K_skip 4 #[true, true, true, true, true, false, false, false] rfl (by kernel_rfl) (fun _ _ _ h => h) rfl (b3) ?_; simp only [Act.put, List.setIfInBounds_toArray, List.set_cons_succ, List.set_cons_zero]
    refine K_take (v := .bool false) 5 #[true, true, true, true, true, true, false, false] rfl (by kernel_rfl) (fun _ _ _ h => h) rfl (fun w hF => rfl) (b3) ?_; simp only [Act.put, List.setIfInBounds_toArray, List.set_cons_succ, List.set_cons_zero]
    refine K_one 6 #[true, true, true, true, true, true, true, false] rfl (by kernel_rfl) ?_
    refine r_store_row 36 36 _ _ B1 rfl (tg 0 0 (.slice none 0 0)) _ rfl b1 Tryz.tsize rfl (tg_one rfl) rfl ?_
    intro w6 u6 b16
    have b3 := u6.blk b3 n13
    have gg := u6.gr gg lo1
    simp only [Act.put]
    refine ⟨fun _ => b3, ?_⟩
    refine K_one 7 #[true, true, true, true, true, true, true, true] rfl (by kernel_rfl) ?_
    refine r_val (.bool false) rfl rfl ?_
    simp only [Act.put, List.setIfInBounds_toArray, List.set_cons_succ, List.set_cons_zero]
    refine ⟨fun _ => b3, ?_⟩
    refine K_done' (by kernel_rfl) ?_
    go_wp2
    refine bodyPost_ret (results_row_bool rfl _ _ _ _ _ _ rfl b16 Tryz.underlying36 rfl Tryz.tinfo) rfl ?_
    exact ⟨gg, .inl ⟨HN.out, _, _, _, rfl, rfl⟩⟩
  · have z2 := g2.size
    have b1 := g2.blk b1
    have gg := gg.trans g2
    have hone := own_one hown
    have HP := hidI hp
    have hk := (rd_parse_some hp).2
    go_wp2_with (first | (refine r_alloc (dst := some 6) 36 _ Tryz.tzero rfl ?_; intro w3 B3 N3; have g3 := N3.gr; have b3 : Blk w3 B3 (tg 0 0 (.slice none 0 0)) 36 := N3.blk; have l3 := N3.lo; have t3 := N3.hi; have z3 := g3.size; have b1 := g3.blk b1; obtain ⟨b1_0, b1_1, b1_2⟩ := tcells b1; have gg := gg.trans g3; clear N3; obtain ⟨b3_0, b3_1, b3_2⟩ := tcells b3) | (refine r_store_row 36 36 _ _ _ rfl (tg _ _ _) _ rfl b3 Tryz.tsize rfl (tg_one hone) rfl ?_; intro w4 u4 b3'; have z4 := u4.size; have gg := u4.gr gg (by omega); have b1 := u4.blk b1 (by omega); obtain ⟨b1_0, b1_1, b1_2⟩ := tcells b1; clear b3; have b3 := b3'; clear b3'; obtain ⟨b3_0, b3_1, b3_2⟩ := tcells b3))
    have own := u4.row (g3.row hown) (own_new hown l3)
    have gd := (Gr.refl w4).drew
    have b1 := gd.blk b1
    have b3 := gd.blk b3
    have own := gd.row own
    have gg := gg.trans gd
    have n13 : B3 ≠ B1 := by omega
    have lo1 : w.heap.size ≤ B1 := by omega
    have z1 := g1.size
    cases hu : wordB u with
    | false =>
      have HN := hidI (show mcOk s.data.toList u = false from by unfold mcOk; rw [hu, Bool.and_false])
      have HW := hidI (fun w => hu ▸ tiWord_any u w)
      clear hp hk hu
      refine K_begin (fun w => Blk w B3 (tg g.w g.h sl) 36) 8 8 #[false, false, false, false, false, false, false, false] rfl (by kernel_rfl) (by kernel_rfl) ?_
      generalize w4.drew = wd at *
      refine K_take (v := .agg (tg g.w g.h sl)) 0 #[true, false, false, false, false, false, false, false] rfl (by kernel_rfl) (fun _ _ _ h => h) rfl (fun w hF => e_load_row 36 (.tmp 6) B3 _ _ _ rfl hF Tryz.underlying36 rfl Tryz.tinfo) (b3) ?_; simp only [Act.put, List.setIfInBounds_toArray, List.set_cons_succ, List.set_cons_zero]
      refine K_take (v := .bool true) 1 #[true, true, false, false, false, false, false, false] rfl (by kernel_rfl) (fun _ _ _ h => h) rfl (fun _ _ => rfl) (b3) ?_; simp only [Act.put, List.setIfInBounds_toArray, List.set_cons_succ, List.set_cons_zero]
      refine K_take (v := .bool true) 2 #[true, true, true, false, false, false, false, false] rfl (by kernel_rfl) (fun _ _ _ h => h) rfl (fun _ _ => rfl) (b3) ?_; simp only [Act.put, List.setIfInBounds_toArray, List.set_cons_succ, List.set_cons_zero]
      refine K_take (v := .string u) 3 #[true, true, true, true, false, false, false, false] rfl (by kernel_rfl) (fun _ _ _ h => h) rfl (fun _ _ => rfl) (b3) ?_; simp only [Act.put, List.setIfInBounds_toArray, List.set_cons_succ, List.set_cons_zero]
      refine K_one 4 #[true, true, true, true, true, false, false, false] rfl (by kernel_rfl) ?_
      refine r_call 45 [.tmp 16] _ [.string u] (.bool false) (fun w' => Gr wd w') Tryz.call45 rfl rfl (HW.out wd) ?_
      intro w5 g5
      have b1 := g5.blk b1
      have b3 := g5.blk b3
      have own := g5.row own
      have gg := gg.trans g5
      refine ⟨fun _ => b3, ?_⟩
      simp only [Act.put, List.setIfInBounds_toArray, List.set_cons_succ, List.set_cons_zero]
      refine K_take (v := .bool false) 5 #[true, true, true, true, true, true, false, false] rfl (by kernel_rfl) (fun _ _ _ h => h) rfl (fun w hF => rfl) (b3) ?_; simp only [Act.put, List.setIfInBounds_toArray, List.set_cons_succ, List.set_cons_zero]
      refine K_one 6 #[true, true, true, true, true, true, true, false] rfl (by kernel_rfl) ?_
      refine r_store_row 36 36 _ _ B1 rfl (tg g.w g.h sl) _ rfl b1 Tryz.tsize rfl (tg_one hone) rfl ?_
      intro w6 u6 b16
      have b3 := u6.blk b3 n13
      have own := u6.row own (own_ne own b1 (by decide))
      have gg := u6.gr gg lo1
      simp only [Act.put]
      refine ⟨fun _ => b3, ?_⟩
      refine K_one 7 #[true, true, true, true, true, true, true, true] rfl (by kernel_rfl) ?_
      refine r_val (.bool false) rfl rfl ?_
      simp only [Act.put, List.setIfInBounds_toArray, List.set_cons_succ, List.set_cons_zero]
      refine ⟨fun _ => b3, ?_⟩
      refine K_done' (by kernel_rfl) ?_
      go_wp2
      refine bodyPost_ret (results_row_bool rfl _ _ _ _ _ _ rfl b16 Tryz.underlying36 rfl Tryz.tinfo) rfl ?_
      exact ⟨gg, .inl ⟨HN.out, _, _, _, hone, rfl⟩⟩
    | true =>
      have HY := hidI (show mcOk s.data.toList u = true from by unfold mcOk; rw [hu, hk]; rfl)
      have HW := hidI (fun w => hu ▸ tiWord_any u w)
      clear hp hk hu
      refine K_begin (fun w => Blk w B3 (tg g.w g.h sl) 36) 8 8 #[false, false, false, false, false, false, false, false] rfl (by kernel_rfl) (by kernel_rfl) ?_
      generalize w4.drew = wd at *
      refine K_take (v := .agg (tg g.w g.h sl)) 0 #[true, false, false, false, false, false, false, false] rfl (by kernel_rfl) (fun _ _ _ h => h) rfl (fun w hF => e_load_row 36 (.tmp 6) B3 _ _ _ rfl hF Tryz.underlying36 rfl Tryz.tinfo) (b3) ?_; simp only [Act.put, List.setIfInBounds_toArray, List.set_cons_succ, List.set_cons_zero]
      refine K_take (v := .bool true) 1 #[true, true, false, false, false, false, false, false] rfl (by kernel_rfl) (fun _ _ _ h => h) rfl (fun _ _ => rfl) (b3) ?_; simp only [Act.put, List.setIfInBounds_toArray, List.set_cons_succ, List.set_cons_zero]
      refine K_take (v := .bool true) 2 #[true, true, true, false, false, false, false, false] rfl (by kernel_rfl) (fun _ _ _ h => h) rfl (fun _ _ => rfl) (b3) ?_; simp only [Act.put, List.setIfInBounds_toArray, List.set_cons_succ, List.set_cons_zero]
      refine K_take (v := .string u) 3 #[true, true, true, true, false, false, false, false] rfl (by kernel_rfl) (fun _ _ _ h => h) rfl (fun _ _ => rfl) (b3) ?_; simp only [Act.put, List.setIfInBounds_toArray, List.set_cons_succ, List.set_cons_zero]
      refine K_one 4 #[true, true, true, true, true, false, false, false] rfl (by kernel_rfl) ?_
      refine r_call 45 [.tmp 16] _ [.string u] (.bool true) (fun w' => Gr wd w') Tryz.call45 rfl rfl (HW.out wd) ?_
      intro w5 g5
      have b1 := g5.blk b1
      have b3 := g5.blk b3
      have own := g5.row own
      have gg := gg.trans g5
      refine ⟨fun _ => b3, ?_⟩
      simp only [Act.put, List.setIfInBounds_toArray, List.set_cons_succ, List.set_cons_zero]
      refine K_take (v := .bool true) 5 #[true, true, true, true, true, true, false, false] rfl (by kernel_rfl) (fun _ _ _ h => h) rfl (fun w hF => rfl) (b3) ?_; simp only [Act.put, List.setIfInBounds_toArray, List.set_cons_succ, List.set_cons_zero]
      refine K_one 6 #[true, true, true, true, true, true, true, false] rfl (by kernel_rfl) ?_
      refine r_store_row 36 36 _ _ B1 rfl (tg g.w g.h sl) _ rfl b1 Tryz.tsize rfl (tg_one hone) rfl ?_
      intro w6 u6 b16
      have b3 := u6.blk b3 n13
      have own := u6.row own (own_ne own b1 (by decide))
      have gg := u6.gr gg lo1
      simp only [Act.put]
      refine ⟨fun _ => b3, ?_⟩
      refine K_one 7 #[true, true, true, true, true, true, true, true] rfl (by kernel_rfl) ?_
      refine r_val (.bool true) rfl rfl ?_
      simp only [Act.put, List.setIfInBounds_toArray, List.set_cons_succ, List.set_cons_zero]
      refine ⟨fun _ => b3, ?_⟩
      refine K_done' (by kernel_rfl) ?_
      go_wp2
      refine bodyPost_ret (results_row_bool rfl _ _ _ _ _ _ rfl b16 Tryz.underlying36 rfl Tryz.tinfo) rfl ?_
      exact ⟨gg, .inr ⟨g, sl, HP.out, HY.out, rfl, own_up own (by omega)⟩⟩
end Go.Proofs.YtcjmikafomlbiaaGreatDoor
