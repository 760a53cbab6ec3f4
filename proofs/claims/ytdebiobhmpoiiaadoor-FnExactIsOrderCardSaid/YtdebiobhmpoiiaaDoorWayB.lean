/-
  Ways through a tray: the neighbours of a cell, in the program and in the model.
-/
import Derived.Test.YtdebiobhmpoiiaaDoorWayP
import Derived.Test.YtdebiobhmpoiiaaDoorQueueQ
import Derived.Test.YtdebiobhmpoiiaaDoorBLs
import Derived.Test.YtdebiobhmpoiiaaDoorOps
namespace Go.Proofs.YtdebiobhmpoiiaaDoor
open Go.RowKit
def RetRow (T : TypeId) (L : List Int) (w : World) (e : Ending) (w' : World) : Prop := Gr w w' ∧ ∃ v, e = .returned v ∧ w'.ownsRow w.heap.size T 1 v L.length (intsV L)
theorem Tryd.gw0 (B : Nat) (w : World) : (Instr.fieldAt 72 (.pointer (some ⟨B, 0, none⟩)) 0).run Tryd.prog w = .ok (.pointer (some ⟨B, 0, none⟩)) w := by kernel_rfl
set_option maxHeartbeats 4000000 in
set_option maxRecDepth 100000 in
theorem neighboursOf_any (W H i : Nat) (c : List UInt8) (w : World) (hw1 : 1 ≤ W) (hw7 : W ≤ 7) (hh7 : H ≤ 7) (hi : i < nn W H) (h36 : nn W H ≤ 36) :
    Calls Tryd.prog 164 #[.agg (gv W H c), .int .i64 i] w (RetRow 3 (natsI (nearL W H i)) w) := by
  have gg := Gr.refl w
  obtain ⟨X, hX⟩ : ∃ X, i % W = X := ⟨_, rfl⟩
  obtain ⟨Y, hY⟩ : ∃ Y, i / W = Y := ⟨_, rfl⟩
  have HN := hidI (near_int (H := H) hX hY)
  have hX7 : X < W := by rw [← hX]; exact Nat.mod_lt _ hw1
  have hY7 : Y ≤ i := by rw [← hY]; exact Nat.div_le_self _ _
  have HX := hidI hX
  have HY := hidI hY
  clear hX hY
  go_enter Tryd.func164, Tryd.ntmps164
  go_wp2_with (refine r_box 72 _ (gv W H c) rfl rfl ?_; intro w1 B1 N1; have g1 := N1.gr; have b1 : Blk w1 B1 (gv W H c) 72 := N1.blk; have l1 := N1.lo; have t1 := N1.hi; have z1 := g1.size; have gg := gg.trans g1; clear N1; obtain ⟨b1_0, b1_1, b1_2⟩ := gcells b1)
  refine q_whole (by kernel_rfl) (by kernel_rfl) ?_
  refine q_move _ (.int .i64 i) rfl rfl ?_; simp only [Act.put, List.setIfInBounds_toArray, List.set_cons_succ, List.set_cons_zero]
  refine q_take (.pointer (some ⟨B1, 0, none⟩)) rfl (fun w' hw' => e_val _ _ (Tryd.gw0 B1 _)) ?_; simp only [Act.put, List.setIfInBounds_toArray, List.set_cons_succ, List.set_cons_zero]
  refine q_take (.int .i64 W) rfl (fun w' hw' => e_load 3 (.tmp 9) ⟨B1, 0, none⟩ _ rfl (Tryd.isAgg3 _) (hw'.cell b1_0)) ?_; simp only [Act.put, List.setIfInBounds_toArray, List.set_cons_succ, List.set_cons_zero]
  refine q_rem _ _ _ _ (i) (W) rfl rfl (hw1) rfl ?_; simp only [Act.put, List.setIfInBounds_toArray, List.set_cons_succ, List.set_cons_zero]
  refine q_move _ (.int .i64 i) rfl rfl ?_; simp only [Act.put, List.setIfInBounds_toArray, List.set_cons_succ, List.set_cons_zero]
  refine q_take (.pointer (some ⟨B1, 0, none⟩)) rfl (fun w' hw' => e_val _ _ (Tryd.gw0 B1 _)) ?_; simp only [Act.put, List.setIfInBounds_toArray, List.set_cons_succ, List.set_cons_zero]
  refine q_take (.int .i64 W) rfl (fun w' hw' => e_load 3 (.tmp 13) ⟨B1, 0, none⟩ _ rfl (Tryd.isAgg3 _) (hw'.cell b1_0)) ?_; simp only [Act.put, List.setIfInBounds_toArray, List.set_cons_succ, List.set_cons_zero]
  refine q_quo _ _ _ _ (i) (W) rfl rfl (hw1) (by omega) rfl ?_; simp only [Act.put, List.setIfInBounds_toArray, List.set_cons_succ, List.set_cons_zero]
  refine q_assign _ (.int .i64 (i % W : Nat)) rfl rfl ?_; simp only [Act.put, List.setIfInBounds_toArray, List.set_cons_succ, List.set_cons_zero]
  refine q_assign _ (.int .i64 (i / W : Nat)) rfl rfl ?_; simp only [Act.put, List.setIfInBounds_toArray, List.set_cons_succ, List.set_cons_zero]
  refine wpQuiet_nil ?_; intro w2 g2; have z2 := g2.size; have b1 := g2.blk b1; obtain ⟨b1_0, b1_1, b1_2⟩ := gcells b1; have gg := gg.trans g2
  rw [HX.out, HY.out]
  have own : w2.ownsRow w.heap.size 3 1 (.slice none 0 0) 0 [] := World.ownsRow_nil _ _ _ _
  have hip := hi
  by_cases h1 : 0 < Y <;> by_cases h2 : X + 1 < W <;> by_cases h3 : Y + 1 < H <;> by_cases h4 : 0 < X
  all_goals
    have HL := HN.out
    simp only [h1, h2, h3, h4, if_true, if_false, List.nil_append, List.append_nil] at HL
    have HL := hidI HL
    have i1 : (0 : Int) < (Y : Int) ∨ (Y : Int) ≤ 0 := by omega
    have i2 : (X : Int) + 1 < (W : Int) ∨ (W : Int) ≤ (X : Int) + 1 := by omega
    have i3 : (Y : Int) + 1 < (H : Int) ∨ (H : Int) ≤ (Y : Int) + 1 := by omega
    have i4 : (0 : Int) < (X : Int) ∨ (X : Int) ≤ 0 := by omega
    rcases i1 with i1 | i1 <;> first | omega | skip
    all_goals rcases i2 with i2 | i2 <;> first | omega | skip
    all_goals rcases i3 with i3 | i3 <;> first | omega | skip
    all_goals rcases i4 with i4 | i4 <;> first | omega | skip
    all_goals clear HN
    go_wp2_with (first | (refine r_slice1 34 3 (.tmp 22) (.int .i64 ((i : Int) - W)) rfl (Tryd.bsi1 _ _) rfl ?_; intro w3 B3 N3; have g3 := N3.gr; have own := g3.row own; have b1 := g3.blk b1; obtain ⟨b1_0, b1_1, b1_2⟩ := gcells b1; have gg := gg.trans g3; have z3 := g3.size) | (refine r_append (.tmp 18) (.tmp 23) 34 3 _ 1 8 w.heap.size Tryd.intsI _ _ _ rfl own ⟨B3, 0, none⟩ 1 1 [.int .i64 ((i : Int) - W)] rfl rfl N3.cell1 (by intro u hu; simp at hu; subst hu; rfl) (by omega) (by decide) (by omega) rfl ?_; intro v4 w4 own4 g4; have b1 := g4.blk b1 (own_ne own b1 (by decide)); obtain ⟨b1_0, b1_1, b1_2⟩ := gcells b1; have z4 := g4.size; have gg := g4.gr gg (own_gr own (Nat.le_refl _)); have own := own4) | (refine r_slice1 34 3 (.tmp 32) (.int .i64 ((i : Int) + 1)) rfl (Tryd.bsi1 _ _) rfl ?_; intro w5 B5 N5; have g5 := N5.gr; have own := g5.row own; have b1 := g5.blk b1; obtain ⟨b1_0, b1_1, b1_2⟩ := gcells b1; have gg := gg.trans g5; have z5 := g5.size) | (refine r_append (.tmp 30) (.tmp 33) 34 3 _ 1 8 w.heap.size Tryd.intsI _ _ _ rfl own ⟨B5, 0, none⟩ 1 1 [.int .i64 ((i : Int) + 1)] rfl rfl N5.cell1 (by intro u hu; simp at hu; subst hu; rfl) (by omega) (by decide) (by omega) rfl ?_; intro v6 w6 own6 g6; have b1 := g6.blk b1 (own_ne own b1 (by decide)); obtain ⟨b1_0, b1_1, b1_2⟩ := gcells b1; have z6 := g6.size; have gg := g6.gr gg (own_gr own (Nat.le_refl _)); have own := own6) | (refine r_slice1 34 3 (.tmp 44) (.int .i64 ((i : Int) + W)) rfl (Tryd.bsi1 _ _) rfl ?_; intro w7 B7 N7; have g7 := N7.gr; have own := g7.row own; have b1 := g7.blk b1; obtain ⟨b1_0, b1_1, b1_2⟩ := gcells b1; have gg := gg.trans g7; have z7 := g7.size) | (refine r_append (.tmp 40) (.tmp 45) 34 3 _ 1 8 w.heap.size Tryd.intsI _ _ _ rfl own ⟨B7, 0, none⟩ 1 1 [.int .i64 ((i : Int) + W)] rfl rfl N7.cell1 (by intro u hu; simp at hu; subst hu; rfl) (by omega) (by decide) (by omega) rfl ?_; intro v8 w8 own8 g8; have b1 := g8.blk b1 (own_ne own b1 (by decide)); obtain ⟨b1_0, b1_1, b1_2⟩ := gcells b1; have z8 := g8.size; have gg := g8.gr gg (own_gr own (Nat.le_refl _)); have own := own8) | (refine r_slice1 34 3 (.tmp 51) (.int .i64 ((i : Int) - 1)) rfl (Tryd.bsi1 _ _) rfl ?_; intro w9 B9 N9; have g9 := N9.gr; have own := g9.row own; have b1 := g9.blk b1; obtain ⟨b1_0, b1_1, b1_2⟩ := gcells b1; have gg := gg.trans g9; have z9 := g9.size) | (refine r_append (.tmp 49) (.tmp 52) 34 3 _ 1 8 w.heap.size Tryd.intsI _ _ _ rfl own ⟨B9, 0, none⟩ 1 1 [.int .i64 ((i : Int) - 1)] rfl rfl N9.cell1 (by intro u hu; simp at hu; subst hu; rfl) (by omega) (by decide) (by omega) rfl ?_; intro va wa owna ga; have b1 := ga.blk b1 (own_ne own b1 (by decide)); obtain ⟨b1_0, b1_1, b1_2⟩ := gcells b1; have za := ga.size; have gg := ga.gr gg (own_gr own (Nat.le_refl _)); have own := owna))
    go_ret
    refine ⟨gg, _, rfl, ?_⟩
    rw [HL.out]
    exact own
end Go.Proofs.YtdebiobhmpoiiaaDoor
