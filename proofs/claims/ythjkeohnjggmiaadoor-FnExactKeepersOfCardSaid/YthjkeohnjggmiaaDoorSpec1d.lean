/-
  What the model's functions that return texts of cells return: one cell, and the text of a whole grid.
-/
import Derived.Test.YthjkeohnjggmiaaDoorSpec1c
import Derived.Test.YthjkeohnjggmiaaDoorImpl1g
namespace Go.Proofs.YthjkeohnjggmiaaDoor
open Go.RowKit
def btw (x lo h : Int) : Bool := decide (lo ≤ x) && decide (x ≤ h)
theorem btw_inB (x : Int) (n : Nat) : btw x 0 ((n : Int) - 1) = inB x n := by
  unfold btw inB
  congr 1
  apply decide_eq_decide.2
  omega
set_option maxHeartbeats 400000 in
theorem l1In_any (x lo h : Int) (w : World) : Calls Tryd.prog 65 #[.int .i64 x, .int .i64 lo, .int .i64 h] w fun e w' => e = .returned (.bool (btw x lo h)) ∧ w = w' := by
  by_cases h1 : lo ≤ x
  · have HV := hidI (show btw x lo h = decide (x ≤ h) from by unfold btw; rw [decide_eq_true h1]; rfl)
    go_enter Tryd.func65, Tryd.ntmps65
    go_wp2
    go_ret
    exact ⟨ret_bool HV.out.symm, rfl⟩
  · have HV := hidI (show btw x lo h = false from by unfold btw; rw [decide_eq_false h1]; rfl)
    have h1' : x < lo := by omega
    clear h1
    go_enter Tryd.func65, Tryd.ntmps65
    go_wp2
    go_ret
    exact ⟨ret_bool HV.out.symm, rfl⟩
set_option maxHeartbeats 1000000 in
theorem tyCell_any (W H : Nat) (sl : Value) (x y : Int) (w : World) (hW : W ≤ 7) (hH : H ≤ 7) : Calls Tryd.prog 143 #[.agg (tg W H sl), .int .i64 x, .int .i64 y] w (Ret (.bool (inB x W && inB y H)) w) := by
  have gg := Gr.refl w
  by_cases h1 : inB x W = true
  · have HX := hidI (btw_inB x W)
    have HY := hidI (btw_inB y H)
    have HB := hidI h1
    clear h1
    go_enter Tryd.func143, Tryd.ntmps143
    go_wp2_with (first | (refine r_box 40 _ (tg (W) (H) (sl)) rfl rfl ?_; intro w1 B1 N1; have g1 := N1.gr; have b1 : Blk w1 B1 (tg (W) (H) (sl)) 40 := N1.blk; have l1 := N1.lo; have t1 := N1.hi; have z1 := g1.size; have gg := gg.trans g1; clear N1; obtain ⟨b1_0, b1_1, b1_2⟩ := tcells b1) | (go_at_call 65; refine (l1In_any _ _ _ _).mono ?_; rintro e wSame ⟨rfl, rfl⟩; first | rw [HX.out, HB.out] | rw [HY.out]))
    go_ret
    exact ⟨ret_bool (by rw [HB.out]; rfl), gg⟩
  · have HX := hidI (btw_inB x W)
    have HB := hidI (show inB x W = false from by simpa using h1)
    clear h1
    go_enter Tryd.func143, Tryd.ntmps143
    go_wp2_with (first | (refine r_box 40 _ (tg (W) (H) (sl)) rfl rfl ?_; intro w1 B1 N1; have g1 := N1.gr; have b1 : Blk w1 B1 (tg (W) (H) (sl)) 40 := N1.blk; have l1 := N1.lo; have t1 := N1.hi; have z1 := g1.size; have gg := gg.trans g1; clear N1; obtain ⟨b1_0, b1_1, b1_2⟩ := tcells b1) | (go_at_call 65; refine (l1In_any _ _ _ _).mono ?_; rintro e wSame ⟨rfl, rfl⟩; rw [HX.out, HB.out]))
    go_ret
    exact ⟨ret_bool (by rw [HB.out]; rfl), gg⟩
end Go.Proofs.YthjkeohnjggmiaaDoor
