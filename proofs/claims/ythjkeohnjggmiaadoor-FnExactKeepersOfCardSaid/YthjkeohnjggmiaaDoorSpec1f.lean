/-
  What the model's functions that change a tray's cells return: one cell put, and all balls taken out.
-/
import Derived.Test.YthjkeohnjggmiaaDoorSpec1e
import Derived.Test.YthjkeohnjggmiaaDoorImpl1h
namespace Go.Proofs.YthjkeohnjggmiaaDoor
open Go.RowKit
theorem cellsV_set (c : List UInt8) (j : Nat) (b : UInt8) : (cellsV c).set j (byteV b) = cellsV (c.set j b) := by
  unfold cellsV
  rw [List.map_set]
/-- It returns a grid of the model, its cells in new memory. -/
def RetG (T : TypeId) (W H : Int) (c : List UInt8) (w : World) (e : Ending) (w' : World) : Prop :=
  Gr w w' ∧ ∃ sl, e = .returned (.agg (tg W H sl)) ∧ w'.ownsRow w.heap.size T 1 sl c.length (cellsV c)
theorem own_up {w : World} {b0 base : Nat} {e : TypeId} {size : Nat} {v : Value} {n : Nat} {xs : List Value} (hr : w.ownsRow base e size v n xs) (hb : b0 ≤ base) : w.ownsRow b0 e size v n xs := by
  obtain ⟨h1, h2 | ⟨g, cap, cur, rfl, b, c, d⟩⟩ := hr
  · exact ⟨h1, .inl h2⟩
  · exact ⟨h1, .inr ⟨g, cap, cur, rfl, by omega, c, d⟩⟩
theorem tyText_n (W H base n : Nat) (c : List UInt8) (sl : Value) (w : World) (hW1 : 1 ≤ W) (hH1 : 1 ≤ H) (hW : W ≤ 7) (hH : H ≤ 7) (h36 : nn W H ≤ 36) (hlen : c.length = nn W H) (hn : c.length = n) (hown : w.ownsRow base 5 1 sl n (cellsV c)) :
    Calls Tryd.prog 48 #[.agg (tg W H sl)] w (Ret (.string (txtB W H c)) w) := by
  subst hn
  exact tyText_any W H base c sl w hW1 hH1 (by omega) (by omega) (by omega) hlen hown
theorem tyText_w (W H base n : Nat) (c : List UInt8) (sl : Value) (w : World) (hW1 : 1 ≤ W) (hH1 : 1 ≤ H) (hW : W ≤ 14) (hH : H ≤ 14) (h36 : nn W H ≤ 196) (hlen : c.length = nn W H) (hn : c.length = n) (hown : w.ownsRow base 5 1 sl n (cellsV c)) :
    Calls Tryd.prog 48 #[.agg (tg W H sl)] w (Ret (.string (txtB W H c)) w) := by
  subst hn
  exact tyText_any W H base c sl w hW1 hH1 hW hH h36 hlen hown
set_option maxHeartbeats 1000000 in
theorem tyIf_any (W H base n : Nat) (c : List UInt8) (sl : Value) (w : World) (hW1 : 1 ≤ W) (hH1 : 1 ≤ H) (hW : W ≤ 14) (hH : H ≤ 14) (h36 : nn W H ≤ 196) (hlen : c.length = nn W H) (hn : c.length = n) (hown : w.ownsRow base 5 1 sl n (cellsV c)) :
    Calls Tryd.prog 56 #[.agg (tg W H sl)] w (Ret (.tuple #[.string (ifB (txtB W H c)), .bool (rdOk (txtB W H c).data.toList)]) w) := by
  have gg := Gr.refl w
  have htl := txtB_size W H c
  have hnn := nn_le (x := W + 1) (y := H) (a := 15) (b := 14) (by omega) hH
  by_cases h : rdOk (txtB W H c).data.toList = true
  · have HK := hidI h
    clear h
    go_enter Tryd.func56, Tryd.ntmps56
    go_wp2_with (first | (refine r_box 40 _ (tg (W) (H) (sl)) rfl rfl ?_; intro w1 B1 N1; have g1 := N1.gr; have b1 : Blk w1 B1 (tg (W) (H) (sl)) 40 := N1.blk; have l1 := N1.lo; have t1 := N1.hi; have z1 := g1.size; have gg := gg.trans g1; clear N1; obtain ⟨b1_0, b1_1, b1_2⟩ := tcells b1) | (refine r_load_row 40 _ _ rfl _ _ _ b1 Tryd.underlying40 rfl Tryd.tinfo rfl ?_) | (go_at_call 48; refine (tyText_w W H base n c sl _ hW1 hH1 hW hH h36 hlen hn (g1.row hown)).mono ?_; rintro e w2 ⟨rfl, g2⟩; have z2 := g2.size; have gg := gg.trans g2) | (go_at_call 89; refine (tyGood_any _ _ (by omega)).mono ?_; rintro e w3 ⟨rfl, g3⟩; rw [HK.out]; have z3 := g3.size; have gg := gg.trans g3))
    go_ret2
    exact ⟨fin_sb (by unfold ifB; rw [HK.out]; rfl) HK.out.symm, gg⟩
  · have HK := hidI (show rdOk (txtB W H c).data.toList = false from by simpa using h)
    clear h
    go_enter Tryd.func56, Tryd.ntmps56
    go_wp2_with (first | (refine r_box 40 _ (tg (W) (H) (sl)) rfl rfl ?_; intro w1 B1 N1; have g1 := N1.gr; have b1 : Blk w1 B1 (tg (W) (H) (sl)) 40 := N1.blk; have l1 := N1.lo; have t1 := N1.hi; have z1 := g1.size; have gg := gg.trans g1; clear N1; obtain ⟨b1_0, b1_1, b1_2⟩ := tcells b1) | (refine r_load_row 40 _ _ rfl _ _ _ b1 Tryd.underlying40 rfl Tryd.tinfo rfl ?_) | (go_at_call 48; refine (tyText_w W H base n c sl _ hW1 hH1 hW hH h36 hlen hn (g1.row hown)).mono ?_; rintro e w2 ⟨rfl, g2⟩; have z2 := g2.size; have gg := gg.trans g2) | (go_at_call 89; refine (tyGood_any _ _ (by omega)).mono ?_; rintro e w3 ⟨rfl, g3⟩; rw [HK.out]; have z3 := g3.size; have gg := gg.trans g3))
    go_ret2
    exact ⟨fin_sb (by unfold ifB; rw [HK.out]; rfl) HK.out.symm, gg⟩
theorem Tryd.six0 (B n cap x : Nat) (hx : x < n) (w : World) : (Instr.indexAt 38 (.slice (some ⟨B, 0, none⟩) n cap) (.int .i64 x)).run Tryd.prog w = .ok (.pointer (some ⟨B, x, none⟩)) w := by
  have h := Tryd.six B 0 n cap x hx w
  rw [Nat.zero_add] at h
  exact h
end Go.Proofs.YthjkeohnjggmiaaDoor
