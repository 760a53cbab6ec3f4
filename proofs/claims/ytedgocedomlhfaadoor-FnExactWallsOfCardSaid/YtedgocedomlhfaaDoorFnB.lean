/-
  The laws on functions that look at a tray's cells: for every input the call returns true.
-/
import Derived.Test.YtedgocedomlhfaaDoorSpec1g
namespace Go.Proofs.YtedgocedomlhfaaDoor
open Go.RowKit
set_option maxHeartbeats 1000000 in
theorem lawCountCells (s c : ByteArray) (w : World) (hm : ML w) : Calls Tryd.prog 5 #[.string s, .string c] w (Ret (.bool true) w) := by
  have gg := Gr.refl w
  by_cases hs : 1048576 < s.size
  · go_enter Tryd.func5, Tryd.ntmps5
    go_wp2
    go_ret
    exact ⟨rfl, gg⟩
  · have hs' : s.size ≤ 1048576 := by omega
    clear hs
    by_cases hc : 1048576 < c.size
    · go_enter Tryd.func5, Tryd.ntmps5
      go_wp2
      go_ret
      exact ⟨rfl, gg⟩
    · have hc' : c.size ≤ 1048576 := by omega
      clear hc
      go_enter Tryd.func5, Tryd.ntmps5
      go_wp2_with (first | (go_at_call 16; refine (sCountCells s c _ hs').mono ?_; rintro e w1 ⟨rfl, g1⟩; have z1 := g1.size; have gg := gg.trans g1) | (go_at_call 17; refine (iCountCells s c _ (gg.ml hm) hs').mono ?_; rintro e w2 ⟨rfl, g2⟩; have z2 := g2.size; have gg := gg.trans g2))
      go_ret
      exact ⟨rfl, gg⟩
set_option maxHeartbeats 1000000 in
theorem lawCellAt (s : ByteArray) (x y : Int) (w : World) (hm : ML w) : Calls Tryd.prog 3 #[.string s, .int .i64 x, .int .i64 y] w (Ret (.bool true) w) := by
  have gg := Gr.refl w
  by_cases hs : 1048576 < s.size
  · go_enter Tryd.func3, Tryd.ntmps3
    go_wp2
    go_ret
    exact ⟨rfl, gg⟩
  · have hs' : s.size ≤ 1048576 := by omega
    clear hs
    go_enter Tryd.func3, Tryd.ntmps3
    go_wp2_with (first | (go_at_call 12; refine (sCellAt s x y _ hs').mono ?_; rintro e w1 ⟨rfl, g1⟩; have z1 := g1.size; have gg := gg.trans g1) | (go_at_call 13; refine (iCellAt s x y _ (gg.ml hm) hs').mono ?_; rintro e w2 ⟨rfl, g2⟩; have z2 := g2.size; have gg := gg.trans g2))
    go_ret
    exact ⟨rfl, gg⟩
set_option maxHeartbeats 1000000 in
theorem lawPutAt (s : ByteArray) (x y : Int) (c : ByteArray) (w : World) (hm : ML w) : Calls Tryd.prog 4 #[.string s, .int .i64 x, .int .i64 y, .string c] w (Ret (.bool true) w) := by
  have gg := Gr.refl w
  by_cases hs : 1048576 < s.size
  · go_enter Tryd.func4, Tryd.ntmps4
    go_wp2
    go_ret
    exact ⟨rfl, gg⟩
  · have hs' : s.size ≤ 1048576 := by omega
    clear hs
    by_cases hc : 1048576 < c.size
    · go_enter Tryd.func4, Tryd.ntmps4
      go_wp2
      go_ret
      exact ⟨rfl, gg⟩
    · have hc' : c.size ≤ 1048576 := by omega
      clear hc
      go_enter Tryd.func4, Tryd.ntmps4
      go_wp2_with (first | (go_at_call 14; refine (sPutAt s x y c _ hs').mono ?_; rintro e w1 ⟨rfl, g1⟩; have z1 := g1.size; have gg := gg.trans g1) | (go_at_call 15; refine (iPutAt s x y c _ (gg.ml hm) hs').mono ?_; rintro e w2 ⟨rfl, g2⟩; have z2 := g2.size; have gg := gg.trans g2))
      go_ret
      exact ⟨rfl, gg⟩
set_option maxHeartbeats 1000000 in
theorem lawWallsOf (s : ByteArray) (w : World) (hm : ML w) : Calls Tryd.prog 11 #[.string s] w (Ret (.bool true) w) := by
  have gg := Gr.refl w
  by_cases hs : 1048576 < s.size
  · go_enter Tryd.func11, Tryd.ntmps11
    go_wp2
    go_ret
    exact ⟨rfl, gg⟩
  · have hs' : s.size ≤ 1048576 := by omega
    clear hs
    go_enter Tryd.func11, Tryd.ntmps11
    go_wp2_with (first | (go_at_call 31; refine (sWallsOf s _ hs').mono ?_; rintro e w1 ⟨rfl, g1⟩; have z1 := g1.size; have gg := gg.trans g1) | (go_at_call 32; refine (iWallsOf s _ (gg.ml hm) hs').mono ?_; rintro e w2 ⟨rfl, g2⟩; have z2 := g2.size; have gg := gg.trans g2))
    go_ret
    exact ⟨rfl, gg⟩
end Go.Proofs.YtedgocedomlhfaaDoor
