/-
  What the functions on a tray's text return, in the program and in the model: whether it is one, its sizes, and its cells.
-/
import Derived.Test.YthjkeohnjggmiaaDoorImpl1d
import Derived.Test.YthjkeohnjggmiaaDoorSpec1b
namespace Go.Proofs.YthjkeohnjggmiaaDoor
open Go.RowKit
theorem rd_parse_none {l : List UInt8} (h : parse l = none) : rdG l = ⟨0, 0, []⟩ ∧ rdOk l = false := by unfold rdG rdOk; rw [h]; exact ⟨rfl, rfl⟩
theorem rd_parse_some {l : List UInt8} {g : Grid} (h : parse l = some g) : rdG l = g ∧ rdOk l = true := by unfold rdG rdOk; rw [h]; exact ⟨rfl, rfl⟩
set_option maxHeartbeats 1000000 in
theorem iIsTray (s : ByteArray) (w : World) (hm : ML w) (hs : s.size ≤ 1048576) : Calls Tryd.prog 57 #[.string s] w (Ret (.bool (rdOk s.data.toList)) w) := by
  have gg := Gr.refl w
  go_enter Tryd.func57, Tryd.ntmps57
  go_wp2_with (first | (go_at_call 44; refine (readTray_any s _ hm hs).mono ?_; rintro e w1 ⟨rfl, g1⟩; have z1 := g1.size; have gg := gg.trans g1) | (refine r_alloc 46 _ Tryd.gzero rfl ?_; intro w2 B2 N2; have g2 := N2.gr; have b2 : Blk w2 B2 (gv 0 0 []) 46 := N2.blk; have l2 := N2.lo; have t2 := N2.hi; have z2 := g2.size; have gg := gg.trans g2; clear N2; obtain ⟨b2_0, b2_1, b2_2⟩ := gcells b2) | (refine r_store_row 46 46 _ _ _ rfl (gv _ _ _) _ rfl b2 (Tryd.gsize' _ _ _) (by simp only [gv_size]) (gv_one _ _ _) rfl ?_; intro w3 u3 b2'; have z3 := u3.size; have gg := u3.gr gg (by omega); clear b2; have b2 := b2'; clear b2'; obtain ⟨b2_0, b2_1, b2_2⟩ := gcells b2))
  go_ret
  exact ⟨rfl, gg⟩
set_option maxHeartbeats 1000000 in
theorem tyGood_any (s : ByteArray) (w : World) (hs : s.size ≤ 1048576) : Calls Tryd.prog 89 #[.string s] w (Ret (.bool (rdOk s.data.toList)) w) := by
  have gg := Gr.refl w
  go_enter Tryd.func89, Tryd.ntmps89
  go_wp2_with fail
  refine (tyRead_any s _ hs).mono ?_
  rintro e w1 ⟨g1, ⟨hp, rfl⟩ | ⟨g, sl, hp, rfl, hown⟩⟩
  · have HV := hidI (rd_parse_none hp)
    have z1 := g1.size
    have gg := gg.trans g1
    clear hp
    go_wp2_with (first | (refine r_alloc 40 _ Tryd.tzero rfl ?_; intro w2 B2 N2; have g2 := N2.gr; have b2 : Blk w2 B2 (tg 0 0 (.slice none 0 0)) 40 := N2.blk; have l2 := N2.lo; have t2 := N2.hi; have z2 := g2.size; have gg := gg.trans g2; clear N2; obtain ⟨b2_0, b2_1, b2_2⟩ := tcells b2) | (refine r_store_row 40 40 _ _ _ rfl (tg _ _ _) _ rfl b2 Tryd.tsize rfl (tg_one rfl) rfl ?_; intro w3 u3 b2'; have z3 := u3.size; have gg := u3.gr gg (by omega); clear b2; have b2 := b2'; clear b2'; obtain ⟨b2_0, b2_1, b2_2⟩ := tcells b2))
    go_ret
    exact ⟨ret_bool HV.out.2.symm, gg⟩
  · have HV := hidI (rd_parse_some hp)
    have z1 := g1.size
    have gg := gg.trans g1
    have hone := own_one hown
    clear hp
    go_wp2_with (first | (refine r_alloc 40 _ Tryd.tzero rfl ?_; intro w2 B2 N2; have g2 := N2.gr; have b2 : Blk w2 B2 (tg 0 0 (.slice none 0 0)) 40 := N2.blk; have l2 := N2.lo; have t2 := N2.hi; have z2 := g2.size; have gg := gg.trans g2; clear N2; obtain ⟨b2_0, b2_1, b2_2⟩ := tcells b2) | (refine r_store_row 40 40 _ _ _ rfl (tg _ _ _) _ rfl b2 Tryd.tsize rfl (tg_one hone) rfl ?_; intro w3 u3 b2'; have z3 := u3.size; have gg := u3.gr gg (by omega); clear b2; have b2 := b2'; clear b2'; obtain ⟨b2_0, b2_1, b2_2⟩ := tcells b2))
    go_ret
    exact ⟨ret_bool HV.out.2.symm, gg⟩
end Go.Proofs.YthjkeohnjggmiaaDoor
