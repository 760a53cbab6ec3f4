/-
  What the program's functions that look for balls return: the numbers of all balls' cells, and the place of one with a name.
-/
import Derived.Test.YtedgocedomlhfaaDoorImpl1i
import Derived.Test.YtedgocedomlhfaaDoorLists
namespace Go.Proofs.YtedgocedomlhfaaDoor
open Go.RowKit
/-- The numbers of those of the first k cells for which p holds. -/
def ballsTo (p : UInt8 → Bool) (c : List UInt8) : Nat → List Int
  | 0 => []
  | k + 1 => if p (at0 c k) then ballsTo p c k ++ [(k : Int)] else ballsTo p c k
theorem ballsTo_le (p : UInt8 → Bool) (c : List UInt8) (k : Nat) : (ballsTo p c k).length ≤ k := by
  induction k with
  | zero => exact Nat.le_refl _
  | succ k ih =>
    unfold ballsTo
    split
    · rw [List.length_append]; exact Nat.succ_le_succ ih
    · omega
theorem ballsTo_congr {p q : UInt8 → Bool} {c : List UInt8} (k : Nat) (h : ∀ i, i < k → p (at0 c i) = q (at0 c i)) : ballsTo p c k = ballsTo q c k := by
  induction k with
  | zero => rfl
  | succ k ih => unfold ballsTo; rw [h k (by omega), ih (fun i hi => h i (by omega))]
def blL (l : List UInt8) : List Int := ballsTo isBallB (rdG l).c (nn (rdG l).w (rdG l).h)
theorem bl_impl (l : List UInt8) : ballsTo ballB (rdG l).c (nn (rdG l).w (rdG l).h) = blL l := by
  unfold blL
  rcases rd_cases l with ⟨_, hg, _⟩ | ⟨g, hp, hg, _⟩
  · rw [hg]; rfl
  · rw [hg]
    have ht := parse_tray hp
    exact ballsTo_congr _ fun i hi => ball_cell (ht.cells i (by rw [ht.len]; exact hi))
/-- It returns a list of numbers in new memory, and whether it has succeeded. -/
def RetInts (T : TypeId) (L : List Int) (ok : Bool) (w : World) (e : Ending) (w' : World) : Prop :=
  Gr w w' ∧ ∃ v, e = .returned (.tuple #[v, .bool ok]) ∧ w'.ownsRow w.heap.size T 1 v L.length (intsV L)
theorem fin_vb {v : Value} {x y : Bool} (h2 : x = y) : Ending.returned (.tuple #[v, .bool x]) = .returned (.tuple #[v, .bool y]) := by rw [h2]
theorem Tryd.bsi1 (u : Int) (w : World) : (Instr.buildSlice 30 1 #[(0, .int .i64 u)]).run Tryd.prog w = .ok (.slice (some ⟨w.heap.size, 0, none⟩) 1 1) (w.alloc (.cells #[.int .i64 u] 3)) := by kernel_rfl
theorem Tryd.intsI : ElemInfo Tryd.prog 30 3 (.int .i64 0) 1 8 := ⟨Tryd.underlying30, by kernel_rfl, rfl, by decide⟩
set_option maxHeartbeats 2000000 in
set_option maxRecDepth 100000 in
theorem iBallsOf (s : ByteArray) (w : World) (hm : ML w) (hs : s.size ≤ 1048576) : Calls Tryd.prog 19 #[.string s] w (RetInts 3 (blL s.data.toList) (rdOk s.data.toList) w) := by
  have gg := Gr.refl w
  rcases rd_cases s.data.toList with ⟨hp, hg, hk⟩ | ⟨g, hp, hg, hk⟩
  · have HK := hidI hk
    have HV := hidI (show blL s.data.toList = [] from by unfold blL; rw [hg]; rfl)
    clear hp hg hk
    go_enter Tryd.func19, Tryd.ntmps19
    go_wp2_with (first | (go_at_call 35; refine (readTray_any s _ hm hs).mono ?_; rintro e w1 ⟨rfl, g1⟩; rw [HK.out]; have z1 := g1.size; have gg := gg.trans g1) | (refine r_alloc 47 _ Tryd.gzero rfl ?_; intro w2 B2 N2; have g2 := N2.gr; have b2 : Blk w2 B2 (gv 0 0 []) 47 := N2.blk; have l2 := N2.lo; have t2 := N2.hi; have z2 := g2.size; have gg := gg.trans g2; clear N2; obtain ⟨b2_0, b2_1, b2_2⟩ := gcells b2) | (refine r_store_row 47 47 _ _ _ rfl (gv _ _ _) _ rfl b2 (Tryd.gsize' _ _ _) (by simp only [gv_size]) (gv_one _ _ _) rfl ?_; intro w3 u3 b2'; have z3 := u3.size; have gg := u3.gr gg (by omega); clear b2; have b2 := b2'; clear b2'; obtain ⟨b2_0, b2_1, b2_2⟩ := gcells b2))
    go_ret2
    exact ⟨gg, _, fin_vb HK.out.symm, by rw [HV.out]; exact World.ownsRow_nil _ _ _ _⟩
  · have HK := hidI hk
    have HG := hidI hg
    have ht := parse_tray hp
    have HV := hidI (show ballsTo ballB g.c (nn g.w g.h) = blL s.data.toList from by have := bl_impl s.data.toList; rw [hg] at this; exact this)
    have hw7 := ht.w7
    have hh7 := ht.h7
    have n36 := ht.n36
    clear hp hg hk ht
    go_enter Tryd.func19, Tryd.ntmps19
    go_wp2_with (first | (go_at_call 35; refine (readTray_any s _ hm hs).mono ?_; rintro e w1 ⟨rfl, g1⟩; rw [HK.out, HG.out, gvG]; have z1 := g1.size; have gg := gg.trans g1) | (refine r_alloc 47 _ Tryd.gzero rfl ?_; intro w2 B2 N2; have g2 := N2.gr; have b2 : Blk w2 B2 (gv 0 0 []) 47 := N2.blk; have l2 := N2.lo; have t2 := N2.hi; have z2 := g2.size; have gg := gg.trans g2; clear N2; obtain ⟨b2_0, b2_1, b2_2⟩ := gcells b2) | (refine r_store_row 47 47 _ _ _ rfl (gv g.w g.h g.c) _ rfl b2 (Tryd.gsize' _ _ _) (by simp only [gv_size]) (gv_one _ _ _) rfl ?_; intro w3 u3 b2'; have z3 := u3.size; have gg := u3.gr gg (by omega); clear b2; have b2 := b2'; clear b2'; obtain ⟨b2_0, b2_1, b2_2⟩ := gcells b2) | (refine r_load_row 47 _ _ rfl _ _ _ b2 Tryd.underlying47 rfl (Tryd.ginfo' _ _ _) rfl ?_) | (go_at_call 45; refine (countAll_any g.w g.h g.c _ hw7 hh7).mono ?_; rintro e w4 ⟨rfl, g4⟩; have z4 := g4.size; have b2 := g4.blk b2; obtain ⟨b2_0, b2_1, b2_2⟩ := gcells b2; have gg := gg.trans g4))
    have own0 : w4.ownsRow w.heap.size 3 1 (.slice none 0 0) (ballsTo ballB g.c 0).length (intsV (ballsTo ballB g.c 0)) := World.ownsRow_nil _ _ _ _
    go_loopw [6, 7, 17] (fun bv _ i wr => ∃ k : Nat, k ≤ nn g.w g.h ∧ i = .int .i64 k ∧ Blk wr B2 (gv g.w g.h g.c) 47 ∧ wr.ownsRow w.heap.size 3 1 bv (ballsTo ballB g.c k).length (intsV (ballsTo ballB g.c k)) ∧ Gr w wr) (fun _ _ i _ => nn g.w g.h - (intOf i).toNat)
    case atStart => exact ⟨0, Nat.zero_le _, rfl, b2, own0, gg⟩
    case round =>
      obtain ⟨k, hk, rfl, b2, own, gg⟩ := hrel
      by_cases hlt : k < nn g.w g.h
      · have hix := Tryd.gix B2 k (by omega)
        have hc := (gcells b2).2.2 k (by omega)
        have hle := ballsTo_le ballB g.c k
        by_cases hb : ballB (at0 g.c k) = true
        · have HS := hidI (show ballsTo ballB g.c k ++ [(k : Int)] = ballsTo ballB g.c (k + 1) from by rw [ballsTo, if_pos hb])
          have HB := hidI hb
          clear hb
          go_wp2_with (first | (go_at_call 46; refine (isBall_any _ _).mono ?_; rintro e wSame ⟨rfl, rfl⟩; rw [HB.out]) | (refine r_slice1 30 3 (.tmp 26) (.int .i64 k) rfl (Tryd.bsi1 _ _) rfl ?_; intro w5 B5 N5; have g5 := N5.gr; have own5 := g5.row own; have b25 := g5.blk b2; have gg5 := gg.trans g5; have z5 := g5.size) | (refine r_append (.tmp 25) (.tmp 27) 30 3 _ 1 8 w.heap.size Tryd.intsI _ _ (intsV (ballsTo ballB g.c k)) rfl own5 ⟨B5, 0, none⟩ 1 1 [.int .i64 k] rfl rfl N5.cell1 (intsV_one [(k : Int)]) (by omega) (by decide) (by have := gg5.size; omega) rfl ?_; intro v6 w6 own6 g6))
          have b26 := g6.blk b25 (own_ne own5 b25 (by decide))
          have gg6 := g6.gr gg5 (own_gr own5 (Nat.le_refl _))
          have own7 : w6.ownsRow w.heap.size 3 1 v6 (ballsTo ballB g.c (k + 1)).length (intsV (ballsTo ballB g.c (k + 1))) := by
            rw [← HS.out, ← intsV_append, List.length_append]
            exact own6
          go_roundw
          case rel => exact ⟨k + 1, by omega, by go_num, b26, own7, gg6⟩
          case measure => simp [intOf]; omega
        · have HS := hidI (show ballsTo ballB g.c k = ballsTo ballB g.c (k + 1) from by rw [ballsTo, if_neg hb])
          have HB := hidI (show ballB (at0 g.c k) = false from by simpa using hb)
          clear hb
          go_wp2_with (go_at_call 46; refine (isBall_any _ _).mono ?_; rintro e wSame ⟨rfl, rfl⟩; rw [HB.out])
          go_roundw
          case rel => exact ⟨k + 1, by omega, by go_num, b2, by rw [← HS.out]; exact own, gg⟩
          case measure => simp [intOf]; omega
      · obtain rfl : k = nn g.w g.h := by omega
        clear hlt
        rw [HV.out] at own
        go_wp2
        go_ret2
        exact ⟨gg, _, fin_vb HK.out.symm, own⟩
end Go.Proofs.YtedgocedomlhfaaDoor
