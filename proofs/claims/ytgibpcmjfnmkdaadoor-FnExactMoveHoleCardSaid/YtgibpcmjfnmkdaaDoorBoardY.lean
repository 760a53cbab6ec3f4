/-
  The hole of a board: where it is, and the law.
-/
import Derived.Test.YtgibpcmjfnmkdaaDoorBoardX
namespace Go.Proofs.YtgibpcmjfnmkdaaDoor
open Go.RowKit
/-- Where the hole is. -/
def hoV (z : Int) (L : List Int) : Int := if bdOk z L = true then (hI L : Nat) else 0
theorem hoV_bad {z : Int} {L : List Int} (h : bdOk z L = false) : hoV z L = 0 := by unfold hoV; rw [h]; rfl
theorem hoV_good {z : Int} {L : List Int} (h : bdOk z L = true) : hoV z L = (hI L : Nat) := by unfold hoV; rw [h]; rfl
theorem zero_in {L : List Int} (h : hasAll L = true) (hl : 0 < L.length) : (0 : Int) ∈ L := by have := (hasAll_iff.1 h) 0 hl; simpa using this
theorem fin_ib {a b : Int} {x y : Bool} (h1 : a = b) (h2 : x = y) : Ending.returned (.tuple #[.int .i64 a, .bool x]) = .returned (.tuple #[.int .i64 b, .bool y]) := by rw [h1, h2]
set_option maxHeartbeats 400000 in
set_option maxRecDepth 100000 in
theorem blHole_any (z : Int) (L : List Int) (v : Value) (base : Nat) (w : World) (hown : w.ownsRow base 3 1 v L.length (intsV L)) (hl : L.length ≤ 1048576) (h0 : (0 : Int) ∈ L) :
    Calls Tryd.prog 50 #[.agg (bv z v)] w (Ret (.int .i64 (hI L)) w) := by
  have gg := Gr.refl w
  obtain ⟨p1, p2, p3⟩ := hI_spec h0
  obtain ⟨g, c, e, -, -⟩ := own_shape hown (by omega)
  subst e
  have HOWN := hidI hown
  have P1 := hidI p1
  have P2 := hidI p2
  clear hown p1 p2 p3 h0
  go_enter Tryd.func50, Tryd.ntmps50
  go_wp2_with (refine r_box 26 _ (bv (z) (.slice (some ⟨g, 0, none⟩) L.length c)) rfl rfl ?_; intro w1 B1 N1; have g1 := N1.gr; have b1 : Blk w1 B1 (bv (z) (.slice (some ⟨g, 0, none⟩) L.length c)) 26 := N1.blk; have l1 := N1.lo; have t1 := N1.hi; have z1 := g1.size; have gg := gg.trans g1; clear N1; obtain ⟨b1_0, b1_1⟩ := bcells b1)
  go_loopw [3, 4, 8] (fun _ _ i wr => ∃ k : Nat, k ≤ L.length ∧ i = .int .i64 k ∧ Gr w wr ∧ Hid (∀ j, j < k → gi L j ≠ 0)) (fun _ _ i _ => L.length - (intOf i).toNat)
  case atStart => exact ⟨0, Nat.zero_le _, rfl, gg, fun j hj => by omega⟩
  case round =>
    obtain ⟨k, hk, rfl, gg, HA⟩ := hrel
    by_cases hlt : k < L.length
    · have hc := own_int (gg.row HOWN.out) k hlt rfl
      by_cases hb : gi L k = 0
      · rw [hb] at hc
        have HV := hidI (hI_eq hlt hb HA.out)
        clear hb
        go_wp2
        go_ret
        exact ⟨ret_int (by rw [HV.out]), gg⟩
      · have e1 : (gi L k == (0 : Int)) = false := by rw [beq_eq_false_iff_ne]; exact hb
        have HB := hidI hb
        clear hb
        go_wp2
        go_roundw
        case rel => exact ⟨k + 1, by omega, by go_num, gg, fun j hj => if h : j < k then HA.out j h else by rw [show j = k by omega]; exact HB.out⟩
        case measure => simp [intOf]; omega
    · exfalso
      obtain rfl : k = L.length := by omega
      exact HA.out _ P1.out P2.out
end Go.Proofs.YtgibpcmjfnmkdaaDoor
