/-
  The shortest word behind which a ball stands in a cell: plain mathematics, the program, the model, and the law.
-/
import Derived.Test.YtdebiobhmpoiiaaGreatDoorBWo
import Derived.Test.YtdebiobhmpoiiaaGreatDoorBCe
import Derived.Test.YtdebiobhmpoiiaaGreatDoorPuzS
namespace Go.Proofs.YtdebiobhmpoiiaaGreatDoor
open Go.RowKit
theorem rcS_mono {l : List UInt8} {S : List (Sta Grid)} (h : rcS l = some S) : ∀ i j, i ≤ j → j < S.length → (sta S i).far ≤ (sta S j).far := by
  obtain ⟨g, hp, hi⟩ := rcS_inv h
  exact hi.mono
/-- The states, and the first one with the ball in the cell. -/
def wcS (l : List UInt8) (n : ByteArray) (z : Int) : Option (List (Sta Grid) × Nat) := match rbS l n with
  | none => none
  | some S => if inB z (sta S 0).t.c.length then (fsS S (hd n) z.toNat).map fun j => (S, j) else none
def wcB (l : List UInt8) (n : ByteArray) (z : Int) : ByteArray := match wcS l n z with
  | none => ByteArray.empty
  | some (S, j) => wdTo S (some j)
def wcOk (l : List UInt8) (n : ByteArray) (z : Int) : Bool := match wcS l n z with
  | none => false
  | some (S, j) => wdOk S (some j)
theorem wc_no {l : List UInt8} {n : ByteArray} {z : Int} (h : rbS l n = none) : wcS l n z = none := by unfold wcS; rw [h]
theorem wc_out {l : List UInt8} {n : ByteArray} {z : Int} {S : List (Sta Grid)} (h : rbS l n = some S) (hz : inB z (sta S 0).t.c.length = false) : wcS l n z = none := by unfold wcS; rw [h]; show (if _ then _ else _) = _; rw [hz]; rfl
theorem wc_in {l : List UInt8} {n : ByteArray} {z : Int} {S : List (Sta Grid)} (h : rbS l n = some S) (hz : inB z (sta S 0).t.c.length = true) : wcS l n z = (fsS S (hd n) z.toNat).map fun j => (S, j) := by unfold wcS; rw [h]; show (if _ then _ else _) = _; rw [hz]; rfl
theorem wc_none {l : List UInt8} {n : ByteArray} {z : Int} (h : wcS l n z = none) : wcB l n z = ByteArray.empty ∧ wcOk l n z = false := by unfold wcB wcOk; rw [h]; exact ⟨rfl, rfl⟩
theorem wc_some {l : List UInt8} {n : ByteArray} {z : Int} {S : List (Sta Grid)} {j : Nat} (h : wcS l n z = some (S, j)) : wcB l n z = wdTo S (some j) ∧ wcOk l n z = wdOk S (some j) := by unfold wcB wcOk; rw [h]; exact ⟨rfl, rfl⟩
/-- The ball stands in the cell in a state. -/
def hitB (S : List (Sta Grid)) (b : UInt8) (z : Int) (j : Nat) : Bool := inB z (sta S 0).t.c.length && (at0 (sta S j).t.c z.toNat == b)
theorem wc_found {l : List UInt8} {n : ByteArray} {z : Int} {S : List (Sta Grid)} {m : Nat} (hR : rbS l n = some S) (hm : m < S.length) (hh : hitB S (hd n) z m = true) (h40 : (sta S m).far ≤ 40) (hb : ∀ i, i < m → hitB S (hd n) z i = true → 40 < (sta S i).far) :
    wcB l n z = wrdB S m ∧ wcOk l n z = true := by
  unfold hitB at hh
  rw [Bool.and_eq_true, beq_iff_eq] at hh
  have hmo := rcS_mono (rbS_some hR).1
  have hf : fsS S (hd n) z.toNat = some m := fsS_of hm hh.2 fun i hi e => by
    have := hb i hi (by unfold hitB; rw [Bool.and_eq_true, beq_iff_eq]; exact ⟨hh.1, e⟩)
    have := hmo i m (by omega) hm
    omega
  obtain ⟨e1, e2⟩ := wc_some (l := l) (n := n) (z := z) (S := S) (j := m) (by rw [wc_in hR hh.1, hf]; rfl)
  rw [e1, e2]
  exact ⟨if_pos h40, decide_eq_true h40⟩
theorem wc_nowhere {l : List UInt8} {n : ByteArray} {z : Int} {S : List (Sta Grid)} (hR : rbS l n = some S) (hb : ∀ i, i < S.length → hitB S (hd n) z i = true → 40 < (sta S i).far) :
    wcB l n z = ByteArray.empty ∧ wcOk l n z = false := by
  cases hz : inB z (sta S 0).t.c.length with
  | false => exact wc_none (wc_out hR hz)
  | true =>
    have hw := wc_in hR hz
    cases hf : fsS S (hd n) z.toNat with
    | none => rw [hf] at hw; exact wc_none hw
    | some j =>
      rw [hf] at hw
      obtain ⟨h1, h2, -⟩ := fsS_some hf
      have := hb j h1 (by unfold hitB; rw [hz, Bool.true_and, beq_iff_eq]; exact h2)
      obtain ⟨e1, e2⟩ := wc_some hw
      rw [e1, e2]
      exact ⟨if_neg (by omega), decide_eq_false (by omega)⟩
/-- The place that the model finds is the cell exactly where the ball stands in it. -/
theorem hit_ix {l : List UInt8} {n : ByteArray} {S : List (Sta Grid)} (hR : rbS l n = some S) (z : Int) {j : Nat} (hj : j < S.length) : decide (ixC (sta S j).t.c (hd n) (sta S j).t.c.length = z) = hitB S (hd n) z j := by
  have hR' := hR
  unfold rbS at hR'
  cases hp : parse l with
  | none => rw [hp] at hR'; cases hR'
  | some g =>
    rw [hp] at hR'
    have h' : (if nameS n && decide (0 ≤ ixC g.c (hd n) g.c.length) then rcS l else none) = some S := hR'
    split at h'
    · rename_i hc
      rw [Bool.and_eq_true, decide_eq_true_eq] at hc
      have hnm := hc.1
      unfold nameS at hnm
      rw [Bool.and_eq_true] at hnm
      have h1 := rc_one hp hnm.2 hc.2 h'
      have h0 : 0 < S.length := by omega
      have l0 := h1.len 0 h0
      have lj := h1.len j hj
      unfold hitB
      rw [l0]
      cases hz : inB z g.c.length with
      | true =>
        obtain ⟨z0, z1⟩ := inB_true.1 hz
        have := h1.iff hj (k := z.toNat) (by omega)
        rw [Bool.true_and, Bool.eq_iff_iff, decide_eq_true_eq, beq_iff_eq, ← this]
        omega
      | false =>
        rw [Bool.false_and, decide_eq_false_iff_not]
        intro e
        have hcn := h1.cnt j hj
        rcases ixC_cases (sta S j).t.c (hd n) (sta S j).t.c.length with ⟨e1, e2⟩ | ⟨k, hk, e1, -⟩
        · have := ix_cnt (sta S j).t.c (hd n) (sta S j).t.c.length
          rw [lj] at this e1
          rw [hcn, e1] at this
          exact absurd this (by decide)
        · have : inB z g.c.length = true := inB_true.2 ⟨by omega, by omega⟩
          rw [hz] at this
          cases this
    · cases h'
theorem fin_sbC {a b : ByteArray} {c d : Bool} (h1 : a = b) (h2 : c = d) : Ending.returned (.tuple #[.string a, .bool c]) = .returned (.tuple #[.string b, .bool d]) := by rw [h1, h2]
theorem zipS_fsC (S : List (Sta Grid)) (nx : Nat → Value) (b : UInt8) (k : Nat) (d : Sta Grid × Value) : Lib.idxBy (fun _ y => (at0 y.1.t.c k == b)) ((zipS S nx).take S.length) d = fsV S b k := by
  unfold fsV
  cases hf : fsS S b k with
  | none =>
    refine Lib.idxBy_miss (fun _ (y : Sta Grid × Value) => (at0 y.1.t.c k == b)) _ _ _ fun j hj => ?_
    rw [zipS_at S nx j hj]
    exact beq_eq_false_iff_ne.2 (fsS_none hf j hj)
  | some i =>
    obtain ⟨h1, h2, h3⟩ := fsS_some hf
    refine Lib.idxBy_hit (fun _ (y : Sta Grid × Value) => (at0 y.1.t.c k == b)) _ _ i _ h1 (by rw [zipS_length]; exact Nat.le_refl _) ?_ fun j hj => ?_
    · rw [zipS_at S nx i h1]; exact beq_iff_eq.2 h2
    · rw [zipS_at S nx j (by omega)]; exact beq_eq_false_iff_ne.2 (h3 j hj)
end Go.Proofs.YtdebiobhmpoiiaaGreatDoor
