/-
  A tray among those that another one reaches: found in the program and in the model.
-/
import Derived.Test.YtdebiobhmpoiiaaGreatDoorReachN
import Derived.Test.YtdebiobhmpoiiaaGreatDoorShelfX
import Derived.Test.YtdebiobhmpoiiaaGreatDoorBTy
namespace Go.Proofs.YtdebiobhmpoiiaaGreatDoor
open Go.RowKit
def fndS (l u : List UInt8) : Option (List (Sta Grid) × Grid) := match rcS l with
  | none => none
  | some S => match parse u with
    | none => none
    | some m => some (S, m)
theorem same_eq {g m : Grid} (hg : Cel g) (hm : Cel m) (g1 : 1 ≤ g.w) (gh : 1 ≤ g.h) (m1 : 1 ≤ m.w) (mh : 1 ≤ m.h) : sameB g m = decide (g = m) := by
  rw [same_txt hg hm g1 gh m1 mh, Bool.eq_iff_iff, decide_eq_true_eq, decide_eq_true_eq]
  constructor
  · intro h
    have e : txtL g.w g.c g.h = txtL m.w m.c m.h := by rw [← txtB_data, ← txtB_data, h]
    obtain ⟨e1, e2, e3⟩ := txt_inj g1 gh mh hg.len hm.len (cell_plain hg.cells) (cell_plain hm.cells) e
    obtain ⟨gw, gh, gc⟩ := g
    obtain ⟨kw, kh, kc⟩ := m
    simp only at e1 e2 e3
    rw [e1, e2, e3]
  · rintro rfl; rfl
theorem txt_eq2 {g m : Grid} (hg : Cel g) (hm : Cel m) (g1 : 1 ≤ g.w) (gh : 1 ≤ g.h) (mh : 1 ≤ m.h) : txtG g = txtG m ↔ g = m := by
  constructor
  · intro h
    have e : txtL g.w g.c g.h = txtL m.w m.c m.h := by rw [← txtB_data, ← txtB_data]; exact congrArg (fun s => s.data.toList) h
    obtain ⟨e1, e2, e3⟩ := txt_inj g1 gh mh hg.len hm.len (cell_plain hg.cells) (cell_plain hm.cells) e
    obtain ⟨gw, gh, gc⟩ := g
    obtain ⟨kw, kh, kc⟩ := m
    simp only at e1 e2 e3
    rw [e1, e2, e3]
  · rintro rfl; rfl
/-- What is known of the states of a text. -/
theorem rcS_known {l : List UInt8} {S : List (Sta Grid)} (h : rcS l = some S) : 0 < S.length ∧ S.length ≤ 300 ∧ ∀ j, j < S.length → Cel (sta S j).t ∧ 1 ≤ (sta S j).t.w ∧ 1 ≤ (sta S j).t.h := by
  obtain ⟨g, hp, hi⟩ := rcS_inv h
  obtain ⟨-, h1, h2, -⟩ := cel_of hp
  exact ⟨hi.pos, hi.le, fun j hj => by
    have := hi.good j hj
    exact ⟨this.cel, by rw [this.w]; exact h1, by rw [this.h]; exact h2⟩⟩
def zipS (S : List (Sta Grid)) (nx : Nat → Value) : List (Sta Grid × Value) := (List.range S.length).map fun j => (sta S j, nx j)
theorem zipS_length (S : List (Sta Grid)) (nx : Nat → Value) : (zipS S nx).length = S.length := by simp [zipS]
instance : Inhabited (Sta Grid × Value) := ⟨(default, undef)⟩
theorem zipS_at (S : List (Sta Grid)) (nx : Nat → Value) (j : Nat) (hj : j < S.length) : (zipS S nx)[j]! = (sta S j, nx j) := by
  unfold zipS
  rw [List.getElem!_eq_getElem?_getD, List.getElem?_map, List.getElem?_range hj]
  rfl
theorem zipS_idx (S : List (Sta Grid)) (nx : Nat → Value) (p : Sta Grid × Value → Bool) (m : Grid) (hp : ∀ j, j < S.length → p (sta S j, nx j) = decide ((sta S j).t = m)) (d : Sta Grid × Value) : Lib.idxBy (fun _ y => p y) ((zipS S nx).take S.length) d = plV S m := by
  unfold plV
  cases hf : findS S m with
  | none =>
    refine Lib.idxBy_miss _ _ _ _ fun j hj => ?_
    rw [zipS_at S nx j hj, hp j hj, decide_eq_false_iff_not]
    exact findS_none hf j hj
  | some k =>
    obtain ⟨h1, h2, h3⟩ := findS_some hf
    refine Lib.idxBy_hit _ _ _ k _ h1 (by rw [zipS_length]; exact Nat.le_refl _) ?_ fun j hj => ?_
    · rw [zipS_at S nx k h1, hp k h1, decide_eq_true_eq]; exact h2
    · rw [zipS_at S nx j (by omega), hp j (by omega), decide_eq_false_iff_not]; exact h3 j hj
theorem zipS_cells {base g cap : Nat} {w : World} {S : List (Sta Grid)} {nx : Nat → Value} (h : w.ownsRow base 101 43 (.slice (some ⟨g, 0, none⟩) S.length cap) S.length (rowsI S nx).flatten) :
    ∀ j, j < (zipS S nx).length → ∀ i v, (cellS (zipS S nx)[j]!.1 (zipS S nx)[j]!.2)[i]? = some v → w.cell? ⟨g, 0 + j * 43 + i, none⟩ = some v := by
  intro j hj i v hv
  rw [zipS_length] at hj
  rw [zipS_at S nx j hj] at hv
  have hi : i < 43 := by
    rcases Nat.lt_or_ge i 43 with h | h
    · exact h
    · rw [List.getElem?_eq_none (by rw [cellS_length]; exact h)] at hv; cases hv
  rw [Nat.zero_add, own_flat_at h (rowsI_wide _ _) (rowsI_length _ _) hj hi, rowsI_get S nx j hj]
  exact hv
end Go.Proofs.YtdebiobhmpoiiaaGreatDoor
