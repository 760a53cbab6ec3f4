/-
  A tray among those that another one reaches: found in the program and in the model.
-/
import Derived.Test.YtcldlnleiiloaaaGreatDoorReachN
import Derived.Test.YtcldlnleiiloaaaGreatDoorShelfX
import Derived.Test.YtcldlnleiiloaaaGreatDoorBTy
namespace Go.Proofs.YtcldlnleiiloaaaGreatDoor
open Go.RowKit
def fndS (l u : List UInt8) : Option (List (Sta Grid) × Grid) := match rcS l with
  | none => none
  | some S => match parse u with
    | none => none
    | some m => some (S, m)
theorem same_eq {g m : Grid} (hg : Cel g) (hm : Cel m) (g1 : 1 ≤ g.w) (gh : 1 ≤ g.h) (m1 : 1 ≤ m.w) (mh : 1 ≤ m.h) : sameB g m = decide (g = m) := by
  rw [same_txt hg hm g1 gh m1 mh, Bool.eq_iff_iff, decide_eq_true_eq, decide_eq_true_eq]
  constructor
  · intro h
    have e : txtL g.w g.c g.h = txtL m.w m.c m.h := by rw [← txtB_data, ← txtB_data, h]
    obtain ⟨e1, e2, e3⟩ := txt_inj g1 gh mh hg.len hm.len (cell_plain hg.cells) (cell_plain hm.cells) e
    obtain ⟨gw, gh, gc⟩ := g
    obtain ⟨kw, kh, kc⟩ := m
    simp only at e1 e2 e3
    rw [e1, e2, e3]
  · rintro rfl; rfl
theorem txt_eq2 {g m : Grid} (hg : Cel g) (hm : Cel m) (g1 : 1 ≤ g.w) (gh : 1 ≤ g.h) (mh : 1 ≤ m.h) : txtG g = txtG m ↔ g = m := by
  constructor
  · intro h
    have e : txtL g.w g.c g.h = txtL m.w m.c m.h := by rw [← txtB_data, ← txtB_data]; exact congrArg (fun s => s.data.toList) h
    obtain ⟨e1, e2, e3⟩ := txt_inj g1 gh mh hg.len hm.len (cell_plain hg.cells) (cell_plain hm.cells) e
    obtain ⟨gw, gh, gc⟩ := g
    obtain ⟨kw, kh, kc⟩ := m
    simp only at e1 e2 e3
    rw [e1, e2, e3]
  · rintro rfl; rfl
/-- What is known of the states of a text. -/
theorem rcS_known {l : List UInt8} {S : List (Sta Grid)} (h : rcS l = some S) : 0 < S.length ∧ S.length ≤ 300 ∧ ∀ j, j < S.length → Cel (sta S j).t ∧ 1 ≤ (sta S j).t.w ∧ 1 ≤ (sta S j).t.h := by
  obtain ⟨g, hp, hi⟩ := rcS_inv h
  obtain ⟨-, h1, h2, -⟩ := cel_of hp
  exact ⟨hi.pos, hi.le, fun j hj => by
    have := hi.good j hj
    exact ⟨this.cel, by rw [this.w]; exact h1, by rw [this.h]; exact h2⟩⟩
end Go.Proofs.YtcldlnleiiloaaaGreatDoor
