/-
  The texts of the trays that a tray reaches, in their order: in the program and in the model, and the law.
-/
import Derived.Test.YtpdmfbhjneodeaaDoorReachN
import Derived.Test.YtpdmfbhjneodeaaDoorSortT
import Derived.Test.YtpdmfbhjneodeaaDoorShelfS
namespace Go.Proofs.YtpdmfbhjneodeaaDoor
open Go.RowKit Go.Sort Go.Lib
def txG (s : Sta Grid) : List UInt8 := txtL s.t.w s.t.c s.t.h
/-- The texts of the first k states. -/
def trT (S : List (Sta Grid)) (k : Nat) : List (List UInt8) := (List.range k).map fun j => txG (sta S j)
theorem trT_length (S : List (Sta Grid)) (k : Nat) : (trT S k).length = k := by simp [trT]
theorem trT_succ (S : List (Sta Grid)) (k : Nat) : strV (trT S k) ++ [tx (txG (sta S k))] = strV (trT S (k + 1)) := by
  unfold strV trT
  rw [List.range_succ, List.map_append, List.map_append]
  rfl
def rtL (l : List UInt8) : List (List UInt8) := match rcS l with
  | none => []
  | some S => srtT (trT S S.length)
theorem rtL_le (l : List UInt8) : (rtL l).length ≤ 300 := by
  unfold rtL
  cases h : rcS l with
  | none => exact Nat.zero_le _
  | some S =>
    obtain ⟨g, -, hi⟩ := rcS_inv h
    show (srtT (trT S S.length)).length ≤ 300
    rw [srtT_length, trT_length]
    exact hi.le
/-- Grids whose text can be written. -/
def Okt (g : Grid) : Prop := 1 ≤ g.w ∧ g.w ≤ 7 ∧ g.h ≤ 7 ∧ nn g.w g.h ≤ 36
theorem rcS_okt {l : List UInt8} {S : List (Sta Grid)} (h : rcS l = some S) : ∀ j, j < S.length → Okt (sta S j).t := by
  intro j hj
  unfold rcS at h
  cases hp : parse l with
  | none => rw [hp] at h; cases h
  | some g =>
    rw [hp] at h
    obtain ⟨hc, h1, -, -⟩ := cel_of hp
    have hi := reachS_inv Sized.tilt ⟨hc, rfl, rfl⟩ h
    have hz := hi.good j hj
    exact ⟨by rw [hz.w]; exact h1, hz.cel.w7, hz.cel.h7, hz.cel.n36⟩
def RetStrs (T : TypeId) (L : List (List UInt8)) (ok : Bool) (w : World) (e : Ending) (w' : World) : Prop :=
  Gr w w' ∧ ∃ v, e = .returned (.tuple #[v, .bool ok]) ∧ w'.ownsRow w.heap.size T 1 v L.length (strV L)
end Go.Proofs.YtpdmfbhjneodeaaDoor
