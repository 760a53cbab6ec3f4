/-
  What the model's functions on tilts return: the next cell, and the stretches in their order.
  What the model's stretches are: each cell of an end with what comes behind it, laid in the order of their least numbers.
  What the model's functions return that tilt a tray: once, in the directions of a word, and how far its balls move.
-/
import Derived.Test.YtpdmfbhjneodeaaDoorBLa
import Derived.Test.YtpdmfbhjneodeaaDoorBTm
namespace Go.Proofs.YtpdmfbhjneodeaaDoor
open Go.RowKit
def aI : Option Nat → Int
  | none => -1
  | some j => j
end Go.Proofs.YtpdmfbhjneodeaaDoor
namespace Go.Proofs.YtpdmfbhjneodeaaDoor
open Go.RowKit
end Go.Proofs.YtpdmfbhjneodeaaDoor
namespace Go.Proofs.YtpdmfbhjneodeaaDoor
open Go.RowKit
theorem spAll_take {c o : List UInt8} {L : List (List Nat)} {k : Nat} {s : List Nat} (h : L[k]? = some s) : spAll c o (L.take (k + 1)) = spTo c (spAll c o (L.take k)) s s.length := by
  rw [List.take_add_one, h]
  unfold spAll
  rw [List.foldl_append]
  rfl
theorem tiltG_c {g : Grid} (h : Cel g) {d : Nat} (hd : d < 4) : (tiltG d g).c = spAll g.c (wallTo isBallB g.c (nn g.w g.h)) (strL g.w g.h g.c d) := tilt_eq (h.strs hd) h.len
end Go.Proofs.YtpdmfbhjneodeaaDoor
