/-
  The model's states in memory: pointers to structs, and a state found by its text.
-/
import Derived.Test.YtpdmfbhjneodeaaDoorReachI
namespace Go.Proofs.YtpdmfbhjneodeaaDoor
open Go.RowKit
section
variable {P : Program} {w : World} {ops : Array Oper} {rest : List Oper} {a : Act} {Q : Exit → Act → World → Prop} {dst : Option Tmp} {ty : TypeId} {pos : String} {aft : Array Edge} {gd : Option (Nat × Bool)}
theorem r_eqS {T yt : TypeId} (x y : Operand) (s t : ByteArray) (b : Bool) (hx : a.eval x = .string s) (hy : a.eval y = .string t) (hb : decide (s = t) = b)
    (hgd : Region.wanted ⟨dst, .binOp .eql T x y yt, ty, pos, aft, gd⟩ (yielded ops a.tmps) = true) (h : wpList P ops Q rest (a.put dst (.bool b)) w) : wpList P ops Q (⟨dst, .binOp .eql T x y yt, ty, pos, aft, gd⟩ :: rest) a w :=
  r_val (.bool b) (by rw [← hb]; exact e_eqlS x y s t hx hy) hgd h
end
/-- The cells of a state of the model. -/
def recS (s : Sta Grid) (sl nv : Value) : Array Value :=
  #[.int .i64 s.t.w, .int .i64 s.t.h, sl, .string (txtG s.t), .int .i64 s.far, .int .i64 s.words, .int .i64 (if s.far = 0 then -1 else (s.from_ : Int)), .int .i64 s.dir, nv]
def ptrV (b : Nat) : Value := .pointer (some ⟨b, 0, none⟩)
def ptrsV (bk : Nat → Nat) (n : Nat) : List Value := (List.range n).map fun j => ptrV (bk j)
theorem ptrsV_length (bk : Nat → Nat) (n : Nat) : (ptrsV bk n).length = n := by simp [ptrsV]
theorem ptrsV_get (bk : Nat → Nat) (n j : Nat) (hj : j < n) : (ptrsV bk n)[j]? = some (ptrV (bk j)) := by
  unfold ptrsV
  rw [List.getElem?_map, List.getElem?_range hj]
  rfl
theorem ptrsV_app (bk : Nat → Nat) (n b : Nat) : ptrsV bk n ++ [ptrV b] = ptrsV (fun m => if m = n then b else bk m) (n + 1) := by
  unfold ptrsV
  rw [List.range_succ, List.map_append]
  congr 1
  · apply List.map_congr_left
    intro j hj
    have hj := List.mem_range.1 hj
    show ptrV (bk j) = ptrV (if j = n then b else bk j)
    rw [if_neg (by omega)]
  · show _ = [ptrV (if n = n then b else bk n)]
    rw [if_pos rfl]
theorem txt_eq {W H : Nat} {g k : Grid} (hg : Sized W H g) (hk : Sized W H k) (h1 : 1 ≤ W) (h2 : 1 ≤ H) : txtG g = txtG k ↔ g = k := by
  constructor
  · intro h
    have e : txtL g.w g.c g.h = txtL k.w k.c k.h := by rw [← txtB_data, ← txtB_data]; exact congrArg (fun s => s.data.toList) h
    obtain ⟨e1, e2, e3⟩ := txt_inj (by rw [hg.w]; exact h1) (by rw [hg.h]; exact h2) (by rw [hk.h]; exact h2) hg.cel.len hk.cel.len (cell_plain hg.cel.cells) (cell_plain hk.cel.cells) e
    obtain ⟨gw, gh, gc⟩ := g
    obtain ⟨kw, kh, kc⟩ := k
    simp only at e1 e2 e3
    rw [e1, e2, e3]
  · rintro rfl; rfl
end Go.Proofs.YtpdmfbhjneodeaaDoor
