/-
  The laws' helpers on lists of numbers: compared, marked, and held.
  What the program's functions that look for balls return: the numbers of all balls' cells, and the place of one with a name.
  What the model's functions that turn and mirror trays return.
  What the model's functions that look for balls return, and the law on the numbers of balls.
-/
import Derived.Test.YtmjmjibokombiaaBSp
import Derived.Test.YtmjmjibokombiaaBIm
import Derived.Test.YtmjmjibokombiaaBKit
import Derived.Test.YtmjmjibokombiaaBTxt
namespace Go.Proofs.Ytmjmjibokombiaa
open Go.RowKit
def intsV (L : List Int) : List Value := L.map fun n => .int .i64 n
def gi (L : List Int) (i : Nat) : Int := L.getD i 0
/-- The marks k, k + 1, .. -/
def marks (k n : Nat) : List Int := (List.range n).map fun i => ((k + i : Nat) : Int)
theorem marks_length (k n : Nat) : (marks k n).length = n := by simp [marks]
theorem marks_at (k n i : Nat) (h : i < n) : gi (marks k n) i = ((k + i : Nat) : Int) := by
  unfold gi marks; simp [List.getD, h]
theorem own_int {w : World} {base : Nat} {e : TypeId} {g n cap : Nat} {L : List Int} (hr : w.ownsRow base e 1 (.slice (some ⟨g, 0, none⟩) n cap) n (intsV L)) (j : Nat) (hj : j < n) (hn : n = L.length) :
    w.cell? ⟨g, j, none⟩ = some (.int .i64 (gi L j)) := by
  rw [hr.cellAt j (by omega)]
  unfold intsV gi
  rw [List.getElem?_map, List.getElem?_eq_getElem (by omega)]
  simp [List.getD, show j < L.length by omega]
theorem int_ext {c d : List Int} (h1 : c.length = d.length) (h : ∀ i, i < c.length → gi c i = gi d i) : c = d := by
  apply List.ext_getElem h1
  intro i hi hj
  have := h i hi
  unfold gi at this
  simpa [List.getD, hi, hj] using this
theorem intsV_one (L : List Int) : ∀ v ∈ intsV L, v.oneCell' = true := by
  intro v hv
  obtain ⟨b, _, rfl⟩ := List.mem_map.1 hv
  rfl
theorem intsV_set (L : List Int) (j : Nat) (n : Int) : (intsV L).set j (.int .i64 n) = intsV (L.set j n) := by
  unfold intsV; rw [List.map_set]
theorem intsV_append (L M : List Int) : intsV L ++ intsV M = intsV (L ++ M) := by unfold intsV; rw [List.map_append]
/-- The first j numbers replaced by marks. -/
def markTo (L : List Int) (k : Nat) : Nat → List Int
  | 0 => L
  | j + 1 => (markTo L k j).set j ((k + j : Nat) : Int)
theorem markTo_length (L : List Int) (k j : Nat) : (markTo L k j).length = L.length := by
  induction j with
  | zero => rfl
  | succ j ih => unfold markTo; simp [ih]
theorem markTo_at (L : List Int) (k j i : Nat) (hj : j ≤ L.length) : gi (markTo L k j) i = if i < j then ((k + i : Nat) : Int) else gi L i := by
  induction j with
  | zero => rfl
  | succ j ih =>
    have ih := ih (by omega)
    show gi ((markTo L k j).set j ((k + j : Nat) : Int)) i = _
    unfold gi at ih ⊢
    by_cases e : j = i
    · subst e
      have := markTo_length L k j
      rw [if_pos (by omega)]
      simp [List.getD, this, show j < L.length by omega]
    · simp only [List.getD] at ih ⊢
      rw [List.getElem?_set_ne e, ih]
      by_cases h : i < j
      · rw [if_pos h, if_pos (by omega)]
      · rw [if_neg h, if_neg (by omega)]
theorem markTo_end (L : List Int) (k : Nat) : markTo L k L.length = marks k L.length := by
  apply int_ext (by rw [markTo_length, marks_length])
  intro i hi
  rw [markTo_length] at hi
  rw [markTo_at L k L.length i (Nat.le_refl _), if_pos hi, marks_at k _ i hi]
theorem Grb.refl (B : Option Nat) (w : World) : Grb B w w := ⟨⟨rfl, rfl, rfl, Nat.le_refl _, fun _ _ _ => rfl⟩⟩
theorem Upd.grb {B : Nat} {w w' : World} (h : Upd B w w') : Grb (some B) w w' :=
  ⟨⟨h.os, h.tape, h.output, by have := h.size; omega, fun k _ hk => h.block k (fun e => hk (by rw [e]))⟩⟩
theorem Grb.trans {B : Option Nat} {a b c : World} (h : Grb B a b) (k : Grb B b c) : Grb B a c :=
  ⟨⟨k.g.os.trans h.g.os, k.g.tape.trans h.g.tape, k.g.output.trans h.g.output, Nat.le_trans h.g.size k.g.size, fun j hj hn => (k.g.block j (Nat.lt_of_lt_of_le hj h.g.size) hn).trans (h.g.block j hj hn)⟩⟩
theorem Gr.grb {a b : World} (h : Gr a b) (B : Option Nat) : Grb B a b := ⟨⟨h.os, h.tape, h.output, h.size, fun j hj _ => h.block j hj⟩⟩
theorem Grb.gr' {B : Option Nat} {a b c : World} (h : Grb B a b) (k : Gr b c) : Grb B a c := h.trans (k.grb B)
theorem Grb.upd {B : Nat} {a b c : World} (h : Grb (some B) a b) (k : Upd B b c) : Grb (some B) a c := h.trans k.grb
theorem Grb.newer {B : Option Nat} {D : Option Nat} {a b c : World} (h : Grb B a b) (k : Grb D b c) (hD : ∀ x, D = some x → a.heap.size ≤ x) : Grb B a c :=
  ⟨⟨k.g.os.trans h.g.os, k.g.tape.trans h.g.tape, k.g.output.trans h.g.output, Nat.le_trans h.g.size k.g.size, fun j hj hn => (k.g.block j (Nat.lt_of_lt_of_le hj h.g.size) (fun e => by have := hD j e.symm; omega)).trans (h.g.block j hj hn)⟩⟩
theorem own_len {w : World} {base : Nat} {e : TypeId} {size : Nat} {p : Option Addr} {m k : Nat} {n : Nat} {xs : List Value} (hr : w.ownsRow base e size (.slice p m k) n xs) : m = n := by
  obtain ⟨_, ⟨h, h0⟩ | ⟨g, cap, cur, h, _⟩⟩ := hr
  · cases h; exact h0.symm
  · cases h; rfl
end Go.Proofs.Ytmjmjibokombiaa
namespace Go.Proofs.Ytmjmjibokombiaa
open Go.RowKit
/-- The numbers of those of the first k cells for which p holds. -/
def ballsTo (p : UInt8 → Bool) (c : List UInt8) : Nat → List Int
  | 0 => []
  | k + 1 => if p (at0 c k) then ballsTo p c k ++ [(k : Int)] else ballsTo p c k
theorem ballsTo_le (p : UInt8 → Bool) (c : List UInt8) (k : Nat) : (ballsTo p c k).length ≤ k := by
  induction k with
  | zero => exact Nat.le_refl _
  | succ k ih =>
    unfold ballsTo
    split
    · rw [List.length_append]; exact Nat.succ_le_succ ih
    · omega
theorem ballsTo_congr {p q : UInt8 → Bool} {c : List UInt8} (k : Nat) (h : ∀ i, i < k → p (at0 c i) = q (at0 c i)) : ballsTo p c k = ballsTo q c k := by
  induction k with
  | zero => rfl
  | succ k ih => unfold ballsTo; rw [h k (by omega), ih (fun i hi => h i (by omega))]
def blL (l : List UInt8) : List Int := ballsTo isBallB (rdG l).c (nn (rdG l).w (rdG l).h)
theorem bl_impl (l : List UInt8) : ballsTo ballB (rdG l).c (nn (rdG l).w (rdG l).h) = blL l := by
  unfold blL
  rcases rd_cases l with ⟨_, hg, _⟩ | ⟨g, hp, hg, _⟩
  · rw [hg]; rfl
  · rw [hg]
    have ht := parse_tray hp
    exact ballsTo_congr _ fun i hi => ball_cell (ht.cells i (by rw [ht.len]; exact hi))
/-- It returns a list of numbers in new memory, and whether it has succeeded. -/
def RetInts (T : TypeId) (L : List Int) (ok : Bool) (w : World) (e : Ending) (w' : World) : Prop :=
  Gr w w' ∧ ∃ v, e = .returned (.tuple #[v, .bool ok]) ∧ w'.ownsRow w.heap.size T 1 v L.length (intsV L)
theorem fin_vb {v : Value} {x y : Bool} (h2 : x = y) : Ending.returned (.tuple #[v, .bool x]) = .returned (.tuple #[v, .bool y]) := by rw [h2]
theorem Try.bsi1 (u : Int) (w : World) : (Instr.buildSlice 34 1 #[(0, .int .i64 u)]).run Try.prog w = .ok (.slice (some ⟨w.heap.size, 0, none⟩) 1 1) (w.alloc (.cells #[.int .i64 u] 3)) := by kernel_rfl
theorem Try.intsI : ElemInfo Try.prog 34 3 (.int .i64 0) 1 8 := ⟨Try.underlying34, by kernel_rfl, rfl, by decide⟩
end Go.Proofs.Ytmjmjibokombiaa
namespace Go.Proofs.Ytmjmjibokombiaa
open Go.RowKit
theorem genC_succ (n : Nat) (f : Nat → UInt8) : genC (n + 1) f = genC n f ++ [f n] := by
  unfold genC
  rw [List.range_succ, List.map_append]
  rfl
theorem cellsV_append (c d : List UInt8) : cellsV c ++ cellsV d = cellsV (c ++ d) := by
  unfold cellsV; rw [List.map_append]
/-- The model's turned cells. -/
def fTu (W H : Nat) (c : List UInt8) (i : Nat) : UInt8 := at0 c ((H - 1 - i % H) * W + i / H)
def fMi (W : Nat) (c : List UInt8) (i : Nat) : UInt8 := at0 c (srcM W i)
theorem fTu_at (W H : Nat) (c : List UInt8) (x j : Nat) (hj : j < H) : fTu W H c (nn x H + j) = at0 c ((H - 1 - j) * W + x) := by
  unfold fTu nn
  rw [pair_mod hj, pair_div hj]
theorem fMi_at (W : Nat) (c : List UInt8) (y j : Nat) (hj : j < W) : fMi W c (nn y W + j) = at0 c (y * W + (W - 1 - j)) := by
  unfold fMi srcM nn
  rw [pair_mod hj, pair_div hj]
end Go.Proofs.Ytmjmjibokombiaa
namespace Go.Proofs.Ytmjmjibokombiaa
open Go.RowKit
theorem own_apart {w1 w2 : World} {b1 b2 : Nat} {e1 e2 : TypeId} {s1 s2 : Nat} {v1 v2 : Value} {n1 n2 : Nat} {x1 x2 : List Value} (h1 : w1.ownsRow b1 e1 s1 v1 n1 x1) (h2 : w2.ownsRow b2 e2 s2 v2 n2 x2) (hb : w1.heap.size ≤ b2) : v1.ownBlock = none ∨ v1.ownBlock ≠ v2.ownBlock := by
  cases h : v1.ownBlock with
  | none => exact .inl rfl
  | some k =>
    refine .inr fun e => ?_
    have a := (h1.lt k h).2
    have b := (h2.lt k e.symm).1
    omega
end Go.Proofs.Ytmjmjibokombiaa
