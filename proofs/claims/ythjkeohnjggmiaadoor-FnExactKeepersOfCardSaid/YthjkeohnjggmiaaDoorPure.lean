/-
  Plain mathematics of trays: texts cut into rows, what makes a tray, and sizes. No program is spoken of.
-/
import Derived.Lib.Split
namespace Go.Proofs.YthjkeohnjggmiaaDoor
/-! trays as lists of bytes -/
def isBallB (b : UInt8) : Bool := b == 111 || (97 ≤ b && b ≤ 102)
def isCellB (b : UInt8) : Bool := b == 35 || b == 46 || isBallB b
/-- The pieces of a text between its slashes. -/
def pieces : List UInt8 → List (List UInt8)
  | [] => [[]]
  | c :: r => if c = 47 then [] :: pieces r else (c :: (pieces r).headD []) :: (pieces r).tail
/-- Every name at most once. -/
def onceB (l : List UInt8) : Bool := [97, 98, 99, 100, 101, 102].all fun n => decide (l.count n ≤ 1)
structure Grid where
  w : Nat
  h : Nat
  c : List UInt8
deriving DecidableEq
def okRows (p : List (List UInt8)) : Bool :=
  decide (1 ≤ (p.headD []).length) && decide ((p.headD []).length ≤ 7) && decide (p.length ≤ 7) && decide ((p.headD []).length * p.length ≤ 36) &&
  p.all (fun r => r.length == (p.headD []).length) && p.flatten.all isCellB && onceB p.flatten
def parse (l : List UInt8) : Option Grid :=
  if okRows (pieces l) then some ⟨((pieces l).headD []).length, (pieces l).length, (pieces l).flatten⟩ else none

theorem pieces_ne (l : List UInt8) : pieces l ≠ [] := by
  cases l <;> simp [pieces]; split <;> simp
theorem pieces_length_pos (l : List UInt8) : 1 ≤ (pieces l).length := by
  have := pieces_ne l
  cases h : pieces l <;> simp_all
theorem pieces_total (l : List UInt8) : (pieces l).flatten.length + (pieces l).length = l.length + 1 := by
  induction l with
  | nil => rfl
  | cons c r ih =>
    have hp := pieces_ne r
    unfold pieces
    split
    · simp only [List.flatten_cons, List.length_append, List.length_cons, List.length_nil]; omega
    · cases h : pieces r with
      | nil => exact absurd h hp
      | cons p q => rw [h] at ih; simp only [List.headD_cons, List.tail_cons, List.flatten_cons, List.length_append, List.length_cons] at ih ⊢; omega
/-- One byte more. -/
def pushByte (p : List (List UInt8)) (c : UInt8) : List (List UInt8) := if c = 47 then p ++ [[]] else p.dropLast ++ [p.getLastD [] ++ [c]]
theorem pieces_snoc (l : List UInt8) (c : UInt8) : pieces (l ++ [c]) = pushByte (pieces l) c := by
  induction l with
  | nil => unfold pushByte; simp [pieces]
  | cons d r ih =>
    have hp := pieces_ne r
    rw [List.cons_append, pieces]
    conv => rhs; unfold pieces
    rw [ih]
    unfold pushByte
    cases h : pieces r with
    | nil => exact absurd h hp
    | cons p q =>
      by_cases hc : c = 47 <;> by_cases hd : d = 47 <;> simp [hc, hd]
      · cases q <;> simp
theorem flatten_pieces_mem {l : List UInt8} {b : UInt8} (h : b ∈ l) (hb : b ≠ 47) : b ∈ (pieces l).flatten := by
  induction l with
  | nil => cases h
  | cons c r ih =>
    have hp := pieces_ne r
    unfold pieces
    rcases List.mem_cons.1 h with rfl | h
    · rw [if_neg hb]; simp
    · have := ih h
      split
      · simpa using this
      · cases hq : pieces r with
        | nil => exact absurd hq hp
        | cons p q => rw [hq] at this; simp at this ⊢; exact Or.inr this

/-- What it takes to be the rows of a tray. -/
structure OkR (p : List (List UInt8)) (w : Nat) : Prop where
  w1 : 1 ≤ w
  w7 : w ≤ 7
  h1 : 1 ≤ p.length
  h7 : p.length ≤ 7
  c36 : w * p.length ≤ 36
  rows : ∀ r ∈ p, r.length = w
  cells : ∀ b ∈ p.flatten, isCellB b = true
  once : onceB p.flatten = true
theorem okRows_true {p : List (List UInt8)} (h : okRows p = true) (hp : p ≠ []) : OkR p (p.headD []).length := by
  unfold okRows at h
  simp only [Bool.and_eq_true, decide_eq_true_eq, List.all_eq_true, beq_iff_eq] at h
  obtain ⟨⟨⟨⟨⟨⟨a, b⟩, c⟩, d⟩, e⟩, f⟩, g⟩ := h
  exact ⟨a, b, by cases p <;> simp_all, c, d, e, f, g⟩
theorem okRows_of {p : List (List UInt8)} {w : Nat} (h : OkR p w) : okRows p = true ∧ (p.headD []).length = w := by
  obtain ⟨a, b, h1, c, d, e, f, g⟩ := h
  have hw : (p.headD []).length = w := by
    cases p with
    | nil => simp at h1
    | cons x y => exact e x (by simp)
  refine ⟨?_, hw⟩
  unfold okRows
  simp only [Bool.and_eq_true, decide_eq_true_eq, List.all_eq_true, beq_iff_eq, hw]
  exact ⟨⟨⟨⟨⟨⟨a, b⟩, c⟩, d⟩, e⟩, f⟩, g⟩
theorem flatten_len {p : List (List UInt8)} {w : Nat} (h : ∀ r ∈ p, r.length = w) : p.flatten.length = w * p.length := by
  induction p with
  | nil => simp
  | cons x y ih =>
    rw [List.flatten_cons, List.length_append, ih (fun r hr => h r (by simp [hr])), h x (by simp), List.length_cons, Nat.mul_add]
    omega
/-- The grid is as great as it says. -/
structure Fits (g : Grid) : Prop where
  w7 : g.w ≤ 7
  h7 : g.h ≤ 7
  c36 : g.w * g.h ≤ 36
  len : g.c.length = g.w * g.h
theorem parse_some {l : List UInt8} {g : Grid} (h : parse l = some g) : OkR (pieces l) g.w ∧ g.h = (pieces l).length ∧ g.c = (pieces l).flatten := by
  unfold parse at h
  split at h
  · rename_i hk
    cases h
    exact ⟨okRows_true hk (pieces_ne l), rfl, rfl⟩
  · cases h
theorem parse_of {l : List UInt8} {w : Nat} (h : OkR (pieces l) w) : parse l = some ⟨w, (pieces l).length, (pieces l).flatten⟩ := by
  obtain ⟨a, b⟩ := okRows_of h
  unfold parse
  rw [if_pos a, b]
theorem parse_none {l : List UInt8} (h : ∀ w, ¬ OkR (pieces l) w) : parse l = none := by
  unfold parse
  rw [if_neg (fun e => h _ (okRows_true e (pieces_ne l)))]
theorem parse_fits {l : List UInt8} {g : Grid} (h : parse l = some g) : Fits g ∧ 1 ≤ g.w ∧ 1 ≤ g.h := by
  obtain ⟨a, b, c⟩ := parse_some h
  refine ⟨⟨a.w7, by rw [b]; exact a.h7, by rw [b]; exact a.c36, by rw [c, b]; exact flatten_len a.rows⟩, a.w1, by rw [b]; exact a.h1⟩
theorem parse_len {l : List UInt8} {g : Grid} (h : parse l = some g) : l.length ≤ 42 := by
  obtain ⟨a, b, c⟩ := parse_some h
  have h1 := pieces_total l
  have h2 := flatten_len a.rows
  have h3 := a.c36
  have h4 := a.h7
  omega
end Go.Proofs.YthjkeohnjggmiaaDoor
