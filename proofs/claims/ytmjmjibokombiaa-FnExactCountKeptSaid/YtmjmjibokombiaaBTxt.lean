/-
  Plain mathematics of trays: texts cut into rows, what makes a tray, and sizes. No program is spoken of.
  Plain mathematics: a tray's text read byte by byte, and what makes it no tray.
  The values of the program's grids (two sides and thirty-six cells), and the closed facts on types that the walks ask for.
  Plain mathematics: the text of a grid's cells, row by row.
  Plain mathematics: the cells of a grid turned and mirrored.
  Plain mathematics: a tray's text is the text of its grid, and different grids have different texts.
-/
import Derived.Lib.Split
import Derived.Test.YtmjmjibokombiaaBKit
import Derived.Test.YtmjmjibokombiaaProg
import Derived.Lib.Join
namespace Go.Proofs.Ytmjmjibokombiaa
/-! trays as lists of bytes -/
def isBallB (b : UInt8) : Bool := b == 111 || (97 ≤ b && b ≤ 102)
def isCellB (b : UInt8) : Bool := b == 35 || b == 46 || isBallB b
/-- The pieces of a text between its slashes. -/
def pieces : List UInt8 → List (List UInt8)
  | [] => [[]]
  | c :: r => if c = 47 then [] :: pieces r else (c :: (pieces r).headD []) :: (pieces r).tail
/-- Every name at most once. -/
def onceB (l : List UInt8) : Bool := [97, 98, 99, 100, 101, 102].all fun n => decide (l.count n ≤ 1)
structure Grid where
  w : Nat
  h : Nat
  c : List UInt8
deriving DecidableEq
def okRows (p : List (List UInt8)) : Bool :=
  decide (1 ≤ (p.headD []).length) && decide ((p.headD []).length ≤ 7) && decide (p.length ≤ 7) && decide ((p.headD []).length * p.length ≤ 36) &&
  p.all (fun r => r.length == (p.headD []).length) && p.flatten.all isCellB && onceB p.flatten
def parse (l : List UInt8) : Option Grid :=
  if okRows (pieces l) then some ⟨((pieces l).headD []).length, (pieces l).length, (pieces l).flatten⟩ else none

theorem pieces_ne (l : List UInt8) : pieces l ≠ [] := by
  cases l <;> simp [pieces]; split <;> simp
theorem pieces_length_pos (l : List UInt8) : 1 ≤ (pieces l).length := by
  have := pieces_ne l
  cases h : pieces l <;> simp_all
theorem pieces_total (l : List UInt8) : (pieces l).flatten.length + (pieces l).length = l.length + 1 := by
  induction l with
  | nil => rfl
  | cons c r ih =>
    have hp := pieces_ne r
    unfold pieces
    split
    · simp only [List.flatten_cons, List.length_append, List.length_cons, List.length_nil]; omega
    · cases h : pieces r with
      | nil => exact absurd h hp
      | cons p q => rw [h] at ih; simp only [List.headD_cons, List.tail_cons, List.flatten_cons, List.length_append, List.length_cons] at ih ⊢; omega
/-- One byte more. -/
def pushByte (p : List (List UInt8)) (c : UInt8) : List (List UInt8) := if c = 47 then p ++ [[]] else p.dropLast ++ [p.getLastD [] ++ [c]]
theorem pieces_snoc (l : List UInt8) (c : UInt8) : pieces (l ++ [c]) = pushByte (pieces l) c := by
  induction l with
  | nil => unfold pushByte; simp [pieces]
  | cons d r ih =>
    have hp := pieces_ne r
    rw [List.cons_append, pieces]
    conv => rhs; unfold pieces
    rw [ih]
    unfold pushByte
    cases h : pieces r with
    | nil => exact absurd h hp
    | cons p q =>
      by_cases hc : c = 47 <;> by_cases hd : d = 47 <;> simp [hc, hd]
      · cases q <;> simp
theorem flatten_pieces_mem {l : List UInt8} {b : UInt8} (h : b ∈ l) (hb : b ≠ 47) : b ∈ (pieces l).flatten := by
  induction l with
  | nil => cases h
  | cons c r ih =>
    have hp := pieces_ne r
    unfold pieces
    rcases List.mem_cons.1 h with rfl | h
    · rw [if_neg hb]; simp
    · have := ih h
      split
      · simpa using this
      · cases hq : pieces r with
        | nil => exact absurd hq hp
        | cons p q => rw [hq] at this; simp at this ⊢; exact Or.inr this

/-- What it takes to be the rows of a tray. -/
structure OkR (p : List (List UInt8)) (w : Nat) : Prop where
  w1 : 1 ≤ w
  w7 : w ≤ 7
  h1 : 1 ≤ p.length
  h7 : p.length ≤ 7
  c36 : w * p.length ≤ 36
  rows : ∀ r ∈ p, r.length = w
  cells : ∀ b ∈ p.flatten, isCellB b = true
  once : onceB p.flatten = true
theorem okRows_true {p : List (List UInt8)} (h : okRows p = true) (hp : p ≠ []) : OkR p (p.headD []).length := by
  unfold okRows at h
  simp only [Bool.and_eq_true, decide_eq_true_eq, List.all_eq_true, beq_iff_eq] at h
  obtain ⟨⟨⟨⟨⟨⟨a, b⟩, c⟩, d⟩, e⟩, f⟩, g⟩ := h
  exact ⟨a, b, by cases p <;> simp_all, c, d, e, f, g⟩
theorem okRows_of {p : List (List UInt8)} {w : Nat} (h : OkR p w) : okRows p = true ∧ (p.headD []).length = w := by
  obtain ⟨a, b, h1, c, d, e, f, g⟩ := h
  have hw : (p.headD []).length = w := by
    cases p with
    | nil => simp at h1
    | cons x y => exact e x (by simp)
  refine ⟨?_, hw⟩
  unfold okRows
  simp only [Bool.and_eq_true, decide_eq_true_eq, List.all_eq_true, beq_iff_eq, hw]
  exact ⟨⟨⟨⟨⟨⟨a, b⟩, c⟩, d⟩, e⟩, f⟩, g⟩
theorem flatten_len {p : List (List UInt8)} {w : Nat} (h : ∀ r ∈ p, r.length = w) : p.flatten.length = w * p.length := by
  induction p with
  | nil => simp
  | cons x y ih =>
    rw [List.flatten_cons, List.length_append, ih (fun r hr => h r (by simp [hr])), h x (by simp), List.length_cons, Nat.mul_add]
    omega
/-- The grid is as great as it says. -/
structure Fits (g : Grid) : Prop where
  w7 : g.w ≤ 7
  h7 : g.h ≤ 7
  c36 : g.w * g.h ≤ 36
  len : g.c.length = g.w * g.h
theorem parse_some {l : List UInt8} {g : Grid} (h : parse l = some g) : OkR (pieces l) g.w ∧ g.h = (pieces l).length ∧ g.c = (pieces l).flatten := by
  unfold parse at h
  split at h
  · rename_i hk
    cases h
    exact ⟨okRows_true hk (pieces_ne l), rfl, rfl⟩
  · cases h
theorem parse_of {l : List UInt8} {w : Nat} (h : OkR (pieces l) w) : parse l = some ⟨w, (pieces l).length, (pieces l).flatten⟩ := by
  obtain ⟨a, b⟩ := okRows_of h
  unfold parse
  rw [if_pos a, b]
theorem parse_none {l : List UInt8} (h : ∀ w, ¬ OkR (pieces l) w) : parse l = none := by
  unfold parse
  rw [if_neg (fun e => h _ (okRows_true e (pieces_ne l)))]
theorem parse_fits {l : List UInt8} {g : Grid} (h : parse l = some g) : Fits g ∧ 1 ≤ g.w ∧ 1 ≤ g.h := by
  obtain ⟨a, b, c⟩ := parse_some h
  refine ⟨⟨a.w7, by rw [b]; exact a.h7, by rw [b]; exact a.c36, by rw [c, b]; exact flatten_len a.rows⟩, a.w1, by rw [b]; exact a.h1⟩
theorem parse_len {l : List UInt8} {g : Grid} (h : parse l = some g) : l.length ≤ 42 := by
  obtain ⟨a, b, c⟩ := parse_some h
  have h1 := pieces_total l
  have h2 := flatten_len a.rows
  have h3 := a.c36
  have h4 := a.h7
  omega
end Go.Proofs.Ytmjmjibokombiaa
namespace Go.Proofs.Ytmjmjibokombiaa
structure ScanA (L : List UInt8) (i x h gw : Nat) (c : List UInt8) : Prop where
  le : i ≤ L.length
  d : ∃ d r, pieces (L.take i) = d ++ [r] ∧ r.length = x ∧ d.length = h ∧ (∀ q ∈ d, q.length = gw) ∧ c = d.flatten ++ r ∧ (0 < h → 1 ≤ gw)
  val : ∀ b ∈ c, isCellB b = true
structure ScanB (L : List UInt8) (h gw : Nat) (c : List UInt8) : Prop where
  hh : h = (pieces L).length
  rows : ∀ q ∈ pieces L, q.length = gw
  w1 : 1 ≤ gw
  cc : c = (pieces L).flatten
  val : ∀ b ∈ c, isCellB b = true
theorem ScanA.zero (L : List UInt8) : ScanA L 0 0 0 0 [] :=
  ⟨Nat.zero_le _, ⟨[], [], by simp [pieces], rfl, rfl, (fun q hq => by cases hq), rfl, fun h => by omega⟩, fun b hb => by cases hb⟩
theorem take_snoc' {L : List UInt8} {i : Nat} {b : UInt8} (h : L[i]? = some b) : L.take (i + 1) = L.take i ++ [b] := by
  rw [List.take_add_one, h]; rfl
theorem ScanA.len {L : List UInt8} {i x h gw : Nat} {c : List UInt8} (s : ScanA L i x h gw c) : c.length + h = i ∧ x ≤ c.length := by
  obtain ⟨hle, ⟨d, r, hp, hr, hd, _, hc, _⟩, _⟩ := s
  have h1 := pieces_total (L.take i)
  rw [hp] at h1
  subst hc
  simp at h1 ⊢
  rw [Nat.min_eq_left hle] at h1
  omega
theorem ScanB.len {L : List UInt8} {h gw : Nat} {c : List UInt8} (s : ScanB L h gw c) : c.length + h = L.length + 1 := by
  have h1 := pieces_total L
  rw [s.cc, s.hh]; omega
theorem ScanB.pos {L : List UInt8} {h gw : Nat} {c : List UInt8} (s : ScanB L h gw c) : 1 ≤ c.length ∧ 1 ≤ h := by
  have h1 := pieces_length_pos L
  rw [s.cc, flatten_len s.rows, s.hh]
  exact ⟨Nat.mul_pos s.w1 h1, h1⟩
theorem ScanA.byte {L : List UInt8} {i x h gw : Nat} {c : List UInt8} {b : UInt8} (s : ScanA L i x h gw c) (hb : L[i]? = some b) (hn : b ≠ 47) (hc : isCellB b = true) : ScanA L (i + 1) (x + 1) h gw (c ++ [b]) := by
  have hi : i < L.length := by
    rcases Nat.lt_or_ge i L.length with h | h
    · exact h
    · rw [List.getElem?_eq_none h] at hb; cases hb
  obtain ⟨hle, ⟨d, r, hp, hr, hd, hq, hcc, h1⟩, hv⟩ := s
  refine ⟨hi, ⟨d, r ++ [b], ?_, by simp [hr], hd, hq, by rw [hcc, List.append_assoc], h1⟩, ?_⟩
  · rw [take_snoc' hb, pieces_snoc, hp]
    unfold pushByte
    rw [if_neg hn]
    simp
  · intro x hx
    rcases List.mem_append.1 hx with hx | hx
    · exact hv x hx
    · rw [List.mem_singleton] at hx; rw [hx]; exact hc
theorem row_mem {d : List (List UInt8)} {r : List UInt8} {gw x h : Nat} (hr : r.length = x) (hd : d.length = h) (hq : ∀ q ∈ d, q.length = gw) (hx : h = 0 ∨ x = gw) : ∀ q ∈ d ++ [r], q.length = x := by
  intro q hm
  rcases List.mem_append.1 hm with hm | hm
  · rcases hx with rfl | rfl
    · rw [List.eq_nil_of_length_eq_zero hd] at hm; cases hm
    · exact hq q hm
  · rw [List.mem_singleton] at hm; rw [hm]; exact hr
theorem ScanA.slash {L : List UInt8} {i x h gw : Nat} {c : List UInt8} (s : ScanA L i x h gw c) (hb : L[i]? = some 47) (hx1 : 1 ≤ x) (hx : h = 0 ∨ x = gw) : ScanA L (i + 1) 0 (h + 1) x c := by
  have hi : i < L.length := by
    rcases Nat.lt_or_ge i L.length with h | h
    · exact h
    · rw [List.getElem?_eq_none h] at hb; cases hb
  obtain ⟨hle, ⟨d, r, hp, hr, hd, hq, hcc, h1⟩, hv⟩ := s
  refine ⟨hi, ⟨d ++ [r], [], ?_, rfl, by simp [hd], row_mem hr hd hq hx, by rw [hcc]; simp, fun _ => hx1⟩, hv⟩
  rw [take_snoc' hb, pieces_snoc, hp]
  unfold pushByte
  rw [if_pos rfl]
theorem ScanA.last {L : List UInt8} {x h gw : Nat} {c : List UInt8} (s : ScanA L L.length x h gw c) (hx1 : 1 ≤ x) (hx : h = 0 ∨ x = gw) : ScanB L (h + 1) x c := by
  obtain ⟨hle, ⟨d, r, hp, hr, hd, hq, hcc, h1⟩, hv⟩ := s
  rw [List.take_length] at hp
  exact ⟨by rw [hp]; simp [hd], by rw [hp]; exact row_mem hr hd hq hx, hx1, by rw [hp, hcc]; simp, hv⟩
theorem pieces_slash (u v : List UInt8) : pieces (u ++ 47 :: v) = pieces u ++ pieces v := by
  induction u with
  | nil => simp [pieces]
  | cons b u ih =>
    have hp := pieces_ne u
    rw [List.cons_append, pieces, pieces, ih]
    split
    · rfl
    · cases h : pieces u with
      | nil => exact absurd h hp
      | cons p q => simp
theorem not_cell {L : List UInt8} {i : Nat} {b : UInt8} (hb : L[i]? = some b) (hn : b ≠ 47) (hc : isCellB b = false) : ∀ w, ¬ OkR (pieces L) w := by
  intro w h
  have := h.cells b (flatten_pieces_mem (List.mem_of_getElem? hb) hn)
  rw [this] at hc; cases hc
/-- Where a row ends it is a row of the whole text. -/
theorem ScanA.bad {L : List UInt8} {i x h gw : Nat} {c : List UInt8} (s : ScanA L i x h gw c) (hb : i = L.length ∨ L[i]? = some 47) (hx : x = 0 ∨ (0 < h ∧ x ≠ gw)) : ∀ w, ¬ OkR (pieces L) w := by
  intro w hok
  obtain ⟨hle, ⟨d, r, hp, hr, hd, hq, hcc, h1⟩, hv⟩ := s
  have hsub : ∀ q ∈ d ++ [r], q ∈ pieces L := by
    rcases hb with rfl | hb
    · rw [List.take_length] at hp; rw [hp]; exact fun q h => h
    · have e : L = L.take i ++ 47 :: L.drop (i + 1) := by
        have h2 := List.take_append_drop (i + 1) L
        rw [take_snoc' hb] at h2
        simpa using h2.symm
      intro q hq
      rw [e, pieces_slash, hp]
      exact List.mem_append_left _ hq
  have hw := hok.w1
  have e1 := hok.rows r (hsub r (by simp))
  rcases hx with rfl | ⟨h0, hne⟩
  · omega
  · cases d with
    | nil => simp at hd; omega
    | cons q d' =>
      have e2 := hok.rows q (hsub q (by simp))
      have e3 := hq q (by simp)
      omega
theorem ScanB.okR {L : List UInt8} {h gw : Nat} {c : List UInt8} (s : ScanB L h gw c) (hw : gw ≤ 7) (hh : h ≤ 7) (h36 : c.length ≤ 36) (ho : onceB c = true) : OkR (pieces L) gw := by
  have hl := flatten_len s.rows
  refine ⟨s.w1, hw, by have := pieces_length_pos L; omega, by rw [← s.hh]; exact hh, ?_, s.rows, ?_, by rw [← s.cc]; exact ho⟩
  · rw [← hl, ← s.cc]; exact h36
  · intro b hb; rw [← s.cc] at hb; exact s.val b hb
theorem ScanB.bad {L : List UInt8} {h gw : Nat} {c : List UInt8} (s : ScanB L h gw c) (hb : 7 < gw ∨ 7 < h ∨ 36 < c.length ∨ onceB c = false) : ∀ w, ¬ OkR (pieces L) w := by
  intro w hok
  have hl := flatten_len s.rows
  have e1 : gw = w := by
    cases hp : pieces L with
    | nil => exact absurd hp (pieces_ne L)
    | cons q _ => rw [← s.rows q (by rw [hp]; simp), hok.rows q (by rw [hp]; simp)]
  have h1 := hok.w7
  have h2 := hok.h7
  have h3 := hok.c36
  have h4 := hok.once
  rw [s.cc, s.hh, e1] at hb
  rw [e1] at hl
  rcases hb with hb | hb | hb | hb
  · omega
  · omega
  · omega
  · rw [h4] at hb; cases hb
/-- No name twice, pair by pair. -/
def dupAt (c : List UInt8) (i j : Nat) : Bool := c.getD i 0 == c.getD j 0 && (97 ≤ c.getD i 0 && c.getD i 0 ≤ 102)
theorem count_le_one {c : List UInt8} {b : UInt8} (h : ∀ i j, j < i → i < c.length → ¬ (c.getD i 0 = b ∧ c.getD j 0 = b)) : c.count b ≤ 1 := by
  induction c with
  | nil => simp
  | cons a c ih =>
    have ih' := ih (fun i j hj hi => by
      have := h (i + 1) (j + 1) (by omega) (by simpa using hi)
      simpa using this)
    rw [List.count_cons]
    by_cases hab : a = b
    · have : c.count b = 0 := by
        rw [List.count_eq_zero]
        intro hm
        obtain ⟨i, hi, e⟩ := List.getElem_of_mem hm
        refine h (i + 1) 0 (by omega) (by simpa using hi) ⟨?_, by simpa using hab⟩
        simp [List.getD, hi, e]
      rw [this]
      split <;> omega
    · rw [if_neg (by simpa using hab)]
      exact ih'
theorem two_le_count {c : List UInt8} {b : UInt8} {i j : Nat} (hj : j < i) (hi : i < c.length) (h1 : c.getD i 0 = b) (h2 : c.getD j 0 = b) : 2 ≤ c.count b := by
  induction c generalizing i j with
  | nil => simp at hi
  | cons a c ih =>
    rw [List.count_cons]
    obtain ⟨i, rfl⟩ : ∃ i', i = i' + 1 := ⟨i - 1, by omega⟩
    have hi' : i < c.length := by simpa using hi
    have h1' : c.getD i 0 = b := by simpa using h1
    cases j with
    | zero =>
      have : 1 ≤ c.count b := by
        rw [Nat.succ_le_iff, List.count_pos_iff, ← h1']
        simp [List.getD, hi']
      have e : a = b := by simpa using h2
      rw [if_pos (by simpa using e)]
      omega
    | succ j =>
      have := ih (i := i) (j := j) (by omega) hi' h1' (by simpa using h2)
      omega
theorem once_of {c : List UInt8} (h : ∀ i j, j < i → i < c.length → dupAt c i j = false) : onceB c = true := by
  unfold onceB
  simp only [List.all_eq_true, decide_eq_true_eq]
  intro b hb
  refine count_le_one fun i j hj hi e => ?_
  have := h i j hj hi
  unfold dupAt at this
  rw [e.1, e.2] at this
  simp at hb
  rcases hb with rfl | rfl | rfl | rfl | rfl | rfl <;> simp at this
theorem not_once {c : List UInt8} {i j : Nat} (hj : j < i) (hi : i < c.length) (h : dupAt c i j = true) : onceB c = false := by
  unfold dupAt at h
  simp only [Bool.and_eq_true, beq_iff_eq, decide_eq_true_eq] at h
  obtain ⟨h1, h2, h3⟩ := h
  have hc := two_le_count hj hi rfl h1.symm
  rw [← Bool.not_eq_true]
  unfold onceB
  simp only [List.all_eq_true, decide_eq_true_eq]
  intro ha
  have hm : c.getD i 0 ∈ [(97 : UInt8), 98, 99, 100, 101, 102] := by
    generalize c.getD i 0 = b at h2 h3
    rw [UInt8.le_iff_toNat_le] at h2 h3
    have : b.toNat = 97 ∨ b.toNat = 98 ∨ b.toNat = 99 ∨ b.toNat = 100 ∨ b.toNat = 101 ∨ b.toNat = 102 := by
      simp at h2 h3; omega
    simp only [List.mem_cons, List.mem_nil_iff, or_false, ← UInt8.toNat_inj]
    simpa using this
  have := ha _ hm
  omega
end Go.Proofs.Ytmjmjibokombiaa
namespace Go.Proofs.Ytmjmjibokombiaa
open Go.RowKit
/-- The byte at a place, 0 behind the end. -/
def at0 (c : List UInt8) (i : Nat) : UInt8 := c.getD i 0
def byteV (b : UInt8) : Value := .int .u8 b.toNat
/-- The first n cells of a list of bytes, with zeros behind them. -/
def cellsL (n : Nat) (c : List UInt8) : List Value := (List.range n).map fun i => byteV (at0 c i)
theorem cellsL_length (n : Nat) (c : List UInt8) : (cellsL n c).length = n := by simp [cellsL]
theorem cellsL_get (n : Nat) (c : List UInt8) (i : Nat) (h : i < n) : (cellsL n c)[i]? = some (byteV (at0 c i)) := by
  unfold cellsL
  rw [List.getElem?_map, List.getElem?_range h]
  rfl
theorem cellsL_one (n : Nat) (c : List UInt8) : ∀ v ∈ cellsL n c, v.oneCell' = true := by
  intro v hv
  unfold cellsL at hv
  obtain ⟨i, _, rfl⟩ := List.mem_map.1 hv
  rfl
/-- A grid as a value: its sides, and 36 cells: those of the list, and zeros behind them. -/
def gv (W H : Int) (c : List UInt8) : Array Value := ([Value.int .i64 W, Value.int .i64 H] ++ cellsL 36 c).toArray
theorem gv_size (W H : Int) (c : List UInt8) : (gv W H c).size = 38 := by
  unfold gv
  rw [List.size_toArray, List.length_append, cellsL_length]
  rfl
theorem gv_0 (W H : Int) (c : List UInt8) : (gv W H c)[0]? = some (.int .i64 W) := by unfold gv; rw [List.getElem?_toArray]; rfl
theorem gv_1 (W H : Int) (c : List UInt8) : (gv W H c)[1]? = some (.int .i64 H) := by unfold gv; rw [List.getElem?_toArray]; rfl
theorem gv_c (W H : Int) (c : List UInt8) (i : Nat) (h : i < 36) : (gv W H c)[2 + i]? = some (byteV (at0 c i)) := by
  unfold gv
  rw [List.getElem?_toArray, List.getElem?_append_right (by show 2 ≤ 2 + i; omega)]
  rw [show 2 + i - List.length [Value.int .i64 W, Value.int .i64 H] = i by show 2 + i - 2 = i; omega]
  exact cellsL_get 36 c i h
theorem gv_one (W H : Int) (c : List UInt8) : ∀ v ∈ (gv W H c).toList, v.oneCell' = true := by
  intro v hv
  unfold gv at hv
  rw [List.mem_append] at hv
  rcases hv with hv | hv
  · rcases List.mem_cons.1 hv with rfl | hv
    · rfl
    · rcases List.mem_cons.1 hv with rfl | hv
      · rfl
      · cases hv
  · exact cellsL_one 36 c v hv
theorem gv_ext {W H : Int} {c d : List UInt8} (h : ∀ i, i < 36 → at0 c i = at0 d i) : gv W H c = gv W H d := by
  apply Array.ext_getElem?
  intro j
  rcases Nat.lt_or_ge j 2 with hj | hj
  · have : j = 0 ∨ j = 1 := by omega
    rcases this with rfl | rfl
    · rw [gv_0, gv_0]
    · rw [gv_1, gv_1]
  · obtain ⟨k, rfl⟩ : ∃ k, j = 2 + k := ⟨j - 2, by omega⟩
    by_cases hk : k < 36
    · rw [gv_c _ _ _ k hk, gv_c _ _ _ k hk, h k hk]
    · rw [Array.getElem?_eq_none (by rw [gv_size]; omega), Array.getElem?_eq_none (by rw [gv_size]; omega)]
theorem gv_set (W H : Int) (c : List UInt8) (i : Nat) (b : UInt8) (hi : i < 36) (hc : i < c.length) : (gv W H c).setIfInBounds (2 + i) (byteV b) = gv W H (c.set i b) := by
  apply Array.ext_getElem?
  intro j
  rw [Array.getElem?_setIfInBounds]
  by_cases hj : j < 2
  · rw [if_neg (by omega)]
    have : j = 0 ∨ j = 1 := by omega
    rcases this with rfl | rfl
    · rw [gv_0, gv_0]
    · rw [gv_1, gv_1]
  · obtain ⟨k, rfl⟩ : ∃ k, j = 2 + k := ⟨j - 2, by omega⟩
    by_cases hk : k < 36
    · rw [gv_c _ _ _ k hk, gv_c _ _ _ k hk]
      by_cases e : i = k
      · subst e
        rw [if_pos rfl, gv_size, if_pos (by omega)]
        congr 2
        simp [at0, List.getD, hc]
      · rw [if_neg (by omega)]
        congr 2
        simp only [at0, List.getD]
        rw [List.getElem?_set_ne e]
    · rw [if_neg (by omega)]
      rw [Array.getElem?_eq_none (by rw [gv_size]; omega), Array.getElem?_eq_none (by rw [gv_size]; omega)]
theorem cellsL_eq (n : Nat) (c : List UInt8) (h : c.length ≤ n) : cellsL n c = c.map byteV ++ List.replicate (n - c.length) (byteV 0) := by
  apply List.ext_getElem?
  intro i
  by_cases hi : i < n
  · rw [cellsL_get n c i hi]
    unfold at0
    by_cases hc : i < c.length
    · rw [List.getElem?_append_left (by simpa using hc)]
      simp [List.getD, hc]
    · rw [List.getElem?_append_right (by simpa using hc), List.getElem?_replicate, if_pos (by simp; omega)]
      simp [List.getD, List.getElem?_eq_none (show c.length ≤ i by omega)]
  · rw [List.getElem?_eq_none (by rw [cellsL_length]; omega), List.getElem?_eq_none (by simp; omega)]
theorem gv_copy (W H : Int) (c r : List UInt8) (k : Nat) (hk : c.length = k) (hr : k + r.length ≤ 36) :
    ((gv W H c).toList.take (2 + k) ++ Lib.byteCells r ++ (gv W H c).toList.drop (2 + k + r.length)).toArray = gv W H (c ++ r) := by
  subst hk
  have e : (gv W H c).toList = [Value.int .i64 W, Value.int .i64 H] ++ (c.map byteV ++ List.replicate (36 - c.length) (byteV 0)) := by
    unfold gv; rw [cellsL_eq 36 c (by omega)]
  have e2 : gv W H (c ++ r) = ([Value.int .i64 W, Value.int .i64 H] ++ ((c ++ r).map byteV ++ List.replicate (36 - (c ++ r).length) (byteV 0))).toArray := by
    unfold gv; rw [cellsL_eq 36 (c ++ r) (by simp; omega)]
  have hbc : Lib.byteCells r = r.map byteV := rfl
  rw [e, e2, hbc]
  congr 1
  simp only [List.map_append, List.length_append]
  have h1 : List.take (2 + c.length) ([Value.int .i64 W, Value.int .i64 H] ++ (c.map byteV ++ List.replicate (36 - c.length) (byteV 0))) = [Value.int .i64 W, Value.int .i64 H] ++ c.map byteV := by
    rw [← List.append_assoc, List.take_append_of_le_length (by simp; omega), List.take_of_length_le (by simp; omega)]
  have h2 : List.drop (2 + c.length + r.length) ([Value.int .i64 W, Value.int .i64 H] ++ (c.map byteV ++ List.replicate (36 - c.length) (byteV 0))) = List.replicate (36 - (c.length + r.length)) (byteV 0) := by
    rw [← List.append_assoc, List.drop_append, List.drop_of_length_le (by simp; omega)]
    simp
    omega
  rw [h1, h2]
  simp
def gvG (g : Grid) : Array Value := gv g.w g.h g.c
/-- The cells of a block that holds a grid. -/
theorem gcells {w : World} {B : Nat} {W H : Int} {c : List UInt8} {T : TypeId} (h : Blk w B (gv W H c) T) :
    w.cell? ⟨B, 0, none⟩ = some (.int .i64 W) ∧ w.cell? ⟨B, 1, none⟩ = some (.int .i64 H) ∧ (∀ i, i < 36 → w.cell? ⟨B, 2 + i, none⟩ = some (.int .u8 (at0 c i).toNat)) :=
  ⟨(h.cell 0).trans (gv_0 W H c), (h.cell 1).trans (gv_1 W H c), fun i hi => (h.cell (2 + i)).trans (gv_c W H c i hi)⟩
theorem Try.gzero (w : World) : (zeroValue 55).run Try.prog w = .ok (.agg (gv 0 0 [])) w := by kernel_rfl
theorem Try.gsize (w : World) : (sizeOf 55).run Try.prog w = .ok 38 w := by kernel_rfl
theorem Try.ginfo : (Try.prog.info? 55).map (·.size) = some 38 := by kernel_rfl
theorem Try.ginfo' (W H : Int) (c : List UInt8) : (Try.prog.info? 55).map (·.size) = some (gv W H c).size := by rw [gv_size]; exact Try.ginfo
theorem Try.gsize' (W H : Int) (c : List UInt8) (w : World) : (sizeOf 55).run Try.prog w = .ok (gv W H c).size w := by rw [gv_size]; exact Try.gsize w
theorem Try.gbuild0 (w : World) : (Instr.build 55 #[]).run Try.prog w = .ok (.agg (gv 0 0 [])) w := by kernel_rfl
theorem Try.gbuild (x y : Int) (w : World) : (Instr.build 55 #[(0, .int .i64 x), (1, .int .i64 y)]).run Try.prog w = .ok (.agg (gv x y [])) w := by kernel_rfl
theorem Try.alen : Try.prog.arrayLen 53 = 36 := by kernel_rfl
theorem Try.aelem : Try.prog.elem 53 = 5 := by kernel_rfl
end Go.Proofs.Ytmjmjibokombiaa
namespace Go.Proofs.Ytmjmjibokombiaa
/-- The cells of row y. -/
def rowL (W : Nat) (c : List UInt8) (y : Nat) : List UInt8 := (List.range W).map fun x => at0 c (nn W y + x)
def rowsL (W : Nat) (c : List UInt8) (y : Nat) : List (List UInt8) := (List.range y).map (rowL W c)
/-- The text of the first y rows. -/
def txtL (W : Nat) (c : List UInt8) (y : Nat) : List UInt8 := Lib.join (rowsL W c y) [47]
def txtB (W H : Nat) (c : List UInt8) : ByteArray := ⟨(txtL W c H).toArray⟩
theorem rowL_length (W : Nat) (c : List UInt8) (y : Nat) : (rowL W c y).length = W := by simp [rowL]
theorem rowL_get (W : Nat) (c : List UInt8) (y i : Nat) (h : i < W) : (rowL W c y)[i]? = some (at0 c (nn W y + i)) := by
  unfold rowL
  rw [List.getElem?_map, List.getElem?_range h]
  rfl
theorem rowsL_length (W : Nat) (c : List UInt8) (y : Nat) : (rowsL W c y).length = y := by simp [rowsL]
theorem rowsL_get (W : Nat) (c : List UInt8) (y i : Nat) (h : i < y) : (rowsL W c y)[i]? = some (rowL W c i) := by
  unfold rowsL
  rw [List.getElem?_map, List.getElem?_range h]
  rfl
theorem rowsL_succ (W : Nat) (c : List UInt8) (y : Nat) : rowsL W c (y + 1) = rowsL W c y ++ [rowL W c y] := by
  unfold rowsL
  rw [List.range_succ, List.map_append]
  rfl
theorem join_snoc (x0 : List UInt8) (xs : List (List UInt8)) (x sep : List UInt8) : Lib.join (x0 :: xs ++ [x]) sep = Lib.join (x0 :: xs) sep ++ (sep ++ x) := by
  rw [List.cons_append, Lib.join_cons, Lib.join_cons]
  unfold Lib.joinTail
  simp
theorem txtL_zero (W : Nat) (c : List UInt8) : txtL W c 0 = [] := rfl
theorem txtL_one (W : Nat) (c : List UInt8) : txtL W c 1 = rowL W c 0 := by
  unfold txtL
  rw [rowsL_succ]
  exact Lib.join_one _ _
theorem txtL_succ (W : Nat) (c : List UInt8) (y : Nat) (h : 0 < y) : txtL W c (y + 1) = (txtL W c y ++ [47]) ++ rowL W c y := by
  obtain ⟨z, rfl⟩ : ∃ z, y = z + 1 := ⟨y - 1, by omega⟩
  unfold txtL
  rw [rowsL_succ W c (z + 1)]
  have e : rowsL W c (z + 1) = rowL W c 0 :: ((List.range z).map fun i => rowL W c (i + 1)) := by
    unfold rowsL
    rw [List.range_succ_eq_map, List.map_cons, List.map_map]
    rfl
  rw [e, join_snoc]
  simp
theorem txtL_length (W : Nat) (c : List UInt8) (y : Nat) : (txtL W c y).length ≤ nn (W + 1) y := by
  induction y with
  | zero => simp [txtL_zero]
  | succ y ih =>
    have e : nn (W + 1) (y + 1) = nn (W + 1) y + (W + 1) := by unfold nn; rw [Nat.mul_succ]
    rcases Nat.eq_zero_or_pos y with rfl | hy
    · rw [txtL_one, rowL_length, e]; omega
    · rw [txtL_succ W c y hy, List.length_append, List.length_append, rowL_length, e]
      simp
      omega
theorem rowL_ext {W y : Nat} {c d : List UInt8} (h : ∀ x, x < W → at0 c (nn W y + x) = at0 d (nn W y + x)) : rowL W c y = rowL W d y := by
  unfold rowL
  apply List.map_congr_left
  intro x hx
  exact h x (List.mem_range.1 hx)
theorem nn_row {W y H : Nat} (h : y < H) : nn W y + W ≤ nn W H := by
  unfold nn
  have : W * y + W = W * (y + 1) := by rw [Nat.mul_succ]
  rw [this]; exact Nat.mul_le_mul_left _ h
theorem txtL_ext {W H : Nat} {c d : List UInt8} (h : ∀ i, i < nn W H → at0 c i = at0 d i) : txtL W c H = txtL W d H := by
  unfold txtL rowsL
  congr 1
  apply List.map_congr_left
  intro y hy
  refine rowL_ext fun x hx => h _ ?_
  have := nn_row (W := W) (List.mem_range.1 hy)
  omega
theorem txtB_ext {W H : Nat} {c d : List UInt8} (h : ∀ i, i < nn W H → at0 c i = at0 d i) : txtB W H c = txtB W H d := by
  unfold txtB; rw [txtL_ext h]
theorem mkB_append (a b : List UInt8) : (⟨a.toArray⟩ ++ ⟨b.toArray⟩ : ByteArray) = ⟨(a ++ b).toArray⟩ := by
  apply ByteArray.ext
  rw [ByteArray.data_append]
  simp
def rowB (W : Nat) (c : List UInt8) (y : Nat) : ByteArray := ⟨(rowL W c y).toArray⟩
theorem rowB_size (W : Nat) (c : List UInt8) (y : Nat) : (rowB W c y).size = W := by
  show (rowL W c y).toArray.size = W
  simp [rowL_length]
theorem txtB_size (W H : Nat) (c : List UInt8) : (txtB W H c).size ≤ nn (W + 1) H := by
  show (txtL W c H).toArray.size ≤ _
  simpa using txtL_length W c H
theorem txtB_data (W H : Nat) (c : List UInt8) : (txtB W H c).data.toList = txtL W c H := by simp [txtB]
end Go.Proofs.Ytmjmjibokombiaa
namespace Go.Proofs.Ytmjmjibokombiaa
/-- A list by its places. -/
def genC (n : Nat) (f : Nat → UInt8) : List UInt8 := (List.range n).map f
theorem genC_length (n : Nat) (f : Nat → UInt8) : (genC n f).length = n := by simp [genC]
theorem genC_at (n : Nat) (f : Nat → UInt8) (i : Nat) : at0 (genC n f) i = if i < n then f i else 0 := by
  unfold at0 genC
  by_cases h : i < n
  · rw [if_pos h]; simp [List.getD, h]
  · rw [if_neg h]; simp [List.getD, h]
theorem at0_none (c : List UInt8) (i : Nat) (h : c.length ≤ i) : at0 c i = 0 := by
  unfold at0; simp [List.getD, h]
theorem list_ext {c d : List UInt8} (h1 : c.length = d.length) (h : ∀ i, i < c.length → at0 c i = at0 d i) : c = d := by
  apply List.ext_getElem h1
  intro i hi hj
  have := h i hi
  unfold at0 at this
  simpa [List.getD, hi, hj] using this
theorem genC_self (c : List UInt8) : genC c.length (at0 c) = c := by
  apply list_ext (genC_length _ _)
  intro i hi
  rw [genC_length] at hi
  rw [genC_at, if_pos hi]
theorem genC_congr {n : Nat} {f g : Nat → UInt8} (h : ∀ i, i < n → f i = g i) : genC n f = genC n g := by
  unfold genC
  apply List.map_congr_left
  intro i hi
  exact h i (List.mem_range.1 hi)
theorem genC_set (n : Nat) (f : Nat → UInt8) (j : Nat) (b : UInt8) : (genC n f).set j b = genC n fun i => if i = j then b else f i := by
  apply list_ext (by simp [genC_length])
  intro i hi
  rw [List.length_set, genC_length] at hi
  rw [genC_at, if_pos hi]
  by_cases hj : j < n
  · have := genC_length n f
    unfold at0
    by_cases e : i = j
    · subst e; rw [if_pos rfl]; simp [List.getD, this, hi]
    · rw [if_neg e]; simp only [List.getD]; rw [List.getElem?_set_ne (Ne.symm e)]
      have h2 := genC_at n f i
      rw [if_pos hi] at h2
      exact h2
  · rw [List.set_eq_of_length_le (by rw [genC_length]; omega), genC_at, if_pos hi, if_neg (by omega)]
/-- Where the cell i of the grid with columns and rows exchanged comes from. -/
def srcT (W H i : Nat) : Nat := (i % H) * W + i / H
/-- Where the cell i of the grid with its rows backwards comes from. -/
def srcM (W i : Nat) : Nat := (i / W) * W + (W - 1 - i % W)
def trC (W H : Nat) (c : List UInt8) : List UInt8 := genC (nn W H) fun i => at0 c (srcT W H i)
def miC (W H : Nat) (c : List UInt8) : List UInt8 := genC (nn W H) fun i => at0 c (srcM W i)
theorem trC_length (W H : Nat) (c : List UInt8) : (trC W H c).length = nn W H := genC_length _ _
theorem miC_length (W H : Nat) (c : List UInt8) : (miC W H c).length = nn W H := genC_length _ _
theorem nn_comm (a b : Nat) : nn a b = nn b a := Nat.mul_comm a b
theorem row_lt {W H i : Nat} (h : i < nn W H) : i / W < H := Nat.div_lt_of_lt_mul h
theorem pair_mod {W x y : Nat} (h : x < W) : (y * W + x) % W = x := by rw [Nat.mul_comm, Nat.mul_add_mod]; exact Nat.mod_eq_of_lt h
theorem pair_div {W x y : Nat} (h : x < W) : (y * W + x) / W = y := by
  have hW : 0 < W := by omega
  rw [Nat.mul_comm, Nat.mul_add_div hW, Nat.div_eq_of_lt h]
  rfl
theorem pair_lt {W H x y : Nat} (hx : x < W) (hy : y < H) : y * W + x < nn W H := by
  unfold nn
  have : W * y + W ≤ W * H := by rw [← Nat.mul_succ]; exact Nat.mul_le_mul_left _ hy
  rw [Nat.mul_comm y W]; omega
theorem pair_eq (W i : Nat) : (i / W) * W + i % W = i := by rw [Nat.mul_comm]; exact Nat.div_add_mod i W
theorem srcT_mod {W H i : Nat} (h : i < nn W H) : srcT W H i % W = i / H ∧ srcT W H i / W = i % H := by
  have h1 : i / H < W := row_lt (by rw [nn_comm]; exact h)
  unfold srcT
  exact ⟨pair_mod h1, pair_div h1⟩
theorem srcT_lt {W H i : Nat} (h : i < nn W H) (hH : 0 < H) : srcT W H i < nn W H := by
  unfold srcT
  exact pair_lt (row_lt (by rw [nn_comm]; exact h)) (Nat.mod_lt _ hH)
theorem srcM_mod {W i : Nat} (hW : 0 < W) : srcM W i % W = W - 1 - i % W ∧ srcM W i / W = i / W := by
  have h1 : W - 1 - i % W < W := by omega
  unfold srcM
  exact ⟨pair_mod h1, pair_div h1⟩
theorem srcM_lt {W H i : Nat} (hW : 0 < W) (h : i < nn W H) : srcM W i < nn W H := by
  unfold srcM
  exact pair_lt (by omega) (row_lt h)
/-- Turned: the model's way of saying it. -/
def tuS (W H : Nat) (c : List UInt8) : List UInt8 := genC (nn W H) fun i => at0 c ((H - 1 - i % H) * W + i / H)
theorem tuS_eq (W H : Nat) (c : List UInt8) (hH : 0 < H) : miC H W (trC W H c) = tuS W H c := by
  unfold miC tuS
  rw [nn_comm H W]
  apply genC_congr
  intro i hi
  have h1 := srcM_mod (i := i) hH
  have h2 : srcM H i < nn W H := by rw [nn_comm]; exact srcM_lt hH (by rw [nn_comm]; exact hi)
  unfold trC
  rw [genC_at, if_pos h2]
  unfold srcT
  rw [h1.1, h1.2]
theorem tuS_tr (W H : Nat) (c : List UInt8) (hH : 0 < H) : miC H W (tuS W H c) = trC W H c := by
  unfold miC trC
  rw [nn_comm H W]
  apply genC_congr
  intro i hi
  have h1 := srcM_mod (i := i) hH
  have h2 : srcM H i < nn W H := by rw [nn_comm]; exact srcM_lt hH (by rw [nn_comm]; exact hi)
  have h3 : i % H < H := Nat.mod_lt _ hH
  unfold tuS
  rw [genC_at, if_pos h2, h1.1, h1.2]
  unfold srcT
  congr 2
  congr 1
  omega
/-! a part of the cells backwards -/
def revTo (c : List UInt8) (o n k : Nat) : List UInt8 := genC c.length fun i => if o ≤ i ∧ i < o + n ∧ (i - o < k ∨ n - 1 - (i - o) < k) then at0 c (o + (n - 1 - (i - o))) else at0 c i
def revC (c : List UInt8) (o n : Nat) : List UInt8 := genC c.length fun i => if o ≤ i ∧ i < o + n then at0 c (o + (n - 1 - (i - o))) else at0 c i
theorem revTo_length (c : List UInt8) (o n k : Nat) : (revTo c o n k).length = c.length := genC_length _ _
theorem revTo_zero (c : List UInt8) (o n : Nat) : revTo c o n 0 = c := by
  refine Eq.trans (genC_congr fun i hi => ?_) (genC_self c)
  rw [if_neg (by omega)]
theorem revTo_end (c : List UInt8) (o n k : Nat) (h : n ≤ 2 * k + 1) : revTo c o n k = revC c o n := by
  apply genC_congr
  intro i hi
  by_cases h1 : o ≤ i ∧ i < o + n
  · rw [if_pos h1]
    by_cases h2 : i - o < k ∨ n - 1 - (i - o) < k
    · rw [if_pos ⟨h1.1, h1.2, h2⟩]
    · rw [if_neg (by omega)]
      congr 1
      omega
  · rw [if_neg h1, if_neg (by omega)]
theorem revTo_at (c : List UInt8) (o n k i : Nat) (h : ¬ (i - o < k ∨ n - 1 - (i - o) < k)) : at0 (revTo c o n k) i = at0 c i := by
  unfold revTo
  rw [genC_at]
  by_cases hi : i < c.length
  · rw [if_pos hi, if_neg (by omega)]
  · rw [if_neg hi, at0_none c i (by omega)]
theorem revTo_succ (c : List UInt8) (o n k : Nat) (h : 2 * k + 1 < n) : ((revTo c o n k).set (o + k) (at0 c (o + (n - 1 - k)))).set (o + (n - 1 - k)) (at0 c (o + k)) = revTo c o n (k + 1) := by
  unfold revTo
  rw [genC_set, genC_set]
  apply genC_congr
  intro i hi
  by_cases e1 : i = o + (n - 1 - k)
  · subst e1
    rw [if_pos rfl, if_pos (by omega)]
    congr 1
    omega
  · rw [if_neg e1]
    by_cases e2 : i = o + k
    · subst e2
      rw [if_pos rfl, if_pos (by omega)]
      congr 1
      omega
    · rw [if_neg e2]
      by_cases h3 : o ≤ i ∧ i < o + n ∧ (i - o < k ∨ n - 1 - (i - o) < k)
      · rw [if_pos h3, if_pos (by omega)]
      · rw [if_neg h3, if_neg (by omega)]
/-- The first k rows backwards. -/
def miTo (W H : Nat) (c : List UInt8) (k : Nat) : List UInt8 := genC (nn W H) fun i => if i / W < k then at0 c (srcM W i) else at0 c i
theorem miTo_length (W H : Nat) (c : List UInt8) (k : Nat) : (miTo W H c k).length = nn W H := genC_length _ _
theorem miTo_zero (W H : Nat) (c : List UInt8) (h : c.length = nn W H) : miTo W H c 0 = c := by
  unfold miTo
  rw [← h]
  refine Eq.trans (genC_congr fun i hi => ?_) (genC_self c)
  rw [if_neg (Nat.not_lt_zero _)]
theorem miTo_end (W H : Nat) (c : List UInt8) : miTo W H c H = miC W H c := by
  apply genC_congr
  intro i hi
  rw [if_pos (row_lt hi)]
theorem miTo_succ (W H : Nat) (c : List UInt8) (k : Nat) (hW : 0 < W) (hk : k < H) : revC (miTo W H c k) (nn W k) W = miTo W H c (k + 1) := by
  unfold revC
  rw [miTo_length]
  have hle := nn_row (W := W) hk
  apply genC_congr
  intro i hi
  by_cases h1 : nn W k ≤ i ∧ i < nn W k + W
  · rw [if_pos h1]
    obtain ⟨x, rfl⟩ : ∃ x, i = nn W k + x := ⟨i - nn W k, by omega⟩
    have hx : x < W := by omega
    have e1 : nn W k + x = k * W + x := by unfold nn; rw [Nat.mul_comm]
    have e2 : nn W k + (W - 1 - x) = k * W + (W - 1 - x) := by unfold nn; rw [Nat.mul_comm]
    have e3 : nn W k + x - nn W k = x := by omega
    rw [e3, e1, e2, pair_div hx, if_pos (by omega)]
    unfold miTo srcM
    rw [genC_at, if_pos (by rw [← e2]; omega), pair_div (by omega), if_neg (by omega), pair_div hx, pair_mod hx]
  · rw [if_neg h1]
    have hne : i / W ≠ k := by
      intro e
      have h2 := pair_eq W i
      have h3 := Nat.mod_lt i hW
      rw [e] at h2
      unfold nn at h1
      rw [Nat.mul_comm] at h1
      omega
    unfold miTo
    rw [genC_at, if_pos hi]
    by_cases h2 : i / W < k
    · rw [if_pos h2, if_pos (by omega)]
    · rw [if_neg h2, if_neg (by omega)]
/-- The first k cells, columns and rows exchanged, and zeros else. -/
def trTo (W H : Nat) (c : List UInt8) (k : Nat) : List UInt8 := genC 36 fun i => if i < nn W H ∧ srcT W H i < k then at0 c (srcT W H i) else 0
theorem trTo_length (W H : Nat) (c : List UInt8) (k : Nat) : (trTo W H c k).length = 36 := genC_length _ _
theorem trTo_zero (W H : Nat) (c : List UInt8) (i : Nat) : at0 (trTo W H c 0) i = at0 [] i := by
  unfold trTo
  rw [genC_at]
  split
  · rw [if_neg (by omega)]; rfl
  · rfl
theorem trTo_end (W H : Nat) (c : List UInt8) (hH : 0 < H) (i : Nat) (hi : i < 36) : at0 (trTo W H c (nn W H)) i = at0 (trC W H c) i := by
  unfold trTo trC
  rw [genC_at, if_pos hi, genC_at]
  by_cases h : i < nn W H
  · rw [if_pos h, if_pos ⟨h, srcT_lt h hH⟩]
  · rw [if_neg h, if_neg (by omega)]
theorem trTo_succ (W H : Nat) (c : List UInt8) (k : Nat) (hW : 0 < W) (hk : k < nn W H) : (trTo W H c k).set (nn H (k % W) + k / W) (at0 c k) = trTo W H c (k + 1) := by
  unfold trTo
  rw [genC_set]
  apply genC_congr
  intro i hi
  have hy : k / W < H := row_lt hk
  have hx : k % W < W := Nat.mod_lt _ hW
  have ej : nn H (k % W) + k / W = (k % W) * H + k / W := by unfold nn; rw [Nat.mul_comm]
  have hj : (k % W) * H + k / W < nn W H := by rw [nn_comm]; exact pair_lt hy hx
  rw [ej]
  by_cases e : i = (k % W) * H + k / W
  · subst e
    have es : srcT W H ((k % W) * H + k / W) = k := by
      unfold srcT
      rw [pair_mod hy, pair_div hy, pair_eq]
    rw [if_pos rfl, es, if_pos ⟨hj, by omega⟩]
  · rw [if_neg e]
    by_cases h : i < nn W H
    · have hne : srcT W H i ≠ k := by
        intro e2
        have h3 := srcT_mod h
        rw [e2] at h3
        apply e
        rw [h3.1, h3.2, pair_eq]
      by_cases h4 : srcT W H i < k
      · rw [if_pos ⟨h, h4⟩, if_pos ⟨h, by omega⟩]
      · rw [if_neg (by omega), if_neg (by omega)]
    · rw [if_neg (by omega), if_neg (by omega)]
theorem trTo_fin (W H : Nat) (c : List UInt8) (i : Nat) (hi : i < 36) : at0 (trTo W H c (nn W H)) i = at0 (trC W H c) i := by
  rcases Nat.eq_zero_or_pos H with rfl | h
  · rw [show nn W 0 = 0 from rfl, trTo_zero]; rfl
  · exact trTo_end W H c h i hi
theorem tuS_all (W H : Nat) (c : List UInt8) : miC H W (trC W H c) = tuS W H c := by
  rcases Nat.eq_zero_or_pos H with rfl | h
  · unfold miC tuS; rw [nn_comm]; rfl
  · exact tuS_eq W H c h
end Go.Proofs.Ytmjmjibokombiaa
namespace Go.Proofs.Ytmjmjibokombiaa
theorem join_cons2 (x : List UInt8) (xs : List (List UInt8)) (h : xs ≠ []) (sep : List UInt8) : Lib.join (x :: xs) sep = x ++ (sep ++ Lib.join xs sep) := by
  cases xs with
  | nil => exact absurd rfl h
  | cons y ys =>
    rw [Lib.join_cons, Lib.join_cons]
    unfold Lib.joinTail
    simp
theorem join_pieces (l : List UInt8) : Lib.join (pieces l) [47] = l := by
  induction l with
  | nil => rfl
  | cons c r ih =>
    have hp := pieces_ne r
    unfold pieces
    split
    · rename_i hc
      rw [join_cons2 _ _ hp, ih, hc]
      rfl
    · cases h : pieces r with
      | nil => exact absurd h hp
      | cons p q =>
        rw [h] at ih
        simp only [List.headD_cons, List.tail_cons]
        rw [Lib.join_cons] at ih ⊢
        rw [List.cons_append, ih]
theorem at0_append_left {c d : List UInt8} {i : Nat} (h : i < c.length) : at0 (c ++ d) i = at0 c i := by
  unfold at0; simp only [List.getD]; rw [List.getElem?_append_left h]
theorem at0_append_right {c d : List UInt8} {i : Nat} (h : c.length ≤ i) : at0 (c ++ d) i = at0 d (i - c.length) := by
  unfold at0; simp only [List.getD]; rw [List.getElem?_append_right h]
theorem row_self {r : List UInt8} {w : Nat} (h : r.length = w) (d : List UInt8) : rowL w (r ++ d) 0 = r := by
  subst h
  apply list_ext (rowL_length _ _ _)
  intro i hi
  rw [rowL_length] at hi
  have e := rowL_get r.length (r ++ d) 0 i hi
  have e2 : at0 (rowL r.length (r ++ d) 0) i = at0 (r ++ d) (nn r.length 0 + i) := by
    unfold at0 at e ⊢
    simp only [List.getD] at e ⊢
    rw [e]
    rfl
  rw [e2, show nn r.length 0 = 0 from Nat.mul_zero _, Nat.zero_add, at0_append_left hi]
theorem row_next {r : List UInt8} {w : Nat} (h : r.length = w) (d : List UInt8) (y : Nat) : rowL w (r ++ d) (y + 1) = rowL w d y := by
  unfold rowL
  apply List.map_congr_left
  intro x _
  have e : nn w (y + 1) + x = r.length + (nn w y + x) := by unfold nn; rw [Nat.mul_succ, h]; omega
  rw [e, at0_append_right (by omega)]
  congr 1
  omega
theorem rows_flatten {p : List (List UInt8)} {w : Nat} (h : ∀ r ∈ p, r.length = w) : rowsL w p.flatten p.length = p := by
  induction p with
  | nil => rfl
  | cons r p ih =>
    have hr := h r (by simp)
    have ih := ih (fun q hq => h q (by simp [hq]))
    unfold rowsL at ih ⊢
    rw [List.length_cons, List.range_succ_eq_map, List.map_cons, List.map_map, List.flatten_cons, row_self hr]
    congr 1
    refine Eq.trans (List.map_congr_left fun y _ => ?_) ih
    exact row_next hr _ y
/-- A tray's text is that of its grid. -/
theorem parse_text {l : List UInt8} {g : Grid} (h : parse l = some g) : txtL g.w g.c g.h = l := by
  obtain ⟨a, b, c⟩ := parse_some h
  unfold txtL
  rw [b, c, rows_flatten a.rows, join_pieces]
theorem pieces_plain {r : List UInt8} (h : ∀ b ∈ r, b ≠ 47) : pieces r = [r] := by
  induction r with
  | nil => rfl
  | cons b r ih =>
    rw [pieces, if_neg (h b (by simp)), ih (fun c hc => h c (by simp [hc]))]
    rfl
theorem pieces_join {p : List (List UInt8)} (hp : p ≠ []) (h : ∀ r ∈ p, ∀ b ∈ r, b ≠ 47) : pieces (Lib.join p [47]) = p := by
  induction p with
  | nil => exact absurd rfl hp
  | cons r p ih =>
    cases p with
    | nil => rw [Lib.join_one]; exact pieces_plain (h r (by simp))
    | cons q p =>
      rw [join_cons2 r (q :: p) (by simp)]
      show pieces (r ++ 47 :: Lib.join (q :: p) [47]) = _
      rw [pieces_slash, ih (by simp) (fun x hx => h x (by simp [hx])), pieces_plain (h r (by simp))]
      rfl
/-- No cell is a slash. -/
def Plain (c : List UInt8) : Prop := ∀ i, i < c.length → at0 c i ≠ 47
theorem rows_plain {W H : Nat} {c : List UInt8} (hl : c.length = nn W H) (h : Plain c) : ∀ r ∈ rowsL W c H, ∀ b ∈ r, b ≠ 47 := by
  intro r hr b hb
  unfold rowsL at hr
  obtain ⟨y, hy, rfl⟩ := List.mem_map.1 hr
  unfold rowL at hb
  obtain ⟨x, hx, rfl⟩ := List.mem_map.1 hb
  have := nn_row (W := W) (List.mem_range.1 hy)
  have := List.mem_range.1 hx
  exact h _ (by omega)
theorem rows_ne {W H : Nat} {c : List UInt8} (h : 1 ≤ H) : rowsL W c H ≠ [] := by
  intro e
  have := rowsL_length W c H
  rw [e] at this
  simp at this
  omega
theorem pieces_txt {W H : Nat} {c : List UInt8} (h1 : 1 ≤ H) (hl : c.length = nn W H) (h : Plain c) : pieces (txtL W c H) = rowsL W c H :=
  pieces_join (rows_ne h1) (rows_plain hl h)
theorem rows_at {W : Nat} {c : List UInt8} {y x : Nat} (hx : x < W) : at0 (rowL W c y) x = at0 c (nn W y + x) := by
  have e := rowL_get W c y x hx
  unfold at0 at e ⊢
  simp only [List.getD] at e ⊢
  rw [e]
  rfl
/-- Different grids have different texts. -/
theorem txt_inj {W H W' H' : Nat} {c c' : List UInt8} (hW : 1 ≤ W) (hH : 1 ≤ H) (hH' : 1 ≤ H') (hl : c.length = nn W H) (hl' : c'.length = nn W' H') (h : Plain c) (h' : Plain c') (e : txtL W c H = txtL W' c' H') : W = W' ∧ H = H' ∧ c = c' := by
  have er : rowsL W c H = rowsL W' c' H' := by rw [← pieces_txt hH hl h, ← pieces_txt hH' hl' h', e]
  have eH : H = H' := by
    have := congrArg List.length er
    rwa [rowsL_length, rowsL_length] at this
  subst eH
  have hrow : ∀ y, y < H → rowL W c y = rowL W' c' y := fun y hy => by
    have h1 := rowsL_get W c H y hy
    have h2 := rowsL_get W' c' H y hy
    rw [er, h2] at h1
    exact (Option.some.inj h1).symm
  have eW : W = W' := by
    have := congrArg List.length (hrow 0 (by omega))
    rwa [rowL_length, rowL_length] at this
  subst eW
  refine ⟨rfl, rfl, list_ext (by rw [hl, hl']) fun i hi => ?_⟩
  rw [hl] at hi
  have hy : i / W < H := row_lt hi
  have hx : i % W < W := Nat.mod_lt _ hW
  have e3 : nn W (i / W) + i % W = i := by unfold nn; exact Nat.div_add_mod i W
  have h1 := rows_at (c := c) (y := i / W) hx
  have h2 := rows_at (c := c') (y := i / W) hx
  rw [e3] at h1 h2
  rw [← h1, ← h2, hrow _ hy]
theorem cell_plain {c : List UInt8} (h : ∀ i, i < c.length → isCellB (at0 c i) = true) : Plain c := by
  intro i hi e
  have := h i hi
  rw [e] at this
  exact absurd this (by decide)
/-- Cells moved about are cells. -/
theorem genC_cells {n : Nat} {f : Nat → UInt8} (h : ∀ i, i < n → isCellB (f i) = true) : ∀ i, i < (genC n f).length → isCellB (at0 (genC n f) i) = true := by
  intro i hi
  rw [genC_length] at hi
  rw [genC_at, if_pos hi]
  exact h i hi
theorem miC_cells {W H : Nat} {c : List UInt8} (hW : 0 < W) (hl : c.length = nn W H) (h : ∀ i, i < c.length → isCellB (at0 c i) = true) : ∀ i, i < (miC W H c).length → isCellB (at0 (miC W H c) i) = true :=
  genC_cells fun i hi => h _ (by rw [hl]; exact srcM_lt hW hi)
theorem tuS_cells {W H : Nat} {c : List UInt8} (hH : 0 < H) (hl : c.length = nn W H) (h : ∀ i, i < c.length → isCellB (at0 c i) = true) : ∀ i, i < (tuS W H c).length → isCellB (at0 (tuS W H c) i) = true :=
  genC_cells fun i hi => h _ (by
    rw [hl]
    exact pair_lt (row_lt (by rw [nn_comm]; exact hi)) (by omega))
/-! the moves -/
/-- A grid turned k times. -/
def turnN : Nat → Grid → Grid
  | 0, g => g
  | k + 1, g => let t := turnN k g; ⟨t.h, t.w, tuS t.w t.h t.c⟩
def mirG (g : Grid) : Grid := ⟨g.w, g.h, miC g.w g.h g.c⟩
theorem tuS_length (W H : Nat) (c : List UInt8) : (tuS W H c).length = nn W H := genC_length _ _
theorem tuS_at {W H : Nat} {c : List UInt8} {x y : Nat} (hx : x < H) (hy : y < W) : at0 (tuS W H c) (y * H + x) = at0 c ((H - 1 - x) * W + y) := by
  unfold tuS
  rw [genC_at, if_pos (by rw [nn_comm]; exact pair_lt hx hy), pair_mod hx, pair_div hx]
/-- Turned four times it is as before. -/
theorem tuS_four {W H : Nat} {c : List UInt8} (hW : 1 ≤ W) (hl : c.length = nn W H) : tuS H W (tuS W H (tuS H W (tuS W H c))) = c := by
  apply list_ext (by rw [tuS_length, hl, nn_comm])
  intro i hi
  rw [tuS_length, nn_comm] at hi
  have hx : i % W < W := Nat.mod_lt _ hW
  have hy : i / W < H := row_lt hi
  rw [← pair_eq W i]
  generalize i % W = x at *
  generalize i / W = y at *
  rw [tuS_at hx hy, tuS_at (by omega) (by omega), tuS_at (by omega) (by omega), tuS_at (by omega) (by omega)]
  congr 2
  · congr 1; omega
  · omega
end Go.Proofs.Ytmjmjibokombiaa
