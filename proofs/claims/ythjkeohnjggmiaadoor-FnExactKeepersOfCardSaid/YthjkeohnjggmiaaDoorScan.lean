/-
  Plain mathematics: a tray's text read byte by byte, and what makes it no tray.
-/
import Derived.Test.YthjkeohnjggmiaaDoorPure
namespace Go.Proofs.YthjkeohnjggmiaaDoor
structure ScanA (L : List UInt8) (i x h gw : Nat) (c : List UInt8) : Prop where
  le : i ≤ L.length
  d : ∃ d r, pieces (L.take i) = d ++ [r] ∧ r.length = x ∧ d.length = h ∧ (∀ q ∈ d, q.length = gw) ∧ c = d.flatten ++ r ∧ (0 < h → 1 ≤ gw)
  val : ∀ b ∈ c, isCellB b = true
structure ScanB (L : List UInt8) (h gw : Nat) (c : List UInt8) : Prop where
  hh : h = (pieces L).length
  rows : ∀ q ∈ pieces L, q.length = gw
  w1 : 1 ≤ gw
  cc : c = (pieces L).flatten
  val : ∀ b ∈ c, isCellB b = true
theorem ScanA.zero (L : List UInt8) : ScanA L 0 0 0 0 [] :=
  ⟨Nat.zero_le _, ⟨[], [], by simp [pieces], rfl, rfl, (fun q hq => by cases hq), rfl, fun h => by omega⟩, fun b hb => by cases hb⟩
theorem take_snoc' {L : List UInt8} {i : Nat} {b : UInt8} (h : L[i]? = some b) : L.take (i + 1) = L.take i ++ [b] := by
  rw [List.take_add_one, h]; rfl
theorem ScanA.len {L : List UInt8} {i x h gw : Nat} {c : List UInt8} (s : ScanA L i x h gw c) : c.length + h = i ∧ x ≤ c.length := by
  obtain ⟨hle, ⟨d, r, hp, hr, hd, _, hc, _⟩, _⟩ := s
  have h1 := pieces_total (L.take i)
  rw [hp] at h1
  subst hc
  simp at h1 ⊢
  rw [Nat.min_eq_left hle] at h1
  omega
theorem ScanB.len {L : List UInt8} {h gw : Nat} {c : List UInt8} (s : ScanB L h gw c) : c.length + h = L.length + 1 := by
  have h1 := pieces_total L
  rw [s.cc, s.hh]; omega
theorem ScanB.pos {L : List UInt8} {h gw : Nat} {c : List UInt8} (s : ScanB L h gw c) : 1 ≤ c.length ∧ 1 ≤ h := by
  have h1 := pieces_length_pos L
  rw [s.cc, flatten_len s.rows, s.hh]
  exact ⟨Nat.mul_pos s.w1 h1, h1⟩
theorem ScanA.byte {L : List UInt8} {i x h gw : Nat} {c : List UInt8} {b : UInt8} (s : ScanA L i x h gw c) (hb : L[i]? = some b) (hn : b ≠ 47) (hc : isCellB b = true) : ScanA L (i + 1) (x + 1) h gw (c ++ [b]) := by
  have hi : i < L.length := by
    rcases Nat.lt_or_ge i L.length with h | h
    · exact h
    · rw [List.getElem?_eq_none h] at hb; cases hb
  obtain ⟨hle, ⟨d, r, hp, hr, hd, hq, hcc, h1⟩, hv⟩ := s
  refine ⟨hi, ⟨d, r ++ [b], ?_, by simp [hr], hd, hq, by rw [hcc, List.append_assoc], h1⟩, ?_⟩
  · rw [take_snoc' hb, pieces_snoc, hp]
    unfold pushByte
    rw [if_neg hn]
    simp
  · intro x hx
    rcases List.mem_append.1 hx with hx | hx
    · exact hv x hx
    · rw [List.mem_singleton] at hx; rw [hx]; exact hc
theorem row_mem {d : List (List UInt8)} {r : List UInt8} {gw x h : Nat} (hr : r.length = x) (hd : d.length = h) (hq : ∀ q ∈ d, q.length = gw) (hx : h = 0 ∨ x = gw) : ∀ q ∈ d ++ [r], q.length = x := by
  intro q hm
  rcases List.mem_append.1 hm with hm | hm
  · rcases hx with rfl | rfl
    · rw [List.eq_nil_of_length_eq_zero hd] at hm; cases hm
    · exact hq q hm
  · rw [List.mem_singleton] at hm; rw [hm]; exact hr
theorem ScanA.slash {L : List UInt8} {i x h gw : Nat} {c : List UInt8} (s : ScanA L i x h gw c) (hb : L[i]? = some 47) (hx1 : 1 ≤ x) (hx : h = 0 ∨ x = gw) : ScanA L (i + 1) 0 (h + 1) x c := by
  have hi : i < L.length := by
    rcases Nat.lt_or_ge i L.length with h | h
    · exact h
    · rw [List.getElem?_eq_none h] at hb; cases hb
  obtain ⟨hle, ⟨d, r, hp, hr, hd, hq, hcc, h1⟩, hv⟩ := s
  refine ⟨hi, ⟨d ++ [r], [], ?_, rfl, by simp [hd], row_mem hr hd hq hx, by rw [hcc]; simp, fun _ => hx1⟩, hv⟩
  rw [take_snoc' hb, pieces_snoc, hp]
  unfold pushByte
  rw [if_pos rfl]
theorem ScanA.last {L : List UInt8} {x h gw : Nat} {c : List UInt8} (s : ScanA L L.length x h gw c) (hx1 : 1 ≤ x) (hx : h = 0 ∨ x = gw) : ScanB L (h + 1) x c := by
  obtain ⟨hle, ⟨d, r, hp, hr, hd, hq, hcc, h1⟩, hv⟩ := s
  rw [List.take_length] at hp
  exact ⟨by rw [hp]; simp [hd], by rw [hp]; exact row_mem hr hd hq hx, hx1, by rw [hp, hcc]; simp, hv⟩
theorem pieces_slash (u v : List UInt8) : pieces (u ++ 47 :: v) = pieces u ++ pieces v := by
  induction u with
  | nil => simp [pieces]
  | cons b u ih =>
    have hp := pieces_ne u
    rw [List.cons_append, pieces, pieces, ih]
    split
    · rfl
    · cases h : pieces u with
      | nil => exact absurd h hp
      | cons p q => simp
theorem not_cell {L : List UInt8} {i : Nat} {b : UInt8} (hb : L[i]? = some b) (hn : b ≠ 47) (hc : isCellB b = false) : ∀ w, ¬ OkR (pieces L) w := by
  intro w h
  have := h.cells b (flatten_pieces_mem (List.mem_of_getElem? hb) hn)
  rw [this] at hc; cases hc
/-- Where a row ends it is a row of the whole text. -/
theorem ScanA.bad {L : List UInt8} {i x h gw : Nat} {c : List UInt8} (s : ScanA L i x h gw c) (hb : i = L.length ∨ L[i]? = some 47) (hx : x = 0 ∨ (0 < h ∧ x ≠ gw)) : ∀ w, ¬ OkR (pieces L) w := by
  intro w hok
  obtain ⟨hle, ⟨d, r, hp, hr, hd, hq, hcc, h1⟩, hv⟩ := s
  have hsub : ∀ q ∈ d ++ [r], q ∈ pieces L := by
    rcases hb with rfl | hb
    · rw [List.take_length] at hp; rw [hp]; exact fun q h => h
    · have e : L = L.take i ++ 47 :: L.drop (i + 1) := by
        have h2 := List.take_append_drop (i + 1) L
        rw [take_snoc' hb] at h2
        simpa using h2.symm
      intro q hq
      rw [e, pieces_slash, hp]
      exact List.mem_append_left _ hq
  have hw := hok.w1
  have e1 := hok.rows r (hsub r (by simp))
  rcases hx with rfl | ⟨h0, hne⟩
  · omega
  · cases d with
    | nil => simp at hd; omega
    | cons q d' =>
      have e2 := hok.rows q (hsub q (by simp))
      have e3 := hq q (by simp)
      omega
theorem ScanB.okR {L : List UInt8} {h gw : Nat} {c : List UInt8} (s : ScanB L h gw c) (hw : gw ≤ 7) (hh : h ≤ 7) (h36 : c.length ≤ 36) (ho : onceB c = true) : OkR (pieces L) gw := by
  have hl := flatten_len s.rows
  refine ⟨s.w1, hw, by have := pieces_length_pos L; omega, by rw [← s.hh]; exact hh, ?_, s.rows, ?_, by rw [← s.cc]; exact ho⟩
  · rw [← hl, ← s.cc]; exact h36
  · intro b hb; rw [← s.cc] at hb; exact s.val b hb
theorem ScanB.bad {L : List UInt8} {h gw : Nat} {c : List UInt8} (s : ScanB L h gw c) (hb : 7 < gw ∨ 7 < h ∨ 36 < c.length ∨ onceB c = false) : ∀ w, ¬ OkR (pieces L) w := by
  intro w hok
  have hl := flatten_len s.rows
  have e1 : gw = w := by
    cases hp : pieces L with
    | nil => exact absurd hp (pieces_ne L)
    | cons q _ => rw [← s.rows q (by rw [hp]; simp), hok.rows q (by rw [hp]; simp)]
  have h1 := hok.w7
  have h2 := hok.h7
  have h3 := hok.c36
  have h4 := hok.once
  rw [s.cc, s.hh, e1] at hb
  rw [e1] at hl
  rcases hb with hb | hb | hb | hb
  · omega
  · omega
  · omega
  · rw [h4] at hb; cases hb
/-- No name twice, pair by pair. -/
def dupAt (c : List UInt8) (i j : Nat) : Bool := c.getD i 0 == c.getD j 0 && (97 ≤ c.getD i 0 && c.getD i 0 ≤ 102)
theorem count_le_one {c : List UInt8} {b : UInt8} (h : ∀ i j, j < i → i < c.length → ¬ (c.getD i 0 = b ∧ c.getD j 0 = b)) : c.count b ≤ 1 := by
  induction c with
  | nil => simp
  | cons a c ih =>
    have ih' := ih (fun i j hj hi => by
      have := h (i + 1) (j + 1) (by omega) (by simpa using hi)
      simpa using this)
    rw [List.count_cons]
    by_cases hab : a = b
    · have : c.count b = 0 := by
        rw [List.count_eq_zero]
        intro hm
        obtain ⟨i, hi, e⟩ := List.getElem_of_mem hm
        refine h (i + 1) 0 (by omega) (by simpa using hi) ⟨?_, by simpa using hab⟩
        simp [List.getD, hi, e]
      rw [this]
      split <;> omega
    · rw [if_neg (by simpa using hab)]
      exact ih'
theorem two_le_count {c : List UInt8} {b : UInt8} {i j : Nat} (hj : j < i) (hi : i < c.length) (h1 : c.getD i 0 = b) (h2 : c.getD j 0 = b) : 2 ≤ c.count b := by
  induction c generalizing i j with
  | nil => simp at hi
  | cons a c ih =>
    rw [List.count_cons]
    obtain ⟨i, rfl⟩ : ∃ i', i = i' + 1 := ⟨i - 1, by omega⟩
    have hi' : i < c.length := by simpa using hi
    have h1' : c.getD i 0 = b := by simpa using h1
    cases j with
    | zero =>
      have : 1 ≤ c.count b := by
        rw [Nat.succ_le_iff, List.count_pos_iff, ← h1']
        simp [List.getD, hi']
      have e : a = b := by simpa using h2
      rw [if_pos (by simpa using e)]
      omega
    | succ j =>
      have := ih (i := i) (j := j) (by omega) hi' h1' (by simpa using h2)
      omega
theorem once_of {c : List UInt8} (h : ∀ i j, j < i → i < c.length → dupAt c i j = false) : onceB c = true := by
  unfold onceB
  simp only [List.all_eq_true, decide_eq_true_eq]
  intro b hb
  refine count_le_one fun i j hj hi e => ?_
  have := h i j hj hi
  unfold dupAt at this
  rw [e.1, e.2] at this
  simp at hb
  rcases hb with rfl | rfl | rfl | rfl | rfl | rfl <;> simp at this
theorem not_once {c : List UInt8} {i j : Nat} (hj : j < i) (hi : i < c.length) (h : dupAt c i j = true) : onceB c = false := by
  unfold dupAt at h
  simp only [Bool.and_eq_true, beq_iff_eq, decide_eq_true_eq] at h
  obtain ⟨h1, h2, h3⟩ := h
  have hc := two_le_count hj hi rfl h1.symm
  rw [← Bool.not_eq_true]
  unfold onceB
  simp only [List.all_eq_true, decide_eq_true_eq]
  intro ha
  have hm : c.getD i 0 ∈ [(97 : UInt8), 98, 99, 100, 101, 102] := by
    generalize c.getD i 0 = b at h2 h3
    rw [UInt8.le_iff_toNat_le] at h2 h3
    have : b.toNat = 97 ∨ b.toNat = 98 ∨ b.toNat = 99 ∨ b.toNat = 100 ∨ b.toNat = 101 ∨ b.toNat = 102 := by
      simp at h2 h3; omega
    simp only [List.mem_cons, List.mem_nil_iff, or_false, ← UInt8.toNat_inj]
    simpa using this
  have := ha _ hm
  omega
end Go.Proofs.YthjkeohnjggmiaaDoor
