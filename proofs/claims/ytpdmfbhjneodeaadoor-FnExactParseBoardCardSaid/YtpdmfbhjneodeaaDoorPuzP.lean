/-
  Puzzles as plain mathematics: what is read of one, the states of its tray, those in which it is solved, and its length.
-/
import Derived.Test.YtpdmfbhjneodeaaDoorBCe
import Derived.Test.YtpdmfbhjneodeaaDoorMachP
namespace Go.Proofs.YtpdmfbhjneodeaaDoor
open Go.RowKit
/-! a puzzle -/
def pzOk (g : Grid) (n : ByteArray) (z : Int) : Bool := nameS n && decide (0 ≤ ixC g.c (hd n) g.c.length) && (inB z g.c.length && !(at0 g.c z.toNat == 35))
/-- The tray, the ball and the goal of a puzzle. -/
def pzS (l : List UInt8) (n : ByteArray) (z : Int) : Option (Grid × UInt8 × Nat) := match parse l with
  | none => none
  | some g => if pzOk g n z then some (g, hd n, z.toNat) else none
structure Pz (l : List UInt8) (n : ByteArray) (z : Int) (g : Grid) (b : UInt8) (k : Nat) : Prop where
  pr : parse l = some g
  nm : nameS n = true
  hd : hd n = b
  n1 : n = ⟨#[b]⟩
  isN : isNameB b = true
  ix : 0 ≤ ixC g.c b g.c.length
  ze : z = k
  kl : k < g.c.length
  cell : at0 g.c k ≠ 35
theorem pz_some {l : List UInt8} {n : ByteArray} {z : Int} {g : Grid} {b : UInt8} {k : Nat} (h : pzS l n z = some (g, b, k)) : Pz l n z g b k := by
  unfold pzS at h
  cases hp : parse l with
  | none => rw [hp] at h; cases h
  | some x =>
    rw [hp] at h
    have h' : (if pzOk x n z then some (x, hd n, z.toNat) else none) = some (g, b, k) := h
    split at h'
    · rename_i ho
      cases h'
      unfold pzOk at ho
      simp only [Bool.and_eq_true, decide_eq_true_eq, Bool.not_eq_true', beq_eq_false_iff_ne] at ho
      obtain ⟨⟨h1, h2⟩, h3, h4⟩ := ho
      have h1' := h1
      unfold nameS at h1'
      rw [Bool.and_eq_true, decide_eq_true_eq] at h1'
      obtain ⟨h5, h6⟩ := inB_true.1 h3
      exact ⟨hp, h1, rfl, one_of n h1'.1, h1'.2, h2, by omega, by omega, h4⟩
    · cases h'
theorem pz_tray {l : List UInt8} {n : ByteArray} {z : Int} {g : Grid} {b : UInt8} {k : Nat} (h : Pz l n z g b k) : Cel g ∧ 1 ≤ g.w ∧ 1 ≤ g.h ∧ 0 < g.c.length := cel_of h.pr
/-! a name stands once -/
theorem cnt_ge {c : List UInt8} {b : UInt8} {i : Nat} (hb : at0 c i = b) : ∀ n, i < n → 1 ≤ cnt c b n
  | 0, h => absurd h (Nat.not_lt_zero _)
  | n + 1, h => by
    rw [cnt]
    by_cases e : i = n
    · subst e; rw [if_pos hb]; omega
    · have := cnt_ge hb n (by omega); omega
theorem cnt_ge2 {c : List UInt8} {b : UInt8} {i j : Nat} (hi : at0 c i = b) (hj : at0 c j = b) (hij : i < j) : ∀ n, j < n → 2 ≤ cnt c b n
  | 0, h => absurd h (Nat.not_lt_zero _)
  | n + 1, h => by
    rw [cnt]
    by_cases e : j = n
    · subst e; rw [if_pos hj]; have := cnt_ge hi j hij; omega
    · have := cnt_ge2 hi hj hij n (by omega); omega
theorem cnt_no {c : List UInt8} {b : UInt8} : ∀ n, (∀ j, j < n → at0 c j ≠ b) → cnt c b n = 0
  | 0, _ => rfl
  | n + 1, h => by rw [cnt, if_neg (h n (Nat.lt_succ_self n)), cnt_no n fun j hj => h j (by omega)]
theorem ix_cnt (c : List UInt8) (b : UInt8) (n : Nat) : decide (0 ≤ ixC c b n) = !(cnt c b n == 0) := by
  rcases ixC_cases c b n with ⟨h1, h2⟩ | ⟨k, h1, h2, h3, -⟩
  · rw [h1, cnt_no n h2]; rfl
  · have := cnt_ge h3 n h1
    rw [h2, decide_eq_true (by omega)]
    cases hc : (cnt c b n == 0) with
    | false => rfl
    | true => rw [beq_iff_eq] at hc; omega
theorem ix_iff {c : List UInt8} {b : UInt8} {n k : Nat} (hc : cnt c b n ≤ 1) (hk : k < n) : ixC c b n = (k : Int) ↔ at0 c k = b := by
  rcases ixC_cases c b n with ⟨h1, h2⟩ | ⟨j, h1, h2, h3, h4⟩
  · rw [h1]
    exact ⟨fun h => by omega, fun h => absurd h (h2 k hk)⟩
  · rw [h2]
    constructor
    · intro h
      obtain rfl : j = k := by omega
      exact h3
    · intro h
      rcases Nat.lt_trichotomy j k with hjk | hjk | hjk
      · have := cnt_ge2 h3 h hjk n hk; omega
      · rw [hjk]
      · exact absurd h (h4 k hjk)
theorem once_cnt {l : List UInt8} {g : Grid} (h : parse l = some g) {b : UInt8} (hb : isNameB b = true) : cnt g.c b g.c.length ≤ 1 := by
  obtain ⟨k, -, hc⟩ := parse_some h
  have ho := k.once
  rw [cnt_all, hc]
  unfold onceB at ho
  rw [List.all_eq_true] at ho
  unfold isNameB at hb
  rw [Bool.and_eq_true, decide_eq_true_eq, decide_eq_true_eq] at hb
  have h1 : (97 : UInt8).toNat ≤ b.toNat := hb.1
  have h2 : b.toNat ≤ (102 : UInt8).toNat := hb.2
  have h1' : 97 ≤ b.toNat := h1
  have h2' : b.toNat ≤ 102 := h2
  have hm : b ∈ ([97, 98, 99, 100, 101, 102] : List UInt8) := by
    have e : b = UInt8.ofNat b.toNat := by simp
    have hx : b.toNat = 97 ∨ b.toNat = 98 ∨ b.toNat = 99 ∨ b.toNat = 100 ∨ b.toNat = 101 ∨ b.toNat = 102 := by omega
    rcases hx with h | h | h | h | h | h <;> rw [e, h] <;> decide
  exact of_decide_eq_true (ho b hm)
/-- The first state of the list in which the ball stands in the goal, or none. -/
def fsS (S : List (Sta Grid)) (b : UInt8) (k : Nat) : Option Nat := (List.range S.length).find? fun j => at0 (sta S j).t.c k == b
theorem fsS_some {S : List (Sta Grid)} {b : UInt8} {k j : Nat} (h : fsS S b k = some j) : j < S.length ∧ at0 (sta S j).t.c k = b ∧ ∀ i, i < j → at0 (sta S i).t.c k ≠ b := by
  unfold fsS at h
  rw [List.find?_range_eq_some] at h
  obtain ⟨h1, h2, h3⟩ := h
  refine ⟨List.mem_range.1 h2, beq_iff_eq.1 h1, fun i hi => ?_⟩
  have := h3 i hi
  simpa using this
theorem fsS_none {S : List (Sta Grid)} {b : UInt8} {k : Nat} (h : fsS S b k = none) : ∀ j, j < S.length → at0 (sta S j).t.c k ≠ b := by
  unfold fsS at h
  rw [List.find?_eq_none] at h
  intro j hj
  have := h j (List.mem_range.2 hj)
  simpa using this
theorem fsS_of {S : List (Sta Grid)} {b : UInt8} {k j : Nat} (hj : j < S.length) (h1 : at0 (sta S j).t.c k = b) (h2 : ∀ i, i < j → at0 (sta S i).t.c k ≠ b) : fsS S b k = some j := by
  cases hf : fsS S b k with
  | none => exact absurd h1 (fsS_none hf j hj)
  | some m =>
    obtain ⟨a1, a2, a3⟩ := fsS_some hf
    rcases Nat.lt_trichotomy m j with h | h | h
    · exact absurd a2 (h2 m h)
    · rw [h]
    · exact absurd h1 (a3 j h)
theorem fsS_no {S : List (Sta Grid)} {b : UInt8} {k : Nat} (h : ∀ j, j < S.length → at0 (sta S j).t.c k ≠ b) : fsS S b k = none := by
  cases hf : fsS S b k with
  | none => rfl
  | some m =>
    obtain ⟨a1, a2, -⟩ := fsS_some hf
    exact absurd a2 (h m a1)
/-- The states and the first solved one, if a puzzle can be solved. -/
def slvG (g : Grid) (b : UInt8) (k : Nat) : Option (List (Sta Grid) × Nat) := match reachS tiltG g with
  | none => none
  | some S => match fsS S b k with
    | none => none
    | some j => if (sta S j).far ≤ 40 then some (S, j) else none
def slvS (l : List UInt8) (n : ByteArray) (z : Int) : Option (List (Sta Grid) × UInt8 × Nat × Nat) := match pzS l n z with
  | none => none
  | some (g, b, k) => (slvG g b k).map fun p => (p.1, b, k, p.2)
theorem slvG_some {g : Grid} {b : UInt8} {k j : Nat} {S : List (Sta Grid)} (h : slvG g b k = some (S, j)) : reachS tiltG g = some S ∧ fsS S b k = some j ∧ (sta S j).far ≤ 40 := by
  unfold slvG at h
  cases hr : reachS tiltG g with
  | none => rw [hr] at h; cases h
  | some T =>
    rw [hr] at h
    cases hf : fsS T b k with
    | none => simp [hf] at h
    | some m =>
      simp only [hf] at h
      split at h
      · rename_i hle
        cases h
        exact ⟨rfl, hf, hle⟩
      · cases h
theorem slvS_some {l : List UInt8} {n : ByteArray} {z : Int} {S : List (Sta Grid)} {b : UInt8} {k j : Nat} (h : slvS l n z = some (S, b, k, j)) :
    ∃ g, pzS l n z = some (g, b, k) ∧ slvG g b k = some (S, j) := by
  unfold slvS at h
  cases hp : pzS l n z with
  | none => rw [hp] at h; cases h
  | some x =>
    obtain ⟨g, c, m⟩ := x
    rw [hp] at h
    cases hs : slvG g c m with
    | none => simp [hs] at h
    | some y =>
      obtain ⟨T, i⟩ := y
      simp only [hs, Option.map_some, Option.some.injEq, Prod.mk.injEq] at h
      obtain ⟨rfl, rfl, rfl, rfl⟩ := h
      exact ⟨g, rfl, hs⟩
theorem slvG_rc {l : List UInt8} {g : Grid} (hp : parse l = some g) : rcS l = reachS tiltG g := by unfold rcS; rw [hp]
/-- The numbers of the states below m to which solutions lead. -/
def sdTo (S : List (Sta Grid)) (b : UInt8) (k far : Nat) (m : Nat) : List Nat := (List.range m).filter fun j => decide ((sta S j).far = far) && (at0 (sta S j).t.c k == b)
theorem sdTo_succ (S : List (Sta Grid)) (b : UInt8) (k far m : Nat) : sdTo S b k far (m + 1) = if ((sta S m).far = far ∧ at0 (sta S m).t.c k = b) then sdTo S b k far m ++ [m] else sdTo S b k far m := by
  unfold sdTo
  rw [List.range_succ, List.filter_append]
  by_cases h : (sta S m).far = far ∧ at0 (sta S m).t.c k = b
  · rw [if_pos h]
    simp [h.1, h.2]
  · rw [if_neg h]
    have : (decide ((sta S m).far = far) && (at0 (sta S m).t.c k == b)) = false := by
      rw [Bool.and_eq_false_iff, decide_eq_false_iff_not, beq_eq_false_iff_ne]
      by_cases h1 : (sta S m).far = far
      · exact .inr fun h2 => h ⟨h1, h2⟩
      · exact .inl h1
    simp [this]
theorem sdTo_le (S : List (Sta Grid)) (b : UInt8) (k far m : Nat) : (sdTo S b k far m).length ≤ m := by
  unfold sdTo
  exact Nat.le_trans (List.length_filter_le _ _) (by simp)
theorem sdTo_lt {S : List (Sta Grid)} {b : UInt8} {k far m j : Nat} (h : j ∈ sdTo S b k far m) : j < m := by
  unfold sdTo at h
  exact List.mem_range.1 (List.mem_filter.1 h).1
/-- Before the first solved state there is none. -/
theorem sdTo_head {S : List (Sta Grid)} {b : UInt8} {k j : Nat} (h : fsS S b k = some j) : ∃ r, sdTo S b k (sta S j).far S.length = j :: r := by
  obtain ⟨h1, h2, h3⟩ := fsS_some h
  have z : ∀ m, m ≤ j → sdTo S b k (sta S j).far m = [] := by
    intro m
    induction m with
    | zero => intro _; rfl
    | succ m ih =>
      intro hm
      rw [sdTo_succ, if_neg fun e => h3 m (by omega) e.2, ih (by omega)]
  have s : ∀ m, ∃ r, sdTo S b k (sta S j).far (j + 1 + m) = j :: r := by
    intro m
    induction m with
    | zero =>
      refine ⟨[], ?_⟩
      rw [Nat.add_zero, sdTo_succ, if_pos ⟨rfl, h2⟩, z j (Nat.le_refl _)]
      rfl
    | succ m ih =>
      obtain ⟨r, hr⟩ := ih
      rw [show j + 1 + (m + 1) = (j + 1 + m) + 1 by omega, sdTo_succ]
      by_cases h : (sta S (j + 1 + m)).far = (sta S j).far ∧ at0 (sta S (j + 1 + m)).t.c k = b
      · rw [if_pos h, hr]; exact ⟨r ++ [j + 1 + m], rfl⟩
      · rw [if_neg h]; exact ⟨r, hr⟩
  obtain ⟨r, hr⟩ := s (S.length - (j + 1))
  rw [show j + 1 + (S.length - (j + 1)) = S.length by omega] at hr
  exact ⟨r, hr⟩
/-- As many words as lead to the states below m, as the machine counts. -/
def sdSum (S : List (Sta Grid)) (b : UInt8) (k far : Nat) : Nat → Int
  | 0 => 0
  | m + 1 => if ((sta S m).far = far ∧ at0 (sta S m).t.c k = b) then wrap64 (sdSum S b k far m + (sta S m).words) else sdSum S b k far m
end Go.Proofs.YtpdmfbhjneodeaaDoor
