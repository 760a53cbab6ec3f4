/-
  Orders of forms, as plain mathematics: the cells behind the first numbers of a list, whether each can be added, and that all have been added exactly if there are as many as balls.
-/
import Derived.Test.YtdebiobhmpoiiaaDoorFormQ
namespace Go.Proofs.YtdebiobhmpoiiaaDoor
open Go.RowKit
/-- The cells behind the first k numbers of a list. -/
def orC (N : Nat) (L : List Int) : Nat → List UInt8
  | 0 => genC N fun _ => 46
  | k + 1 => (orC N L k).set (gi L k).toNat 111
/-- The ways of the numbers but the first one. -/
def orW (W H : Nat) (L : List Int) : Nat → List UInt8
  | 0 => []
  | k + 1 => if k = 0 then [] else orW W H L k ++ [(wyL W H (orC (nn W H) L k) (gi L k).toNat 4).headD 0]
/-- Number k can come behind those ahead of it. -/
def orB (W H : Nat) (B L : List Int) (k : Nat) : Bool := B.contains (gi L k) && (decide (k = 0) || canB W H (orC (nn W H) L k) (gi L k).toNat)
/-- All numbers can. -/
def orAll (W H : Nat) (B L : List Int) (k : Nat) : Bool := (List.range k).all fun i => orB W H B L i
theorem orAll_iff {W H : Nat} {B L : List Int} {k : Nat} : orAll W H B L k = true ↔ ∀ i, i < k → orB W H B L i = true := by
  unfold orAll
  rw [List.all_eq_true]
  exact ⟨fun h i hi => h i (List.mem_range.2 hi), fun h i hi => h i (List.mem_range.1 hi)⟩
theorem orC_length (N : Nat) (L : List Int) : ∀ k, (orC N L k).length = N
  | 0 => genC_length _ _
  | k + 1 => by rw [orC, List.length_set, orC_length N L k]
theorem mem_ballsO {p : UInt8 → Bool} {c : List UInt8} {x : Int} : ∀ {k : Nat}, x ∈ ballsTo p c k ↔ ∃ i : Nat, i < k ∧ x = i ∧ p (at0 c i) = true
  | 0 => ⟨fun h => (by cases h), fun ⟨i, h, _⟩ => absurd h (Nat.not_lt_zero _)⟩
  | k + 1 => by
    have ih := mem_ballsO (p := p) (c := c) (x := x) (k := k)
    rw [ballsTo]
    split
    · rename_i hp
      rw [List.mem_append, ih, List.mem_singleton]
      constructor
      · rintro (⟨i, hi, e, h⟩ | e)
        · exact ⟨i, by omega, e, h⟩
        · exact ⟨k, by omega, e, hp⟩
      · rintro ⟨i, hi, e, h⟩
        rcases Nat.lt_or_ge i k with h1 | h1
        · exact .inl ⟨i, h1, e, h⟩
        · obtain rfl : i = k := by omega
          exact .inr e
    · rename_i hp
      rw [ih]
      constructor
      · rintro ⟨i, hi, e, h⟩
        exact ⟨i, by omega, e, h⟩
      · rintro ⟨i, hi, e, h⟩
        rcases Nat.lt_or_ge i k with h1 | h1
        · exact ⟨i, h1, e, h⟩
        · obtain rfl : i = k := by omega
          exact absurd h hp
theorem balls_cnt {c : List UInt8} : ∀ {k : Nat}, (∀ i, i < k → foB (at0 c i) = true) → (ballsTo isBallB c k).length = cnt c 111 k
  | 0, _ => rfl
  | k + 1, h => by
    have ih := balls_cnt (c := c) (k := k) fun i hi => h i (by omega)
    have hk := h k (by omega)
    rw [ballsTo, cnt]
    unfold foB at hk
    rw [Bool.or_eq_true, beq_iff_eq, beq_iff_eq] at hk
    rcases hk with e | e
    · rw [e, if_neg (by decide), if_neg (by decide), ih, Nat.add_zero]
    · rw [e, if_pos (by decide), if_pos rfl, List.length_append, ih]; rfl
/-- A form's cells are told by where its balls stand. -/
theorem cnt_sub {a b : List UInt8} : ∀ n, (∀ j, j < n → at0 a j = 111 → at0 b j = 111) → cnt a 111 n ≤ cnt b 111 n ∧ (cnt a 111 n = cnt b 111 n → ∀ j, j < n → at0 b j = 111 → at0 a j = 111)
  | 0, _ => ⟨Nat.le_refl _, fun _ j hj => absurd hj (Nat.not_lt_zero _)⟩
  | n + 1, h => by
    obtain ⟨h1, h2⟩ := cnt_sub n fun j hj => h j (by omega)
    have hn := h n (by omega)
    rw [cnt, cnt]
    by_cases ha : at0 a n = 111
    · rw [if_pos ha, if_pos (hn ha)]
      refine ⟨by omega, fun e j hj hb => ?_⟩
      rcases Nat.lt_or_ge j n with h3 | h3
      · exact h2 (by omega) j h3 hb
      · obtain rfl : j = n := by omega
        exact ha
    · rw [if_neg ha]
      by_cases hb : at0 b n = 111
      · rw [if_pos hb]
        exact ⟨by omega, fun e => by omega⟩
      · rw [if_neg hb]
        refine ⟨by omega, fun e j hj hb2 => ?_⟩
        rcases Nat.lt_or_ge j n with h3 | h3
        · exact h2 (by omega) j h3 hb2
        · obtain rfl : j = n := by omega
          exact absurd hb2 hb
theorem fo_two {b : UInt8} (h : foB b = true) : b = 46 ∨ b = 111 := by
  unfold foB at h
  rw [Bool.or_eq_true, beq_iff_eq, beq_iff_eq] at h
  exact h
theorem at0_list {a b : List UInt8} (hl : a.length = b.length) (h : ∀ j, j < a.length → at0 a j = at0 b j) : a = b := by
  apply List.ext_getElem hl
  intro j h1 h2
  have := h j h1
  unfold at0 at this
  rw [List.getD_eq_getElem?_getD, List.getD_eq_getElem?_getD, List.getElem?_eq_getElem h1, List.getElem?_eq_getElem h2] at this
  exact this
theorem cnt_put {c : List UInt8} {i : Nat} (hi : i < c.length) (h : at0 c i = 46) : cnt (c.set i 111) 111 c.length = cnt c 111 c.length + 1 := by
  have e1 := cnt_all (c.set i 111) 111
  rw [List.length_set] at e1
  rw [e1, cnt_all, List.count_set hi]
  have e2 : c[i] = 46 := by
    unfold at0 at h
    rw [List.getD_eq_getElem?_getD, List.getElem?_eq_getElem hi] at h
    exact h
  rw [e2]
  simp
/-- What is known behind k numbers that can come one after another. -/
structure OrI (g : Grid) (L : List Int) (k : Nat) : Prop where
  fo : ∀ j, j < nn g.w g.h → foB (at0 (orC (nn g.w g.h) L k) j) = true
  sub : ∀ j, j < nn g.w g.h → at0 (orC (nn g.w g.h) L k) j = 111 → at0 g.c j = 111
  num : cnt (orC (nn g.w g.h) L k) 111 (nn g.w g.h) = k
def blO (g : Grid) : List Int := ballsTo isBallB g.c (nn g.w g.h)
theorem OrI.zero (g : Grid) (L : List Int) : OrI g L 0 where
  fo := fun j hj => by rw [orC, genC_at, if_pos hj]; rfl
  sub := fun j hj h => by rw [orC, genC_at, if_pos hj] at h; exact absurd h (by decide)
  num := by
    have : ∀ n, n ≤ nn g.w g.h → cnt (orC (nn g.w g.h) L 0) 111 n = 0 := by
      intro n
      induction n with
      | zero => exact fun _ => rfl
      | succ n ih =>
        intro h
        have e : at0 (orC (nn g.w g.h) L 0) n = 46 := by
          unfold orC
          rw [genC_at, if_pos (show n < nn g.w g.h by omega)]
        rw [cnt, ih (by omega), e, if_neg (by decide)]
    exact this _ (Nat.le_refl _)
/-- Where number k goes: a ball's cell that is free yet. -/
theorem OrI.at {g : Grid} {L : List Int} {k : Nat} (F : FormG g) (h : OrI g L k) (hb : orB g.w g.h (blO g) L k = true) : ∃ i : Nat, gi L k = i ∧ i < nn g.w g.h ∧ at0 g.c i = 111 ∧ at0 (orC (nn g.w g.h) L k) i = 46 := by
  unfold orB at hb
  rw [Bool.and_eq_true, List.contains_iff_mem] at hb
  obtain ⟨hm, hc⟩ := hb
  obtain ⟨i, hi, e, hp⟩ := mem_ballsO.1 hm
  have h111 : at0 g.c i = 111 := by
    rcases fo_two (F.all i (by rw [F.t.len]; exact hi)) with e | e
    · rw [e] at hp; exact absurd hp (by decide)
    · exact e
  refine ⟨i, e, hi, h111, ?_⟩
  rw [e] at hc
  rw [Bool.or_eq_true, decide_eq_true_eq] at hc
  rcases hc with e0 | hc
  · subst e0
    rw [orC, genC_at, if_pos hi]
  · exact can_free hc
theorem OrI.succ {g : Grid} {L : List Int} {k : Nat} (F : FormG g) (h : OrI g L k) (hb : orB g.w g.h (blO g) L k = true) : OrI g L (k + 1) := by
  obtain ⟨i, e, hi, h111, h46⟩ := h.at F hb
  have hl := orC_length (nn g.w g.h) L k
  have hs : orC (nn g.w g.h) L (k + 1) = (orC (nn g.w g.h) L k).set i 111 := by rw [orC, e]; rfl
  refine ⟨fun j hj => ?_, fun j hj => ?_, ?_⟩
  · rw [hs, at0_set _ _ _ _ (by rw [hl]; exact hi)]
    split
    · rfl
    · exact h.fo j hj
  · rw [hs, at0_set _ _ _ _ (by rw [hl]; exact hi)]
    split
    · rename_i e2; subst e2; exact fun _ => h111
    · exact h.sub j hj
  · have := cnt_put (c := orC (nn g.w g.h) L k) (i := i) (by rw [hl]; exact hi) h46
    rw [hl, h.num] at this
    rw [hs]
    exact this
theorem OrI.of {g : Grid} {L : List Int} (F : FormG g) : ∀ {k : Nat}, (∀ i, i < k → orB g.w g.h (blO g) L i = true) → OrI g L k
  | 0, _ => OrI.zero g L
  | k + 1, h => (OrI.of F fun i hi => h i (by omega)).succ F (h k (by omega))
/-- All of the form is there exactly behind as many numbers as balls. -/
theorem OrI.whole {g : Grid} {L : List Int} {k : Nat} (F : FormG g) (h : OrI g L k) : orC (nn g.w g.h) L k = g.c ↔ k = (blO g).length := by
  have hb : (blO g).length = cnt g.c 111 (nn g.w g.h) := balls_cnt fun i hi => F.all i (by rw [F.t.len]; exact hi)
  obtain ⟨h1, h2⟩ := cnt_sub (nn g.w g.h) h.sub
  rw [h.num] at h1 h2
  constructor
  · intro e
    rw [hb, ← h.num, e]
  · intro e
    have h3 := h2 (by rw [e, hb])
    refine at0_list (by rw [orC_length, F.t.len]) fun j hj => ?_
    rw [orC_length] at hj
    rcases fo_two (h.fo j hj) with ha | ha
    · rcases fo_two (F.all j (by rw [F.t.len]; exact hj)) with hc | hc
      · rw [ha, hc]
      · rw [h3 j hj hc] at ha
        exact absurd ha (by decide)
    · rw [ha, h.sub j hj ha]
theorem OrI.le {g : Grid} {L : List Int} {k : Nat} (F : FormG g) (h : OrI g L k) : k ≤ (blO g).length := by
  have hb : (blO g).length = cnt g.c 111 (nn g.w g.h) := balls_cnt fun i hi => F.all i (by rw [F.t.len]; exact hi)
  have := (cnt_sub (nn g.w g.h) h.sub).1
  rw [h.num] at this
  omega
/-- Nothing is there at the start alone. -/
theorem OrI.start {g : Grid} {L : List Int} {k : Nat} (h : OrI g L k) : orC (nn g.w g.h) L k = genC (nn g.w g.h) (fun _ => 46) ↔ k = 0 := by
  constructor
  · intro e
    have h0 := (OrI.zero g L).num
    rw [orC, ← e, h.num] at h0
    exact h0
  · rintro rfl
    rfl
/-! what an order is -/
def orOkG (g : Grid) (L : List Int) : Bool := orAll g.w g.h (blO g) L L.length && decide (L.length = (blO g).length)
theorem or_stop {g : Grid} {L : List Int} {k : Nat} (hk : k < L.length) (h : orB g.w g.h (blO g) L k = false) : orOkG g L = false := by
  unfold orOkG
  rw [Bool.and_eq_false_iff]
  left
  rw [← Bool.not_eq_true, orAll_iff]
  intro ha
  rw [ha k hk] at h
  cases h
theorem or_len {g : Grid} {L : List Int} (h : L.length ≠ (blO g).length) : orOkG g L = false := by
  unfold orOkG
  rw [decide_eq_false h, Bool.and_false]
theorem or_yes {g : Grid} {L : List Int} (h : ∀ i, i < L.length → orB g.w g.h (blO g) L i = true) (hl : L.length = (blO g).length) : orOkG g L = true := by
  unfold orOkG
  rw [orAll_iff.2 h, decide_eq_true hl]
  rfl
theorem or_in {g : Grid} {L : List Int} (F : FormG g) (h : orOkG g L = true) : ∀ i, i < L.length → ∃ j : Nat, gi L i = j ∧ j < nn g.w g.h := by
  unfold orOkG at h
  rw [Bool.and_eq_true, orAll_iff] at h
  intro i hi
  obtain ⟨j, e, hj, -, -⟩ := (OrI.of F (k := i) fun m hm => h.1 m (by omega)).at F (h.1 i hi)
  exact ⟨j, e, hj⟩
theorem orW_length (W H : Nat) (L : List Int) : ∀ k, (orW W H L k).length = k - 1
  | 0 => rfl
  | k + 1 => by
    rw [orW]
    split
    · rename_i e; subst e; rfl
    · rw [List.length_append, orW_length W H L k, List.length_singleton]; omega
/-! for a text -/
def odOk (l : List UInt8) (L : List Int) : Bool := fmOk l && orOkG (rdG l) L
def odB (l : List UInt8) (L : List Int) : ByteArray := if odOk l L then mkS (orW (rdG l).w (rdG l).h L L.length) else ByteArray.empty
/-- The list may be asked. -/
def odIn (l : List UInt8) (L : List Int) : Bool := fmOk l && (decide (L.length ≤ 10) && L.all fun x => inB x (nn (rdG l).w (rdG l).h))
theorem od_in {l : List UInt8} {g : Grid} {L : List Int} (F : FormG g) (hg : rdG l = g) (hf : fmOk l = true) (h : orOkG g L = true) : odIn l L = true := by
  have hin := or_in F h
  unfold odIn
  rw [hf, Bool.true_and, Bool.and_eq_true, decide_eq_true_eq, List.all_eq_true]
  refine ⟨?_, fun x hx => ?_⟩
  · unfold orOkG at h
    rw [Bool.and_eq_true, decide_eq_true_eq] at h
    rw [h.2]
    exact F.nb.2
  · obtain ⟨i, hi, e⟩ := List.getElem_of_mem hx
    obtain ⟨j, hj, hjn⟩ := hin i hi
    have : gi L i = x := by
      unfold gi
      rw [List.getD_eq_getElem?_getD, List.getElem?_eq_getElem hi, ← e]
      rfl
    rw [← this, hj, hg]
    exact inB_true.2 ⟨by omega, by omega⟩
end Go.Proofs.YtdebiobhmpoiiaaDoor
