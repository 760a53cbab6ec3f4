/-
  Plain maths: how often a permutation is done until all comes back: the least common multiple of its cycles' lengths.
-/
import Derived.Test.YtbppbbkcampglaaGreatDoorMachC
namespace Go.Proofs.YtbppbbkcampglaaGreatDoor
open Go.RowKit
/-- Where a number comes to behind t times. -/
def itp (p : List Nat) : Nat → Nat → Nat
  | 0, i => i
  | t + 1, i => p.getD (itp p t i) 0
theorem itp_add (p : List Nat) (a b i : Nat) : itp p (a + b) i = itp p a (itp p b i) := by
  induction a with
  | zero => rw [Nat.zero_add]; rfl
  | succ a ih => rw [show a + 1 + b = (a + b) + 1 by omega]; show p.getD (itp p (a + b) i) 0 = p.getD (itp p a (itp p b i)) 0; rw [ih]
/-- A permutation of the numbers below its length. -/
structure Prm (p : List Nat) : Prop where
  lt : ∀ i, i < p.length → p.getD i 0 < p.length
  inj : ∀ i j, i < p.length → j < p.length → p.getD i 0 = p.getD j 0 → i = j
section
variable {p : List Nat} (h : Prm p)
include h
theorem itp_lt (t : Nat) {i : Nat} (hi : i < p.length) : itp p t i < p.length := by
  induction t with
  | zero => exact hi
  | succ t ih => exact h.lt _ ih
end
/-- The numbers that come one after the other. -/
def trk (p : List Nat) (c r : Nat) : List Nat := (List.range r).map fun j => itp p j c
theorem trk_length (p : List Nat) (c r : Nat) : (trk p c r).length = r := by simp [trk]
theorem trk_succ (p : List Nat) (c r : Nat) : trk p c (r + 1) = trk p c r ++ [itp p r c] := by unfold trk; rw [List.range_succ, List.map_append]; rfl
theorem trk_mem {p : List Nat} {c r x : Nat} : x ∈ trk p c r ↔ ∃ j, j < r ∧ itp p j c = x := by
  unfold trk
  rw [List.mem_map]
  exact ⟨fun ⟨j, h1, h2⟩ => ⟨j, List.mem_range.1 h1, h2⟩, fun ⟨j, h1, h2⟩ => ⟨j, List.mem_range.2 h1, h2⟩⟩
theorem trk_nodup {p : List Nat} {c r : Nat} (h : (trk p c r).Nodup) {i j : Nat} (hi : i < r) (hj : j < r) (e : itp p i c = itp p j c) : i = j := by
  have h1 : (trk p c r)[i]? = some (itp p i c) := by unfold trk; rw [List.getElem?_map, List.getElem?_range hi]; rfl
  have h2 : (trk p c r)[j]? = some (itp p j c) := by unfold trk; rw [List.getElem?_map, List.getElem?_range hj]; rfl
  have hl := trk_length p c r
  rw [List.getElem?_eq_getElem (by omega)] at h1 h2
  exact (List.getElem_inj h).1 (by rw [Option.some.inj h1, Option.some.inj h2, e])
/-- What holds of those that are told, and of the cycles. -/
structure CySt (p Q : List Nat) (L : List (List Nat)) : Prop where
  inv : CyI p.length Q
  cyc : ∀ C ∈ L, ∃ c l, c < p.length ∧ 0 < l ∧ C = trk p c l ∧ itp p l c = c ∧ C.Nodup ∧ ∀ x ∈ C, x ∈ Q
  mem : ∀ q ∈ Q, ∃ C ∈ L, q ∈ C
/-- Each that is told comes from one that is told. -/
theorem CySt.pre {p Q : List Nat} {L : List (List Nat)} (h : CySt p Q L) {q : Nat} (hq : q ∈ Q) : ∃ q' ∈ Q, p.getD q' 0 = q := by
  obtain ⟨C, hC, hqC⟩ := h.mem q hq
  obtain ⟨c, l, hc, hl, rfl, hll, -, hsub⟩ := h.cyc C hC
  obtain ⟨j, hj, rfl⟩ := trk_mem.1 hqC
  rcases Nat.eq_zero_or_pos j with rfl | hj0
  · refine ⟨itp p (l - 1) c, hsub _ (trk_mem.2 ⟨l - 1, by omega, rfl⟩), ?_⟩
    have e : itp p ((l - 1) + 1) c = c := by rw [show l - 1 + 1 = l by omega]; exact hll
    exact e
  · refine ⟨itp p (j - 1) c, hsub _ (trk_mem.2 ⟨j - 1, by omega, rfl⟩), ?_⟩
    show itp p ((j - 1) + 1) c = itp p j c
    rw [show j - 1 + 1 = j by omega]
theorem cyW_cyc {p Q : List Nat} {L : List (List Nat)} (hp : Prm p) (h : CySt p Q L) {k : Nat} (hk : k < p.length) (hkQ : k ∉ Q) :
    ∀ (f r : Nat), CyI p.length (Q ++ trk p k r) → f + Q.length + r = p.length → ∃ l, 0 < l ∧ cyW p f (Q ++ trk p k r) (itp p r k) = Q ++ trk p k l ∧ CyI p.length (Q ++ trk p k l) ∧ itp p l k = k := by
  have key : ∀ r, CyI p.length (Q ++ trk p k r) → itp p r k ∈ Q ++ trk p k r → 0 < r ∧ itp p r k = k := by
    intro r hI hm
    have hnd := hI.nd
    rw [List.nodup_append] at hnd
    obtain ⟨-, hndT, hdis⟩ := hnd
    have hr0 : 0 < r := by
      rcases Nat.eq_zero_or_pos r with rfl | h0
      · rw [show trk p k 0 = [] from rfl, List.append_nil] at hm
        exact absurd hm hkQ
      · exact h0
    refine ⟨hr0, ?_⟩
    have hstep : itp p r k = p.getD (itp p (r - 1) k) 0 := by
      show _ = itp p ((r - 1) + 1) k
      rw [show r - 1 + 1 = r by omega]
    have hl1 := itp_lt hp (r - 1) hk
    rcases List.mem_append.1 hm with hq | hT
    · obtain ⟨q', hq', e⟩ := h.pre hq
      have := hp.inj _ _ (h.inv.lt q' hq') hl1 (e.trans hstep)
      exact absurd this (hdis q' hq' (itp p (r - 1) k) (trk_mem.2 ⟨r - 1, by omega, rfl⟩))
    · obtain ⟨s, hs, e⟩ := trk_mem.1 hT
      rcases Nat.eq_zero_or_pos s with rfl | hs0
      · exact e.symm
      · have e2 : itp p s k = p.getD (itp p (s - 1) k) 0 := by
          show _ = itp p ((s - 1) + 1) k
          rw [show s - 1 + 1 = s by omega]
        have := hp.inj _ _ (itp_lt hp (s - 1) hk) hl1 (e2.symm.trans (e.trans hstep))
        have := trk_nodup hndT (by omega) (by omega) this
        omega
  intro f
  induction f with
  | zero =>
    intro r hI hf
    have hm : itp p r k ∈ Q ++ trk p k r := Classical.byContradiction fun hn => by
      have := hI.room (itp_lt hp r hk) hn
      rw [List.length_append, trk_length] at this
      omega
    obtain ⟨h0, e⟩ := key r hI hm
    exact ⟨r, h0, rfl, hI, e⟩
  | succ f ih =>
    intro r hI hf
    by_cases hm : itp p r k ∈ Q ++ trk p k r
    · obtain ⟨h0, e⟩ := key r hI hm
      exact ⟨r, h0, by rw [cyW, if_pos hm], hI, e⟩
    · have hI2 := hI.add (itp_lt hp r hk) hm
      rw [List.append_assoc, ← trk_succ] at hI2
      obtain ⟨l, hl, e1, e2, e3⟩ := ih (r + 1) hI2 (by omega)
      refine ⟨l, hl, ?_, e2, e3⟩
      rw [cyW, if_neg hm, List.append_assoc, ← trk_succ]
      exact e1
theorem cySt_all {p : List Nat} (hp : Prm p) (k : Nat) (hk : k ≤ p.length) : CySt p (cyQ p k) (cyL p k) ∧ ∀ i, i < k → i ∈ cyQ p k := by
  induction k with
  | zero => exact ⟨⟨⟨List.nodup_nil, fun q hq => (by cases hq)⟩, fun C hC => (by cases hC), fun q hq => (by cases hq)⟩, fun i hi => absurd hi (Nat.not_lt_zero _)⟩
  | succ k ih =>
    obtain ⟨i1, i2⟩ := ih (by omega)
    by_cases hkq : k ∈ cyQ p k
    · obtain ⟨e1, e2⟩ := cyL_skip hkq
      rw [e1, e2]
      refine ⟨i1, fun i hi => ?_⟩
      rcases Nat.lt_or_ge i k with h | h
      · exact i2 i h
      · rw [show i = k by omega]; exact hkq
    · have hle := i1.inv.le
      obtain ⟨l, hl, e1, e2, e3⟩ := cyW_cyc hp i1 hk hkq (p.length - (cyQ p k).length) 0 (by rw [show trk p k 0 = [] from rfl, List.append_nil]; exact i1.inv) (by omega)
      rw [show trk p k 0 = [] from rfl, List.append_nil] at e1
      obtain ⟨f1, f2⟩ := cyL_add hkq (show cyN p (cyQ p k) k = cyQ p k ++ trk p k l from e1)
      rw [f1, f2]
      have hnd := e2.nd
      rw [List.nodup_append] at hnd
      refine ⟨⟨e2, fun C hC => ?_, fun q hq => ?_⟩, fun i hi => ?_⟩
      · rcases List.mem_append.1 hC with hC | hC
        · obtain ⟨c, m, a1, a2, a3, a4, a5, a6⟩ := i1.cyc C hC
          exact ⟨c, m, a1, a2, a3, a4, a5, fun x hx => List.mem_append_left _ (a6 x hx)⟩
        · rw [List.mem_singleton] at hC
          subst hC
          exact ⟨k, l, hk, hl, rfl, e3, hnd.2.1, fun x hx => List.mem_append_right _ hx⟩
      · rcases List.mem_append.1 hq with hq | hq
        · obtain ⟨C, hC, hm⟩ := i1.mem q hq
          exact ⟨C, List.mem_append_left _ hC, hm⟩
        · exact ⟨_, List.mem_append_right _ (List.mem_singleton.2 rfl), hq⟩
      · rcases Nat.lt_or_ge i k with h | h
        · exact List.mem_append_left _ (i2 i h)
        · rw [show i = k by omega]; exact List.mem_append_right _ (trk_mem.2 ⟨0, hl, rfl⟩)
theorem itp_mul {p : List Nat} {c l : Nat} (h : itp p l c = c) (n : Nat) : itp p (l * n) c = c := by
  induction n with
  | zero => rfl
  | succ n ih => rw [Nat.mul_succ, itp_add, h, ih]
theorem cyc_dvd {p : List Nat} {c l t : Nat} (hl : 0 < l) (h : itp p l c = c) (hnd : (trk p c l).Nodup) : itp p t c = c ↔ l ∣ t := by
  have e : itp p t c = itp p (t % l) c := by
    conv => lhs; rw [← Nat.mod_add_div t l]
    rw [itp_add, itp_mul h]
  have hr := Nat.mod_lt t hl
  constructor
  · intro ht
    have := trk_nodup hnd hr hl (show itp p (t % l) c = itp p 0 c from by rw [← e, ht]; rfl)
    exact Nat.dvd_of_mod_eq_zero this
  · intro ht
    rw [e, Nat.mod_eq_zero_of_dvd ht]
    rfl
/-- All comes back behind t times exactly if each cycle's length is a divisor of t. -/
theorem back_iff {p : List Nat} (hp : Prm p) (t : Nat) : (∀ i, i < p.length → itp p t i = i) ↔ ∀ C ∈ cyL p p.length, C.length ∣ t := by
  obtain ⟨hS, hA⟩ := cySt_all hp p.length (Nat.le_refl _)
  constructor
  · intro h C hC
    obtain ⟨c, l, hc, hl, rfl, hll, hnd, -⟩ := hS.cyc C hC
    rw [trk_length]
    exact (cyc_dvd hl hll hnd).1 (h c hc)
  · intro h i hi
    obtain ⟨C, hC, hm⟩ := hS.mem i (hA i hi)
    obtain ⟨c, l, hc, hl, rfl, hll, hnd, -⟩ := hS.cyc C hC
    have h1 := h _ hC
    rw [trk_length] at h1
    have h2 := (cyc_dvd (t := t) hl hll hnd).2 h1
    obtain ⟨j, hj, rfl⟩ := trk_mem.1 hm
    rw [← itp_add, Nat.add_comm, itp_add, h2]
/-- The least common multiple of the first j lengths. -/
def ordTo (L : List (List Int)) : Nat → Nat
  | 0 => 1
  | j + 1 => Nat.lcm (ordTo L j) (L.getD j []).length
theorem ordTo_dvd (L : List (List Int)) (j t : Nat) : ordTo L j ∣ t ↔ ∀ i, i < j → (L.getD i []).length ∣ t := by
  induction j with
  | zero => exact ⟨fun _ i hi => absurd hi (Nat.not_lt_zero _), fun _ => Nat.one_dvd t⟩
  | succ j ih =>
    unfold ordTo
    constructor
    · intro h i hi
      have h1 := Nat.dvd_trans (Nat.dvd_lcm_left _ _) h
      have h2 := Nat.dvd_trans (Nat.dvd_lcm_right _ _) h
      rcases Nat.lt_or_ge i j with h' | h'
      · exact ih.1 h1 i h'
      · rw [show i = j by omega]; exact h2
    · intro h
      exact Nat.lcm_dvd (ih.2 fun i hi => h i (by omega)) (h j (by omega))
theorem lt_pow2 (n : Nat) : n ≤ 2 ^ n := Nat.le_of_lt Nat.lt_two_pow_self
theorem ordTo_le (L : List (List Int)) (j : Nat) : ordTo L j ≤ 2 ^ ((L.take j).map List.length).sum := by
  induction j with
  | zero => exact Nat.le_refl _
  | succ j ih =>
    unfold ordTo
    have h1 : Nat.lcm (ordTo L j) (L.getD j []).length ≤ ordTo L j * (L.getD j []).length := Nat.div_le_self _ _
    rcases Nat.lt_or_ge j L.length with h | h
    · rw [List.take_add_one, List.getElem?_eq_getElem h, List.map_append, List.sum_append]
      have e : L.getD j [] = L[j] := by rw [List.getD_eq_getElem?_getD, List.getElem?_eq_getElem h]; rfl
      rw [e] at h1 ⊢
      have h2 : ordTo L j * L[j].length ≤ 2 ^ ((L.take j).map List.length).sum * 2 ^ L[j].length := Nat.mul_le_mul ih (lt_pow2 _)
      rw [← Nat.pow_add] at h2
      have h3 : (List.map List.length (some L[j]).toList).sum = L[j].length := by simp
      rw [h3]
      omega
    · have e : L.getD j [] = [] := by rw [List.getD_eq_getElem?_getD, List.getElem?_eq_none h]; rfl
      rw [e]
      show Nat.lcm (ordTo L j) 0 ≤ _
      rw [Nat.lcm_zero_right]
      exact Nat.zero_le _
theorem ordTo_pos {L : List (List Int)} (h : ∀ i, i < L.length → 0 < (L.getD i []).length) (j : Nat) (hj : j ≤ L.length) : 0 < ordTo L j := by
  induction j with
  | zero => exact Nat.one_pos
  | succ j ih => exact Nat.lcm_pos (ih (by omega)) (h j (by omega))
/-- What is left is divided. -/
theorem lcm_eq (a b : Nat) : a / Nat.gcd a b * b = Nat.lcm a b := by
  unfold Nat.lcm
  rw [Nat.div_mul_right_comm (Nat.gcd_dvd_left a b)]
/-- The order of a permutation. -/
def ordP (p : List Nat) : Nat := ordTo (zzz (cyL p p.length)) (zzz (cyL p p.length)).length
theorem ordP_dvd {p : List Nat} (hp : Prm p) (t : Nat) : ordP p ∣ t ↔ ∀ i, i < p.length → itp p t i = i := by
  rw [back_iff hp, ordP, ordTo_dvd, zzz_length]
  have e : ∀ i, i < (cyL p p.length).length → ((zzz (cyL p p.length)).getD i []).length = ((cyL p p.length).getD i []).length := by
    intro i hi
    unfold zzz
    rw [List.getD_eq_getElem?_getD, List.getD_eq_getElem?_getD, List.getElem?_map, List.getElem?_eq_getElem hi]
    exact zz_length _
  constructor
  · intro h C hC
    obtain ⟨i, hi, rfl⟩ := List.getElem_of_mem hC
    have := h i hi
    rw [e i hi, List.getD_eq_getElem?_getD, List.getElem?_eq_getElem hi] at this
    exact this
  · intro h i hi
    rw [e i hi, List.getD_eq_getElem?_getD, List.getElem?_eq_getElem hi]
    exact h _ (List.getElem_mem hi)
theorem ordP_pos {p : List Nat} (hp : Prm p) : 0 < ordP p := by
  obtain ⟨hS, -⟩ := cySt_all hp p.length (Nat.le_refl _)
  refine ordTo_pos (fun i hi => ?_) _ (Nat.le_refl _)
  rw [zzz_length] at hi
  obtain ⟨c, l, hc, hl, e, -⟩ := hS.cyc _ (List.getElem_mem hi)
  unfold zzz
  rw [List.getD_eq_getElem?_getD, List.getElem?_map, List.getElem?_eq_getElem hi]
  show 0 < (zz ((cyL p p.length)[i])).length
  rw [zz_length, e, trk_length]
  exact hl
theorem ordP_le {p : List Nat} (hp : Prm p) (h36 : p.length ≤ 36) (j : Nat) : ordTo (zzz (cyL p p.length)) j ≤ 2 ^ 36 := by
  refine Nat.le_trans (ordTo_le _ j) (Nat.pow_le_pow_right (by decide) ?_)
  have h1 := kAt_le (zzz (cyL p p.length)) 0 j
  have h2 := (cyL_all hp.lt h36).2
  unfold kAt at h1
  omega
/-! balls that change places -/
/-- The first j balls at their next places. -/
def arTo (p a : List Nat) : Nat → List Nat
  | 0 => List.replicate 36 0
  | j + 1 => (arTo p a j).set (p.getD j 0) (a.getD j 0)
theorem arTo_length (p a : List Nat) (j : Nat) : (arTo p a j).length = 36 := by
  induction j with
  | zero => simp [arTo]
  | succ j ih => unfold arTo; simp [ih]
def arN (p a : List Nat) : List Nat := arTo p a p.length
/-- Each ball at the place of its number. -/
def stTo : Nat → List Nat
  | 0 => List.replicate 36 0
  | j + 1 => (stTo j).set j j
theorem stTo_length (j : Nat) : (stTo j).length = 36 := by
  induction j with
  | zero => simp [stTo]
  | succ j ih => unfold stTo; simp [ih]
theorem rep_getD (n i : Nat) : (List.replicate n 0).getD i 0 = 0 := by
  rw [List.getD_eq_getElem?_getD, List.getElem?_replicate]
  split <;> rfl
theorem stTo_at (j : Nat) (hj : j ≤ 36) (i : Nat) : (stTo j).getD i 0 = if i < j then i else 0 := by
  induction j with
  | zero => rw [if_neg (Nat.not_lt_zero _)]; exact rep_getD 36 i
  | succ j ih =>
    unfold stTo
    rw [getD_set_nat _ _ _ _ (by rw [stTo_length]; omega), ih (by omega)]
    by_cases e : j = i
    · subst e; rw [if_pos rfl, if_pos (by omega)]
    · rw [if_neg e]
      by_cases h : i < j
      · rw [if_pos h, if_pos (by omega)]
      · rw [if_neg h, if_neg (by omega)]
def arT (p : List Nat) : Nat → List Nat
  | 0 => stTo p.length
  | t + 1 => arN p (arT p t)
theorem arT_length (p : List Nat) (t : Nat) : (arT p t).length = 36 := by
  cases t with
  | zero => exact stTo_length _
  | succ t => exact arTo_length _ _ _
section
variable {p : List Nat} (hp : Prm p) (h36 : p.length ≤ 36)
include hp h36
theorem arTo_at (a : List Nat) (j : Nat) (hj : j ≤ p.length) : (∀ i, i < j → (arTo p a j).getD (p.getD i 0) 0 = a.getD i 0) ∧ ∀ x, (∀ i, i < j → p.getD i 0 ≠ x) → (arTo p a j).getD x 0 = 0 := by
  induction j with
  | zero => exact ⟨fun i hi => absurd hi (Nat.not_lt_zero _), fun x _ => rep_getD 36 x⟩
  | succ j ih =>
    obtain ⟨i1, i2⟩ := ih (by omega)
    have hl : p.getD j 0 < (arTo p a j).length := by rw [arTo_length]; have := hp.lt j (by omega); omega
    refine ⟨fun i hi => ?_, fun x hx => ?_⟩
    · unfold arTo
      rw [getD_set_nat _ _ _ _ hl]
      by_cases e : p.getD j 0 = p.getD i 0
      · have := hp.inj j i (by omega) (by omega) e
        subst this
        rw [if_pos rfl]
      · rw [if_neg e]
        exact i1 i (by rcases Nat.lt_or_ge i j with h | h; exact h; exact absurd (by rw [show i = j by omega]) e)
    · unfold arTo
      rw [getD_set_nat _ _ _ _ hl, if_neg (hx j (by omega))]
      exact i2 x fun i hi => hx i (by omega)
theorem arT_at (t : Nat) : (∀ i, i < p.length → (arT p t).getD (itp p t i) 0 = i) ∧ ∀ x, p.length ≤ x → (arT p t).getD x 0 = 0 := by
  induction t with
  | zero => exact ⟨fun i hi => by show (stTo p.length).getD i 0 = i; rw [stTo_at _ h36, if_pos hi], fun x hx => by show (stTo p.length).getD x 0 = 0; rw [stTo_at _ h36, if_neg (by omega)]⟩
  | succ t ih =>
    obtain ⟨a1, a2⟩ := arTo_at hp h36 (arT p t) p.length (Nat.le_refl _)
    refine ⟨fun i hi => ?_, fun x hx => a2 x fun i hi e => by have := hp.lt i hi; omega⟩
    show (arTo p (arT p t) p.length).getD (p.getD (itp p t i) 0) 0 = i
    rw [a1 _ (itp_lt hp t hi)]
    exact ih.1 i hi
theorem arT_start (t : Nat) : arT p t = arT p 0 ↔ ordP p ∣ t := by
  rw [ordP_dvd hp]
  obtain ⟨a1, a2⟩ := arT_at hp h36 t
  constructor
  · intro e i hi
    have h1 := a1 i hi
    rw [e] at h1
    have h2 : (stTo p.length).getD (itp p t i) 0 = i := h1
    rw [stTo_at _ h36, if_pos (itp_lt hp t hi)] at h2
    exact h2
  · intro h
    apply List.ext_getElem (by rw [arT_length, arT_length])
    intro x h1 h2
    have g1 : (arT p t).getD x 0 = (arT p t)[x] := by rw [List.getD_eq_getElem?_getD, List.getElem?_eq_getElem h1]; rfl
    have g2 : (arT p 0).getD x 0 = (arT p 0)[x] := by rw [List.getD_eq_getElem?_getD, List.getElem?_eq_getElem h2]; rfl
    rw [← g1, ← g2]
    show _ = (stTo p.length).getD x 0
    rw [stTo_at _ h36]
    by_cases hx : x < p.length
    · rw [if_pos hx]
      have := a1 x hx
      rw [h x hx] at this
      exact this
    · rw [if_neg hx]
      exact a2 x (by omega)
end
end Go.Proofs.YtbppbbkcampglaaGreatDoor
