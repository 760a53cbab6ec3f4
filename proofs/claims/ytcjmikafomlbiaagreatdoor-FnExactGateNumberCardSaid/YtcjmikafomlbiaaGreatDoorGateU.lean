/-
  Machines: what both sides ask of inputs and outputs is the same, and so are the trays with inputs.
-/
import Derived.Test.YtcjmikafomlbiaaGreatDoorGateS
import Derived.Test.YtcjmikafomlbiaaGreatDoorGateY
namespace Go.Proofs.YtcjmikafomlbiaaGreatDoor
open Go.RowKit
theorem nodup_hs (L : List Int) : ∀ k, k ≤ L.length → ((L.take k).Nodup ↔ ∀ j, j < k → hsIn (L.take j) (gi L j) = false)
  | 0, _ => by simp
  | k + 1, hk => by
    have ih := nodup_hs L k (by omega)
    rw [take_gi (by omega), List.nodup_append, ih]
    constructor
    · rintro ⟨h1, -, h3⟩ j hj
      by_cases e : j = k
      · subst e
        rw [← Bool.not_eq_true, hsIn_iff]
        exact fun hm => h3 _ hm _ (by simp) rfl
      · exact h1 j (by omega)
    · intro h
      refine ⟨fun j hj => h j (by omega), by simp, fun a ha b hb e => ?_⟩
      rw [List.mem_singleton] at hb
      have := h k (by omega)
      rw [← Bool.not_eq_true, hsIn_iff] at this
      exact this (by rw [← hb, ← e]; exact ha)
theorem mcc_iff {c : List UInt8} {L : List Int} {wh : UInt8} : mccB c L wh = true ↔ (1 ≤ L.length ∧ L.length ≤ 3) ∧ ∀ j, j < L.length → (0 ≤ gi L j ∧ gi L j ≤ (c.length : Int) - 1) ∧ hsIn (L.take j) (gi L j) = false ∧ at0 c (gi L j).toNat ≠ 35 ∧ (wh = 0 ∨ at0 c (gi L j).toNat = wh) := by
  unfold mccB mcC1 btw
  simp only [Bool.and_eq_true, List.all_eq_true, List.mem_range, decide_eq_true_eq, Bool.not_eq_true', decide_eq_false_iff_not, Bool.or_eq_true]
  constructor
  · rintro ⟨⟨h1, h2⟩, h3⟩
    refine ⟨⟨by omega, by omega⟩, fun j hj => ?_⟩
    obtain ⟨⟨⟨⟨a1, a2⟩, a3⟩, a4⟩, a5⟩ := h3 j hj
    exact ⟨⟨a1, a2⟩, a3, a4, a5⟩
  · rintro ⟨⟨h1, h2⟩, h3⟩
    refine ⟨⟨by omega, by omega⟩, fun j hj => ?_⟩
    obtain ⟨⟨a1, a2⟩, a3, a4, a5⟩ := h3 j hj
    exact ⟨⟨⟨⟨a1, a2⟩, a3⟩, a4⟩, a5⟩
theorem all_gi {L : List Int} {p : Int → Bool} : L.all p = true ↔ ∀ j, j < L.length → p (gi L j) = true := by
  rw [List.all_eq_true]
  constructor
  · exact fun h j hj => h _ (hs_gi_mem hj)
  · intro h x hx
    obtain ⟨j, hj, rfl⟩ := hs_mem_gi hx
    exact h j hj
theorem any_gi {L : List Int} {p : Int → Bool} : (!(L.any p)) = true ↔ ∀ j, j < L.length → p (gi L j) = false := by
  rw [Bool.not_eq_true', ← Bool.not_eq_true, List.any_eq_true]
  constructor
  · intro h j hj
    rw [← Bool.not_eq_true]
    exact fun e => h ⟨_, hs_gi_mem hj, e⟩
  · rintro h ⟨x, hx, e⟩
    obtain ⟨j, hj, rfl⟩ := hs_mem_gi hx
    rw [h j hj] at e; cases e
theorem ad_iff {g : Grid} {L : List Int} : adB g L = true ↔ (1 ≤ L.length ∧ L.length ≤ 3) ∧ (∀ j, j < L.length → 0 ≤ gi L j ∧ gi L j < nn g.w g.h) ∧ ∀ j, j < L.length → hsIn (L.take j) (gi L j) = false := by
  unfold adB
  rw [Bool.and_eq_true, Bool.and_eq_true, decide_eq_true_eq, decide_eq_true_eq, all_gi, cdT_nodup L _ (Nat.le_refl _), nodup_hs L _ (Nat.le_refl _)]
  simp only [inB, Bool.and_eq_true, decide_eq_true_eq]
  exact ⟨fun ⟨⟨a, b⟩, c⟩ => ⟨a, b, c⟩, fun ⟨a, b, c⟩ => ⟨⟨a, b⟩, c⟩⟩
theorem mcc_46 {g : Grid} {L : List Int} (hl : g.c.length = nn g.w g.h) : mccB g.c L 46 = (adB g L && !(L.any (takenB g.c))) := by
  rw [Bool.eq_iff_iff, Bool.and_eq_true, mcc_iff, ad_iff, any_gi]
  constructor
  · rintro ⟨h1, h2⟩
    refine ⟨⟨h1, fun j hj => ?_, fun j hj => (h2 j hj).2.1⟩, fun j hj => ?_⟩
    · have := (h2 j hj).1; omega
    · unfold takenB
      have h := (h2 j hj).2.2.2
      rw [decide_eq_true (h.resolve_left (by decide))]; rfl
  · rintro ⟨⟨h1, h2, h3⟩, h4⟩
    refine ⟨h1, fun j hj => ⟨by have := h2 j hj; omega, h3 j hj, ?_⟩⟩
    have := h4 j hj
    unfold takenB at this
    have e : at0 g.c (gi L j).toNat = 46 := by simpa using this
    exact ⟨by rw [e]; decide, .inr e⟩
theorem mcc_0 {g : Grid} {L : List Int} (hl : g.c.length = nn g.w g.h) : mccB g.c L 0 = (adB g L && !(L.any (wallB g.c))) := by
  rw [Bool.eq_iff_iff, Bool.and_eq_true, mcc_iff, ad_iff, any_gi]
  constructor
  · rintro ⟨h1, h2⟩
    refine ⟨⟨h1, fun j hj => ?_, fun j hj => (h2 j hj).2.1⟩, fun j hj => ?_⟩
    · have := (h2 j hj).1; omega
    · unfold wallB
      exact decide_eq_false (h2 j hj).2.2.1
  · rintro ⟨⟨h1, h2, h3⟩, h4⟩
    refine ⟨h1, fun j hj => ⟨by have := h2 j hj; omega, h3 j hj, ?_, .inl rfl⟩⟩
    have := h4 j hj
    unfold wallB at this
    simpa using this
theorem mcIn_eq {g : Grid} {I O : List Int} (hl : g.c.length = nn g.w g.h) : mcIn g I O = (mccB g.c I 46 && mccB g.c O 0) := by
  rw [mcc_46 hl, mcc_0 hl]
  unfold mcIn
  cases adB g I <;> cases adB g O <;> cases I.any (takenB g.c) <;> cases O.any (wallB g.c) <;> rfl
/-! ### Trays with inputs -/
theorem set_comm_same (l : List UInt8) (i j : Nat) (v : UInt8) : (l.set i v).set j v = (l.set j v).set i v := by
  by_cases h : i = j
  · subst h; rfl
  · exact List.set_comm v v h
def mtTo (c : List UInt8) (C : Nat → Nat) (len n : Nat) : Nat → List UInt8
  | 0 => c
  | k + 1 => if n / 2 ^ (len - 1 - k) % 2 = 1 then (mtTo c C len n k).set (C k) 111 else mtTo c C len n k
theorem mtTo_length (c : List UInt8) (C : Nat → Nat) (len n k : Nat) : (mtTo c C len n k).length = c.length := by
  induction k with
  | zero => rfl
  | succ k ih => unfold mtTo; split <;> (try rw [List.length_set]) <;> exact ih
theorem mt_wi (g : Grid) (C : Nat → Nat) {len : Nat} (n : Nat) (h : len ≤ 3) : mtTo g.c C len n len = wiG g C len n := by
  have hc : len = 0 ∨ len = 1 ∨ len = 2 ∨ len = 3 := by omega
  rcases hc with rfl | rfl | rfl | rfl
  · rfl
  · have e : dnI 1 0 = [0] := by decide
    unfold wiG wiS
    rw [e]
    simp [mtTo]
  · have e : dnI 2 0 = [1, 0] := by decide
    unfold wiG wiS
    rw [e]
    simp only [mtTo, List.map_cons, List.map_nil, List.foldl_cons, List.foldl_nil]
    simp only [Nat.reduceSub, Nat.reducePow, Nat.div_one]
    by_cases h1 : n % 2 = 1 <;> by_cases h2 : n / 2 % 2 = 1 <;> simp [h1, h2, set_comm_same]
  · have e : dnI 3 0 = [2, 1, 0] := by decide
    have e4 : n / 4 = n / 2 / 2 := by rw [Nat.div_div_eq_div_mul]
    unfold wiG wiS
    rw [e]
    simp only [mtTo, List.map_cons, List.map_nil, List.foldl_cons, List.foldl_nil]
    simp only [Nat.reduceSub, Nat.reducePow, Nat.div_one, e4]
    by_cases h1 : n % 2 = 1 <;> by_cases h2 : n / 2 % 2 = 1 <;> by_cases h3 : n / 2 / 2 % 2 = 1 <;> simp only [h1, h2, h3, if_true, if_false]
    · rw [set_comm_same ((g.c.set (C 0) 111)), set_comm_same g.c (C 0) (C 2), set_comm_same (g.c.set (C 2) 111)]
    · rw [set_comm_same]
    · rw [set_comm_same]
    · rw [set_comm_same]
theorem mt_cel {g : Grid} (hg : Cel g) (C : Nat → Nat) (len n k : Nat) : Cel ⟨g.w, g.h, mtTo g.c C len n k⟩ := by
  refine ⟨hg.w7, hg.h7, hg.n36, (mtTo_length _ _ _ _ _).trans hg.len, ?_⟩
  induction k with
  | zero => exact hg.cells
  | succ k ih =>
    intro i hi
    show isCellB (at0 (mtTo g.c C len n (k + 1)) i) = true
    have ih := ih i (by rw [mtTo_length] at hi ⊢; exact hi)
    have hi : i < (mtTo g.c C len n (k + 1)).length := hi
    unfold mtTo
    split
    · unfold at0
      rw [List.getD_eq_getElem?_getD, List.getElem?_set]
      split
      · split
        · rfl
        · rename_i h1 h2
          rw [mtTo_length] at hi
          rw [mtTo_length] at h2
          omega
      · have := ih
        unfold at0 at this
        rw [List.getD_eq_getElem?_getD] at this
        exact this
    · exact ih
/-- The table. -/
def gtF (g : Grid) (I O : List Int) (u : ByteArray) (n : Nat) : Nat := otN (runG (wds u) ⟨g.w, g.h, mtTo g.c (cellOf I) I.length n I.length⟩).c O O.length
def tabL (f : Nat → Nat) (n : Nat) : List Int := (List.range n).map fun k => ((f k : Nat) : Int)
theorem tabL_length (f : Nat → Nat) (n : Nat) : (tabL f n).length = n := by simp [tabL]
theorem tabL_succ (f : Nat → Nat) (n : Nat) : tabL f n ++ [((f n : Nat) : Int)] = tabL f (n + 1) := by unfold tabL; rw [List.range_succ, List.map_append]; rfl
def gtOk (l : List UInt8) (I O : List Int) (u : ByteArray) : Bool := rdOk l && mcIn (rdG l) I O && wordB u
def gtL (l : List UInt8) (I O : List Int) (u : ByteArray) : List Int := if gtOk l I O u then tabL (gtF (rdG l) I O u) (2 ^ I.length) else []
end Go.Proofs.YtcjmikafomlbiaaGreatDoor
