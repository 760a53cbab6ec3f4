/-
  Plain maths: where one ball of many comes to.
-/
import Derived.Test.YtbppbbkcampglaaGreatDoorMachI
import Derived.Test.YtbppbbkcampglaaGreatDoorPlace
namespace Go.Proofs.YtbppbbkcampglaaGreatDoor
open Go.RowKit
/-- The permutation of a word. -/
def prmG (g : Grid) (ds : List Nat) : List Nat := prmL (lsOf (runB ds (labG g)).c (bpos g.c (nn g.w g.h)))
theorem prmG_length (g : Grid) (ds : List Nat) : (prmG g ds).length = (bpos g.c (nn g.w g.h)).length := by unfold prmG; rw [prmL_length, lsOf_length]
def prL (l : List UInt8) (u : ByteArray) : List Int := if cbB l u then zz (prmG (rdG l) (wds u)) else []
theorem back_lab {g : Grid} {ds : List Nat} (hg : Cel g) (hd : ∀ d ∈ ds, d < 4) (h : backB g ds = true) : bpos (runB ds (labG g)).c (nn g.w g.h) = bpos g.c (nn g.w g.h) := by
  rw [lab_back hg, runB_eq hg ds hd]
  exact (of_decide_eq_true h).symm
/-- The first j balls are plain ones. -/
def oTo (c : List UInt8) (s : List Nat) : Nat → List UInt8
  | 0 => c
  | j + 1 => (oTo c s j).set (s.getD j 0) 111
theorem oTo_length (c : List UInt8) (s : List Nat) (j : Nat) : (oTo c s j).length = c.length := by
  induction j with
  | zero => rfl
  | succ j ih => unfold oTo; simp [ih]
theorem oTo_at {c : List UInt8} {s : List Nat} (h : StrW c s) (j : Nat) (hj : j ≤ s.length) : (∀ k, k < j → at0 (oTo c s j) (s.getD k 0) = 111) ∧ ∀ i, i ∉ s → at0 (oTo c s j) i = at0 c i := by
  induction j with
  | zero => exact ⟨fun k hk => absurd hk (Nat.not_lt_zero _), fun i _ => rfl⟩
  | succ j ih =>
    obtain ⟨i1, i2⟩ := ih (by omega)
    have hm : s.getD j 0 ∈ s := getD_mem (by omega)
    have hl : s.getD j 0 < (oTo c s j).length := by rw [oTo_length]; exact h.lt _ hm
    refine ⟨fun k hk => ?_, fun i hi => ?_⟩
    · unfold oTo
      rw [at0_set _ _ _ _ hl]
      split
      · rfl
      · rename_i hne
        exact i1 k (by rcases Nat.lt_or_ge k j with h' | h'; exact h'; exact absurd (by rw [show k = j by omega]) hne)
    · unfold oTo
      rw [at0_set _ _ _ _ hl, if_neg (fun e => hi (by rw [← e]; exact hm))]
      exact i2 i hi
/-- One ball has a name, the others are plain. -/
def oneC (g : Grid) (k : Nat) : List UInt8 := (oTo g.c (bpos g.c (nn g.w g.h)) (bpos g.c (nn g.w g.h)).length).set ((bpos g.c (nn g.w g.h)).getD k 0) 97
def oneG (g : Grid) (k : Nat) : Grid := ⟨g.w, g.h, oneC g k⟩
section
variable {g : Grid} (h : Cel g)
include h
theorem low_cell {i : Nat} (hi : i < g.c.length) (hm : i ∉ bpos g.c (nn g.w g.h)) : at0 g.c i = 35 ∨ at0 g.c i = 46 := by
  have hb : ¬ ballB (at0 g.c i) = true := fun e => hm (bpos_mem.2 ⟨by rw [← h.len]; exact hi, e⟩)
  unfold ballB at hb
  rw [Bool.and_eq_true, bne_iff_ne, bne_iff_ne] at hb
  by_cases e : at0 g.c i = 35
  · exact .inl e
  · exact .inr (Classical.byContradiction fun e2 => hb ⟨e, e2⟩)
theorem one_lab {k : Nat} (hk : k < (bpos g.c (nn g.w g.h)).length) : oneG g k = mapG (relK k) (labG g) := by
  have hw := h.wal
  have hl := lab_len hw
  have hs := bpos_strW (c := g.c) (n := nn g.w g.h) h.len
  have hkl : (bpos g.c (nn g.w g.h)).getD k 0 < (oTo g.c (bpos g.c (nn g.w g.h)) (bpos g.c (nn g.w g.h)).length).length := by rw [oTo_length]; exact hs.lt _ (getD_mem hk)
  obtain ⟨o1, o2⟩ := oTo_at hs _ (Nat.le_refl _)
  have e : oneC g k = (labG g).c.map (relK k) := by
    apply list_ext (by unfold oneC; rw [List.length_set, oTo_length, List.length_map]; exact (labTo_length _ _ _).symm)
    intro i hi
    rw [at0_map rfl]
    unfold oneC
    rw [at0_set _ _ _ _ hkl]
    by_cases hm : i ∈ bpos g.c (nn g.w g.h)
    · obtain ⟨j, hj, rfl⟩ := mem_getD hm
      have hn := labB_nat (show j < 128 by omega)
      have hr : relK k (labB j) = if j = k then 97 else 111 := by
        unfold relK
        rw [if_pos (by omega)]
        by_cases e : j = k
        · rw [if_pos e, if_pos (by omega)]
        · rw [if_neg e, if_neg (by omega)]
      rw [labG_at hw hj, hr]
      by_cases ejk : (bpos g.c (nn g.w g.h)).getD k 0 = (bpos g.c (nn g.w g.h)).getD j 0
      · have := getD_inj hs.nd hk hj ejk
        rw [if_pos ejk, if_pos this.symm]
      · rw [if_neg ejk, if_neg (fun e => ejk (by rw [e])), o1 j hj]
    · rw [labG_else hw hm, if_neg (fun e => hm (by rw [← e]; exact getD_mem hk)), o2 i hm]
      have hi' : i < g.c.length := by unfold oneC at hi; rw [List.length_set, oTo_length] at hi; exact hi
      rcases low_cell h hi' hm with e | e <;> rw [e] <;> rfl
  unfold oneG mapG
  rw [e]
  rfl
theorem one_cel {k : Nat} (hk : k < (bpos g.c (nn g.w g.h)).length) : Cel (oneG g k) := by
  have hw := h.wal
  have hl := lab_len hw
  refine ⟨h.w7, h.h7, h.n36, ?_, fun i hi => ?_⟩
  · show (oneC g k).length = nn g.w g.h
    unfold oneC; rw [List.length_set, oTo_length, h.len]
  · have hi' : i < g.c.length := by
      have : (oneG g k).c.length = g.c.length := by show (oneC g k).length = _; unfold oneC; rw [List.length_set, oTo_length]
      omega
    rw [one_lab h hk]
    show isCellB (at0 ((labG g).c.map (relK k)) i) = true
    rw [at0_map rfl]
    by_cases hm : i ∈ bpos g.c (nn g.w g.h)
    · obtain ⟨j, hj, rfl⟩ := mem_getD hm
      rw [labG_at hw hj]
      have hn := labB_nat (show j < 128 by omega)
      unfold relK
      rw [if_pos (by omega)]
      split <;> rfl
    · rw [labG_else hw hm]
      rcases low_cell h hi' hm with e | e <;> rw [e] <;> rfl
/-- The named ball comes to the cell that the permutation tells. -/
theorem one_place {ds : List Nat} (hd : ∀ d ∈ ds, d < 4) (hb : backB g ds = true) {k : Nat} (hk : k < (bpos g.c (nn g.w g.h)).length) :
    (prmG g ds).getD k 0 < (bpos g.c (nn g.w g.h)).length ∧ ixC (runG ds (oneG g k)).c 97 (runG ds (oneG g k)).c.length = (((bpos g.c (nn g.w g.h)).getD ((prmG g ds).getD k 0) 0 : Nat) : Int) := by
  have hw := h.wal
  have hl := lab_len hw
  have hB := back_lab h hd hb
  obtain ⟨hp, h128⟩ := ls_perm hw hd hB
  have hnd := bpos_nodup g.c (nn g.w g.h)
  have hll := lsOf_length (runB ds (labG g)).c (bpos g.c (nn g.w g.h))
  rw [← hll] at hp
  obtain ⟨n, hn, e1, e2⟩ := prm_ex hp (k := k) (by rw [hll]; exact hk)
  have e3 : (prmG g ds).getD k 0 = n := e2
  rw [hll] at hn
  rw [e3]
  refine ⟨hn, ?_⟩
  have hq : runG ds (oneG g k) = mapG (relK k) (runB ds (labG g)) := by rw [← runB_eq (one_cel h hk) ds hd, one_lab h hk, runB_map (relK_rel k)]
  have hql : (runB ds (labG g)).c.length = nn g.w g.h := by
    have := ((labG_wal hw).run ds).len
    obtain ⟨a1, a2⟩ := runB_w ds (labG g)
    rw [a1, a2] at this
    exact this
  rw [hq]
  show ixC ((runB ds (labG g)).c.map (relK k)) 97 _ = _
  rw [lsOf_get hn] at e1
  have hnb := h128 n hn
  have hx : (bpos g.c (nn g.w g.h)).getD n 0 < nn g.w g.h := (bpos_mem.1 (getD_mem hn)).1
  refine ixC_some (by show _ < ((runB ds (labG g)).c.map (relK k)).length; rw [List.length_map, hql]; exact hx) ?_ ?_
  · rw [at0_map rfl]
    unfold relK
    rw [if_pos hnb, if_pos (by omega)]
  · intro j hj
    rw [at0_map rfl]
    by_cases hm : j ∈ bpos g.c (nn g.w g.h)
    · obtain ⟨m, hm', rfl⟩ := mem_getD hm
      have hmb := h128 m hm'
      have hne : m ≠ n := fun e => by subst e; exact Nat.lt_irrefl _ hj
      have hk2 : (at0 (runB ds (labG g)).c ((bpos g.c (nn g.w g.h)).getD m 0)).toNat - 128 ≠ k := fun e => hne (by
        have h1 := prmL_of hp (k := k) (n := m) (by rw [hll]; exact hm') (by rw [lsOf_get hm']; exact e)
        omega)
      unfold relK
      rw [if_pos hmb, if_neg (by omega)]
      decide
    · have hm2 : j ∉ bpos (runB ds (labG g)).c (nn g.w g.h) := by rw [hB]; exact hm
      have hb : ¬ ballB (at0 (runB ds (labG g)).c j) = true := fun e => hm2 (bpos_mem.2 ⟨by omega, e⟩)
      unfold ballB at hb
      rw [Bool.and_eq_true, bne_iff_ne, bne_iff_ne] at hb
      by_cases e : at0 (runB ds (labG g)).c j = 35
      · rw [e, show relK k 35 = 35 from rfl]; decide
      · have e2 : at0 (runB ds (labG g)).c j = 46 := Classical.byContradiction fun e2 => hb ⟨e, e2⟩
        rw [e2, show relK k 46 = 46 from rfl]; decide
end
/-- The first k numbers of a list, and noughts behind them. -/
def padTo (p : List Nat) (k : Nat) : List Nat := p.take k ++ List.replicate (p.length - k) 0
theorem padTo_length (p : List Nat) {k : Nat} (h : k ≤ p.length) : (padTo p k).length = p.length := by unfold padTo; simp; omega
theorem padTo_zero (p : List Nat) : padTo p 0 = List.replicate p.length 0 := by simp [padTo]
theorem padTo_all (p : List Nat) : padTo p p.length = p := by simp [padTo]
theorem padTo_set {p : List Nat} {k : Nat} (h : k < p.length) : (padTo p k).set k (p.getD k 0) = padTo p (k + 1) := by
  unfold padTo
  have e : List.replicate (p.length - k) 0 = 0 :: List.replicate (p.length - (k + 1)) 0 := by
    rw [show p.length - k = (p.length - (k + 1)) + 1 by omega]; rfl
  have e2 : p.take (k + 1) = p.take k ++ [p[k]] := by rw [List.take_add_one, List.getElem?_eq_getElem h]; rfl
  have e3 : p.getD k 0 = p[k] := by rw [List.getD_eq_getElem?_getD, List.getElem?_eq_getElem h]; rfl
  have hk : (p.take k).length = k := by rw [List.length_take]; omega
  rw [e, e2, e3, List.set_append_right _ _ (by omega), hk, Nat.sub_self, List.set_cons_zero, List.append_assoc]
  rfl
theorem zz_set (s : List Nat) (j x : Nat) : (zz s).set j (x : Int) = zz (s.set j x) := by unfold zz; rw [List.map_set]
theorem zz_rep (n : Nat) : zz (List.replicate n 0) = (List.range n).map fun _ => (0 : Int) := by
  unfold zz
  apply List.ext_getElem (by simp)
  intro i h1 h2
  simp
theorem own_zerosM {w w1 : World} {B n : Nat} {T : TypeId} (N : New w w1 B (madeCells (Value.int .i64 0).cells (n * 1)) T) (hn : n ≤ 1073741824) : w1.ownsRow w.heap.size T 1 (.slice (some ⟨B, 0, none⟩) n n) n (intsV (zz (List.replicate n 0))) := by
  rw [zz_rep]
  refine ⟨by simp [intsV], .inr ⟨B, n, _, rfl, N.lo, N.blk, Nat.le_refl _, by unfold maxLen; omega, size_madeCells _ _, ?_⟩⟩
  apply List.ext_getElem?
  intro i
  by_cases hi : i < n
  · rw [List.getElem?_take, if_pos (by omega)]
    unfold madeCells intsV
    simp [hi]
    have e : (Value.int .i64 0).cells = #[Value.int .i64 0] := rfl
    rw [e]
    simp [Nat.mod_one]
  · rw [List.getElem?_eq_none (by simp; omega), List.getElem?_eq_none (by simp [intsV]; omega)]
end Go.Proofs.YtbppbbkcampglaaGreatDoor
