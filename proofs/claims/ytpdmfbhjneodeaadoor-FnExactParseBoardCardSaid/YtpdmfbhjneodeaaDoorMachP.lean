/-
  Plain maths of words that come back: letters changed on balls, the permutation of balls, its cycles.
-/
import Derived.Test.YtpdmfbhjneodeaaDoorBTm
namespace Go.Proofs.YtpdmfbhjneodeaaDoor
open Go.RowKit
/-- A change of letters that keeps walls, free cells and balls. -/
structure Rel (f : UInt8 → UInt8) : Prop where
  z : f 0 = 0
  wall : ∀ b, f b = 35 ↔ b = 35
  ball : ∀ b, ballB (f b) = ballB b
section
variable {f : UInt8 → UInt8}
theorem at0_map (h : f 0 = 0) (c : List UInt8) (i : Nat) : at0 (c.map f) i = f (at0 c i) := by
  unfold at0
  rw [List.getD_eq_getElem?_getD, List.getD_eq_getElem?_getD, List.getElem?_map]
  cases c[i]? with
  | none => exact h.symm
  | some b => rfl
theorem swC_map (h : f 0 = 0) (c : List UInt8) (a b : Nat) : swC (c.map f) a b = (swC c a b).map f := by
  unfold swC
  rw [List.map_set, List.map_set, at0_map h, at0_map h]
theorem nbB_map (h : Rel f) (c : List UInt8) (s : List Nat) (j : Nat) : nbB (c.map f) s j = nbB c s j := by
  induction j with
  | zero => rfl
  | succ j ih => unfold nbB; rw [ih, at0_map h.z, h.ball]
theorem slB_map (h : Rel f) (c : List UInt8) (s : List Nat) (j : Nat) : slB (c.map f) s j = (slB c s j).map f := by
  induction j with
  | zero => rfl
  | succ j ih =>
    unfold slB
    rw [ih, at0_map h.z, h.ball, nbB_map h]
    split
    · rw [swC_map h.z]
    · rfl
theorem slAllB_map (h : Rel f) (L : List (List Nat)) (c : List UInt8) : slAllB (c.map f) L = (slAllB c L).map f := by
  induction L generalizing c with
  | nil => rfl
  | cons s L ih =>
    show slAllB (slB (c.map f) s s.length) L = (slAllB (slB c s s.length) L).map f
    rw [slB_map h, ih]
def mapG (f : UInt8 → UInt8) (g : Grid) : Grid := ⟨g.w, g.h, g.c.map f⟩
theorem tiltB_map (h : Rel f) (d : Nat) (g : Grid) : tiltB d (mapG f g) = mapG f (tiltB d g) := by
  unfold tiltB mapG
  simp only
  rw [strL_mask (c := g.c.map f) (c' := g.c) (fun i => by rw [at0_map h.z, h.wall]), slAllB_map h]
theorem runB_map (h : Rel f) (ds : List Nat) (g : Grid) : runB ds (mapG f g) = mapG f (runB ds g) := by
  induction ds generalizing g with
  | nil => rfl
  | cons d ds ih =>
    show runB ds (tiltB d (mapG f g)) = mapG f (runB ds (tiltB d g))
    rw [tiltB_map h, ih]
end
/-! tilting moves cells about -/
theorem set_perm {c : List UInt8} {i : Nat} (h : i < c.length) (x : UInt8) : (c[i] :: c.set i x).Perm (x :: c) := by
  induction c generalizing i with
  | nil => exact absurd h (Nat.not_lt_zero _)
  | cons a c ih =>
    cases i with
    | zero => exact List.Perm.swap _ _ _
    | succ i =>
      have hi : i < c.length := by simpa using h
      have := ih (i := i) hi
      show (c[i]'hi :: a :: c.set i x).Perm (x :: a :: c)
      exact (List.Perm.swap _ _ _).trans ((this.cons a).trans (List.Perm.swap _ _ _))
theorem at0_get {c : List UInt8} {i : Nat} (h : i < c.length) : at0 c i = c[i] := by
  unfold at0; rw [List.getD_eq_getElem?_getD, List.getElem?_eq_getElem h]; rfl
theorem swC_perm {c : List UInt8} {a b : Nat} (ha : a < c.length) (hb : b < c.length) : (swC c a b).Perm c := by
  have hb' : b < (c.set a (at0 c b)).length := by simpa using hb
  have h1 := set_perm ha (at0 c b)
  have h2 := set_perm hb' (at0 c a)
  have e1 : c[a] = at0 c a := (at0_get ha).symm
  have e2 : (c.set a (at0 c b))[b] = at0 c b := by
    rw [← at0_get hb', at0_set _ _ _ _ ha]
    split
    · rfl
    · rfl
  rw [e1] at h1
  rw [e2] at h2
  have h3 : (at0 c b :: swC c a b).Perm (at0 c b :: c) := h2.trans h1
  exact h3.cons_inv
theorem slB_perm {c : List UInt8} {s : List Nat} (h : StrW c s) (j : Nat) (hj : j ≤ s.length) : (slB c s j).Perm c := by
  induction j with
  | zero => exact .refl _
  | succ j ih =>
    have ih := ih (by omega)
    have hle := nbB_le c s j
    unfold slB
    split
    · exact (swC_perm (by rw [slB_length]; exact h.lt _ (getD_mem (by omega))) (by rw [slB_length]; exact h.lt _ (getD_mem (by omega)))).trans ih
    · exact ih
theorem slAllB_perm {n : Nat} (L : List (List Nat)) : ∀ (c : List UInt8), c.length = n → (∀ s ∈ L, s.Nodup ∧ ∀ i ∈ s, i < n) → (slAllB c L).Perm c := by
  induction L with
  | nil => intro c _ _; exact .refl _
  | cons s L ih =>
    intro c hc h
    obtain ⟨h1, h2⟩ := h s (by simp)
    have := ih (slB c s s.length) ((slB_length _ _ _).trans hc) (fun t ht => h t (by simp [ht]))
    exact this.trans (slB_perm ⟨h1, fun i hi => by rw [hc]; exact h2 i hi⟩ _ (Nat.le_refl _))
theorem tiltB_perm {g : Grid} (h : Wal g) {d : Nat} (hd : d < 4) : (tiltB d g).c.Perm g.c := by
  have hs := h.strs hd
  exact slAllB_perm (n := nn g.w g.h) _ g.c h.len (fun s hm => ⟨hs.nd s hm, hs.lt s hm⟩)
theorem runB_perm {g : Grid} (h : Wal g) (ds : List Nat) (hd : ∀ d ∈ ds, d < 4) : (runB ds g).c.Perm g.c := by
  induction ds generalizing g with
  | nil => exact .refl _
  | cons d ds ih => exact (ih (h.tilt d) (fun e he => hd e (by simp [he]))).trans (tiltB_perm h (hd d (by simp)))
/-! the cells of balls -/
def bpos (c : List UInt8) (n : Nat) : List Nat := (List.range n).filter fun i => ballB (at0 c i)
theorem bpos_succ (c : List UInt8) (n : Nat) : bpos c (n + 1) = if ballB (at0 c n) then bpos c n ++ [n] else bpos c n := by
  unfold bpos
  rw [List.range_succ, List.filter_append]
  split
  · rename_i h; simp [h]
  · rename_i h; simp [h]
theorem ballsTo_bpos (c : List UInt8) (n : Nat) : ballsTo ballB c n = zz (bpos c n) := by
  induction n with
  | zero => rfl
  | succ n ih =>
    rw [bpos_succ, ballsTo, ih]
    split
    · rw [zz_append]; rfl
    · rfl
theorem bpos_mem {c : List UInt8} {n i : Nat} : i ∈ bpos c n ↔ i < n ∧ ballB (at0 c i) = true := by
  unfold bpos; rw [List.mem_filter, List.mem_range]
theorem bpos_nodup (c : List UInt8) (n : Nat) : (bpos c n).Nodup := List.Pairwise.filter _ List.nodup_range
theorem bpos_le (c : List UInt8) (n : Nat) : (bpos c n).length ≤ n := by
  have := List.length_filter_le (fun i => ballB (at0 c i)) (List.range n)
  rw [List.length_range] at this
  exact this
theorem bpos_map {f : UInt8 → UInt8} (h : Rel f) (c : List UInt8) (n : Nat) : bpos (c.map f) n = bpos c n := by
  unfold bpos
  congr 1
  funext i
  rw [at0_map h.z, h.ball]
theorem list_at0 (c : List UInt8) : c = (List.range c.length).map (at0 c) := by
  apply List.ext_getElem (by simp)
  intro i h1 h2
  rw [List.getElem_map, List.getElem_range, at0_get h1]
theorem filter_ball (c : List UInt8) : c.filter ballB = (bpos c c.length).map (at0 c) := by
  conv => lhs; rw [list_at0 c]
  rw [List.filter_map]
  rfl
/-! labels -/
/-- The letter of the ball number i. -/
def labB (i : Nat) : UInt8 := UInt8.ofNat (128 + i)
theorem labB_nat {i : Nat} (h : i < 128) : (labB i).toNat = 128 + i := by
  unfold labB; rw [UInt8.toNat_ofNat']; omega
theorem labB_inj {i j : Nat} (hi : i < 128) (hj : j < 128) (h : labB i = labB j) : i = j := by
  have := congrArg UInt8.toNat h
  rw [labB_nat hi, labB_nat hj] at this
  omega
theorem labB_ball {i : Nat} (h : i < 128) : ballB (labB i) = true := by
  have e := labB_nat h
  unfold ballB
  rw [Bool.and_eq_true, bne_iff_ne, bne_iff_ne]
  exact ⟨fun h => by rw [h] at e; revert e; simp; omega, fun h => by rw [h] at e; revert e; simp; omega⟩
/-- The first j balls have labels. -/
def labTo (c : List UInt8) (s : List Nat) : Nat → List UInt8
  | 0 => c
  | j + 1 => (labTo c s j).set (s.getD j 0) (labB j)
theorem labTo_length (c : List UInt8) (s : List Nat) (j : Nat) : (labTo c s j).length = c.length := by
  induction j with
  | zero => rfl
  | succ j ih => unfold labTo; simp [ih]
theorem labTo_at {c : List UInt8} {s : List Nat} (h : StrW c s) (j : Nat) (hj : j ≤ s.length) : (∀ k, k < s.length → at0 (labTo c s j) (s.getD k 0) = if k < j then labB k else at0 c (s.getD k 0)) ∧ ∀ i, i ∉ s → at0 (labTo c s j) i = at0 c i := by
  induction j with
  | zero => exact ⟨fun k _ => rfl, fun i _ => rfl⟩
  | succ j ih =>
    obtain ⟨i1, i2⟩ := ih (by omega)
    have hm : s.getD j 0 ∈ s := getD_mem (by omega)
    have hl : s.getD j 0 < (labTo c s j).length := by rw [labTo_length]; exact h.lt _ hm
    refine ⟨fun k hk => ?_, fun i hi => ?_⟩
    · unfold labTo
      rw [at0_set _ _ _ _ hl]
      by_cases e : s.getD j 0 = s.getD k 0
      · have := getD_inj h.nd (by omega) hk e
        subst this
        rw [if_pos rfl, if_pos (by omega)]
      · have hne : k ≠ j := fun h2 => e (by rw [h2])
        rw [if_neg e, i1 k hk]
        by_cases h3 : k < j
        · rw [if_pos h3, if_pos (by omega)]
        · rw [if_neg h3, if_neg (by omega)]
    · unfold labTo
      rw [at0_set _ _ _ _ hl, if_neg (fun e => hi (by rw [← e]; exact hm))]
      exact i2 i hi
/-- All balls labelled. -/
def labG (g : Grid) : Grid := ⟨g.w, g.h, labTo g.c (bpos g.c (nn g.w g.h)) (bpos g.c (nn g.w g.h)).length⟩
theorem bpos_strW {c : List UInt8} {n : Nat} (h : c.length = n) : StrW c (bpos c n) := ⟨bpos_nodup c n, fun i hi => by rw [h]; exact (bpos_mem.1 hi).1⟩
theorem getD_of_mem {s : List Nat} {i : Nat} (h : i ∈ s) : ∃ k, k < s.length ∧ s.getD k 0 = i := mem_getD h
section
variable {g : Grid} (h : Wal g)
include h
theorem labG_wal : Wal (labG g) := ⟨h.w7, h.h7, h.n36, (labTo_length _ _ _).trans h.len⟩
theorem lab_len : (bpos g.c (nn g.w g.h)).length ≤ 36 := Nat.le_trans (bpos_le _ _) h.n36
theorem labG_at {k : Nat} (hk : k < (bpos g.c (nn g.w g.h)).length) : at0 (labG g).c ((bpos g.c (nn g.w g.h)).getD k 0) = labB k := by
  have := (labTo_at (bpos_strW h.len) _ (Nat.le_refl _)).1 k hk
  rw [if_pos hk] at this
  exact this
theorem labG_else {i : Nat} (hi : i ∉ bpos g.c (nn g.w g.h)) : at0 (labG g).c i = at0 g.c i := (labTo_at (bpos_strW h.len) _ (Nat.le_refl _)).2 i hi
/-- The labelled grid has its balls where the grid has them. -/
theorem labG_bpos : bpos (labG g).c (nn g.w g.h) = bpos g.c (nn g.w g.h) := by
  have hl := lab_len h
  have key : ∀ i, i < nn g.w g.h → ballB (at0 (labG g).c i) = ballB (at0 g.c i) := by
    intro i hi
    by_cases hm : i ∈ bpos g.c (nn g.w g.h)
    · obtain ⟨k, hk, e⟩ := mem_getD hm
      have h1 := labG_at h hk
      rw [e] at h1
      rw [h1, labB_ball (by omega), (bpos_mem.1 hm).2]
    · rw [labG_else h hm]
  unfold bpos
  apply List.filter_congr
  intro i hi
  exact key i (List.mem_range.1 hi)
end
/-- All balls become plain ones. -/
def relO (b : UInt8) : UInt8 := if b = 0 then 0 else if ballB b then 111 else b
/-- The label k becomes a name, the others plain balls. -/
def relK (k : Nat) (b : UInt8) : UInt8 := if 128 ≤ b.toNat then (if b.toNat = 128 + k then 97 else 111) else b
theorem relO_zero : relO 0 = 0 := rfl
theorem relK_rel (k : Nat) : Rel (relK k) := by
  refine ⟨rfl, fun b => ?_, fun b => ?_⟩
  · unfold relK
    split
    · rename_i h
      refine ⟨fun e => ?_, fun e => ?_⟩
      · split at e <;> exact absurd e (by decide)
      · rw [e] at h; exact absurd h (by decide)
    · exact Iff.rfl
  · unfold relK
    split
    · rename_i h
      have : ballB b = true := by
        unfold ballB
        rw [Bool.and_eq_true, bne_iff_ne, bne_iff_ne]
        exact ⟨fun e => by rw [e] at h; exact absurd h (by decide), fun e => by rw [e] at h; exact absurd h (by decide)⟩
      rw [this]
      split <;> rfl
    · rfl
theorem relO_rel : Rel relO := by
  refine ⟨rfl, fun b => ?_, fun b => ?_⟩
  · unfold relO
    split
    · rename_i h; rw [h]
    · split
      · rename_i h1 h2
        refine ⟨fun e => absurd e (by decide), fun e => ?_⟩
        rw [e] at h2; exact absurd h2 (by decide)
      · exact Iff.rfl
  · unfold relO
    split
    · rename_i h; rw [h]
    · split
      · rename_i h1 h2; rw [h2]; rfl
      · rfl
/-! the permutation -/
section
variable {g : Grid} (h : Cel g)
include h
theorem relO_lab : mapG relO (labG g) = mapG relO g := by
  have hw := h.wal
  have hl := lab_len hw
  have e : (labG g).c.map relO = g.c.map relO := by
    apply list_ext (by rw [List.length_map, List.length_map]; exact labTo_length _ _ _)
    intro i hi
    rw [List.length_map] at hi
    have hi : i < g.c.length := by rw [show (labG g).c.length = g.c.length from labTo_length _ _ _] at hi; exact hi
    rw [at0_map rfl, at0_map rfl]
    by_cases hm : i ∈ bpos g.c (nn g.w g.h)
    · obtain ⟨k, hk, e⟩ := mem_getD hm
      have h1 := labG_at hw hk
      rw [e] at h1
      have hb := (bpos_mem.1 hm).2
      have hc := h.cells i hi
      have h0 : at0 g.c i ≠ 0 := fun e => by rw [e] at hc; exact absurd hc (by decide)
      have h2 := labB_nat (show k < 128 by omega)
      have h3 : labB k ≠ 0 := fun e => by rw [e] at h2; exact absurd h2 (by simp; omega)
      rw [h1]
      unfold relO
      rw [if_neg h3, if_neg h0, if_pos hb, if_pos (labB_ball (by omega))]
    · rw [labG_else hw hm]
  unfold mapG
  rw [e]
  rfl
theorem lab_back (ds : List Nat) (n : Nat) : bpos (runB ds (labG g)).c n = bpos (runB ds g).c n := by
  have e := congrArg (fun x : Grid => bpos x.c n) ((runB_map relO_rel ds (labG g)).symm.trans ((congrArg (runB ds) (relO_lab h)).trans (runB_map relO_rel ds g)))
  simp only [mapG] at e
  rw [bpos_map relO_rel, bpos_map relO_rel] at e
  exact e
end
/-- Which balls stand in the cells. -/
def lsOf (q : List UInt8) (bl : List Nat) : List Nat := bl.map fun i => (at0 q i).toNat - 128
theorem lsOf_length (q : List UInt8) (bl : List Nat) : (lsOf q bl).length = bl.length := by simp [lsOf]
theorem lsOf_get {q : List UInt8} {bl : List Nat} {i : Nat} (h : i < bl.length) : (lsOf q bl).getD i 0 = (at0 q (bl.getD i 0)).toNat - 128 := by
  unfold lsOf
  simp [List.getD, h]
theorem lab_perm {g : Grid} (h : Wal g) {ds : List Nat} (hd : ∀ d ∈ ds, d < 4) (hb : bpos (runB ds (labG g)).c (nn g.w g.h) = bpos g.c (nn g.w g.h)) :
    ((bpos g.c (nn g.w g.h)).map (at0 (runB ds (labG g)).c)).Perm ((List.range (bpos g.c (nn g.w g.h)).length).map labB) := by
  have hw := labG_wal h
  have hp := (runB_perm hw ds hd).filter ballB
  have hl1 : (runB ds (labG g)).c.length = nn g.w g.h := by
    have := (hw.run ds).len
    obtain ⟨e1, e2⟩ := runB_w ds (labG g)
    rw [e1, e2] at this
    exact this
  rw [filter_ball, filter_ball, hl1, hb, hw.len] at hp
  have e2 : bpos (labG g).c (nn (labG g).w (labG g).h) = bpos g.c (nn g.w g.h) := labG_bpos h
  rw [e2] at hp
  refine hp.trans ?_
  have e3 : (bpos g.c (nn g.w g.h)).map (at0 (labG g).c) = (List.range (bpos g.c (nn g.w g.h)).length).map labB := by
    apply List.ext_getElem (by simp)
    intro i h1 h2
    have hi : i < (bpos g.c (nn g.w g.h)).length := by simpa using h1
    have := labG_at h hi
    rw [List.getD_eq_getElem?_getD, List.getElem?_eq_getElem hi] at this
    rw [List.getElem_map, List.getElem_map, List.getElem_range]
    exact this
  rw [e3]
theorem ls_perm {g : Grid} (h : Wal g) {ds : List Nat} (hd : ∀ d ∈ ds, d < 4) (hb : bpos (runB ds (labG g)).c (nn g.w g.h) = bpos g.c (nn g.w g.h)) :
    (lsOf (runB ds (labG g)).c (bpos g.c (nn g.w g.h))).Perm (List.range (bpos g.c (nn g.w g.h)).length) ∧ ∀ i, i < (bpos g.c (nn g.w g.h)).length → 128 ≤ (at0 (runB ds (labG g)).c ((bpos g.c (nn g.w g.h)).getD i 0)).toNat := by
  have hp := lab_perm h hd hb
  have hl := lab_len h
  constructor
  · have h2 := hp.map fun b : UInt8 => b.toNat - 128
    rw [List.map_map, List.map_map] at h2
    have e : (List.range (bpos g.c (nn g.w g.h)).length).map ((fun b : UInt8 => b.toNat - 128) ∘ labB) = List.range (bpos g.c (nn g.w g.h)).length := by
      apply List.ext_getElem (by simp)
      intro i h1 h2
      rw [List.getElem_map, List.getElem_range]
      have hi : i < (bpos g.c (nn g.w g.h)).length := by simpa using h1
      show (labB i).toNat - 128 = i
      rw [labB_nat (by omega)]
      omega
    rw [e] at h2
    exact h2
  · intro i hi
    have hm : at0 (runB ds (labG g)).c ((bpos g.c (nn g.w g.h)).getD i 0) ∈ (bpos g.c (nn g.w g.h)).map (at0 (runB ds (labG g)).c) := List.mem_map.2 ⟨_, getD_mem hi, rfl⟩
    obtain ⟨k, hk, e⟩ := List.mem_map.1 (hp.mem_iff.1 hm)
    rw [← e, labB_nat (by have := List.mem_range.1 hk; omega)]
    omega
/-- The places turned into a permutation: the first j of them. -/
def pTo (ls : List Nat) : Nat → List Nat
  | 0 => List.replicate ls.length 0
  | j + 1 => (pTo ls j).set (ls.getD j 0) j
theorem pTo_length (ls : List Nat) (j : Nat) : (pTo ls j).length = ls.length := by
  induction j with
  | zero => simp [pTo]
  | succ j ih => unfold pTo; simp [ih]
theorem getD_set_nat (l : List Nat) (i x j : Nat) (hi : i < l.length) : (l.set i x).getD j 0 = if i = j then x else l.getD j 0 := by
  simp only [List.getD_eq_getElem?_getD]
  by_cases e : i = j
  · subst e; rw [List.getElem?_set_self hi, if_pos rfl]; rfl
  · rw [List.getElem?_set_ne e, if_neg e]
theorem pTo_at {ls : List Nat} (hp : ls.Perm (List.range ls.length)) (j : Nat) (hj : j ≤ ls.length) : ∀ i, i < j → (pTo ls j).getD (ls.getD i 0) 0 = i := by
  induction j with
  | zero => intro i hi; omega
  | succ j ih =>
    intro i hi
    have hnd : ls.Nodup := hp.nodup_iff.2 List.nodup_range
    have hlt : ls.getD j 0 < (pTo ls j).length := by rw [pTo_length]; exact List.mem_range.1 (hp.mem_iff.1 (getD_mem (by omega)))
    unfold pTo
    rw [getD_set_nat _ _ _ _ hlt]
    by_cases e : i = j
    · subst e; rw [if_pos rfl]
    · rw [if_neg (fun h => e (getD_inj hnd (by omega) (by omega) h).symm)]
      exact ih (by omega) i (by omega)
/-- The permutation. -/
def prmL (ls : List Nat) : List Nat := pTo ls ls.length
theorem prmL_length (ls : List Nat) : (prmL ls).length = ls.length := pTo_length _ _
theorem prmL_of {ls : List Nat} (hp : ls.Perm (List.range ls.length)) {k n : Nat} (hn : n < ls.length) (h : ls.getD n 0 = k) : (prmL ls).getD k 0 = n := by
  rw [← h]; exact pTo_at hp _ (Nat.le_refl _) n hn
theorem prm_ex {ls : List Nat} (hp : ls.Perm (List.range ls.length)) {k : Nat} (hk : k < ls.length) : ∃ n, n < ls.length ∧ ls.getD n 0 = k ∧ (prmL ls).getD k 0 = n := by
  obtain ⟨n, hn, e⟩ := mem_getD (hp.mem_iff.2 (List.mem_range.2 hk))
  exact ⟨n, hn, e, prmL_of hp hn e⟩
theorem prmL_lt {ls : List Nat} (hp : ls.Perm (List.range ls.length)) {k : Nat} (hk : k < ls.length) : (prmL ls).getD k 0 < ls.length := by
  obtain ⟨n, hn, -, e⟩ := prm_ex hp hk
  omega
theorem prmL_inj {ls : List Nat} (hp : ls.Perm (List.range ls.length)) {k l : Nat} (hk : k < ls.length) (hl : l < ls.length) (h : (prmL ls).getD k 0 = (prmL ls).getD l 0) : k = l := by
  obtain ⟨n, hn, e1, e2⟩ := prm_ex hp hk
  obtain ⟨m, hm, e3, e4⟩ := prm_ex hp hl
  have : n = m := by omega
  subst this
  omega
end Go.Proofs.YtpdmfbhjneodeaaDoor
