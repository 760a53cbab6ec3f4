/-
  The stretches sorted: what the library's sort makes of them.
  What the program's functions on tilts return: the stretches of a grid, in their order.
  What the program's functions on tilts return: balls exchanged with free cells, stretches whose balls slide, and trays tilted.
  What the program's functions return that tilt a whole tray: once, in the directions of a word, and how far its balls move.
-/
import Derived.Test.YtmjmjibokombiaaBTi
import Derived.Test.YtmjmjibokombiaaShelfS
import Derived.WalkMore
import Derived.ScopeJumps
namespace Go.Proofs.Ytmjmjibokombiaa
open Go.RowKit Go.Lib Go.Sort
def zz (s : List Nat) : List Int := s.map fun n : Nat => (n : Int)
def zzz (L : List (List Nat)) : List (List Int) := L.map zz
theorem zz_length (s : List Nat) : (zz s).length = s.length := by simp [zz]
theorem zzz_length (L : List (List Nat)) : (zzz L).length = L.length := by simp [zzz]
theorem zz_append (s t : List Nat) : zz (s ++ t) = zz s ++ zz t := by simp [zz]
theorem zzz_snoc (L : List (List Nat)) (s : List Nat) : zzz (L ++ [s]) = zzz L ++ [zz s] := by simp [zzz]
theorem zz_get {s : List Nat} {j : Nat} (h : j < s.length) : gi (zz s) j = ((s.getD j 0 : Nat) : Int) := by
  unfold gi zz
  simp [List.getD, h]
theorem foldl_min_zz (l : List Nat) (a : Nat) : (zz l).foldl min (a : Int) = ((l.foldl min a : Nat) : Int) := by
  induction l generalizing a with
  | nil => rfl
  | cons b l ih =>
    show (zz l).foldl min (min (a : Int) (b : Int)) = _
    rw [show min (a : Int) (b : Int) = ((min a b : Nat) : Int) by omega, ih]
    rfl
theorem minOf_zz {l : List Nat} (h : 0 < l.length) : Lib.minOf (zz l) = ((minL l : Nat) : Int) := by
  cases l with
  | nil => simp at h
  | cons a l =>
    show ((zz (a :: l)).foldl min ((a : Nat) : Int)) = _
    rw [foldl_min_zz]
    show ((l.foldl min (min a a) : Nat) : Int) = _
    rw [Nat.min_self]
    rfl
theorem lt_cf {α : Type} (key : α → Nat) (x y : α) : ltOf (fun x y => Lib.compareInt (key x : Int) (key y : Int)) x y = decide (key x < key y) := by
  unfold ltOf Lib.compareInt
  by_cases h1 : key x < key y
  · simp [h1]
  · by_cases h2 : key y < key x <;> simp [h1, h2]
/-- The rows of a list taken in another order. -/
theorem RowsK.pick {T : TypeId} {base k m : Nat} {L : List (List Int)} {vs : List Value} {w : World} (h : RowsK T base L k 0 vs w) (hL : L.length = m) (p : List (Fin m)) (hp : p.Nodup) : RowsK T base (p.map fun i => L.getD i.val []) k 0 (p.map fun i => vs.getD i.val undef) w := by
  refine ⟨fun i l hl => ?_, fun i i' v u hv hu hne => ?_⟩
  · rw [List.getElem?_map] at hl
    cases hq : p[i]? with
    | none => rw [hq] at hl; cases hl
    | some q =>
      rw [hq] at hl
      have hl : L.getD q.val [] = l := by simpa using hl
      have hlt : q.val < L.length := by rw [hL]; exact q.isLt
      have hl2 : L[q.val]? = some l := by rw [← hl, List.getD_eq_getElem?_getD, List.getElem?_eq_getElem hlt]; rfl
      obtain ⟨v, hv, ho⟩ := h.at' q.val l hl2
      refine ⟨v, by rw [List.getElem?_map, hq]; simp [List.getD, hv], ?_⟩
      rw [if_neg (Nat.not_lt_zero _)] at ho ⊢
      exact ho
  · rw [List.getElem?_map] at hv hu
    cases hq : p[i]? with
    | none => rw [hq] at hv; cases hv
    | some q =>
      cases hr : p[i']? with
      | none => rw [hr] at hu; cases hu
      | some r =>
        rw [hq] at hv
        rw [hr] at hu
        have hv : vs.getD q.val undef = v := by simpa using hv
        have hu : vs.getD r.val undef = u := by simpa using hu
        have hql : q.val < L.length := by rw [hL]; exact q.isLt
        have hrl : r.val < L.length := by rw [hL]; exact r.isLt
        obtain ⟨v', hv', -⟩ := h.at' q.val _ (List.getElem?_eq_getElem hql)
        obtain ⟨u', hu', -⟩ := h.at' r.val _ (List.getElem?_eq_getElem hrl)
        have e1 : v' = v := by rw [← hv]; simp [List.getD, hv']
        have e2 : u' = u := by rw [← hu]; simp [List.getD, hu']
        rw [e1] at hv'
        rw [e2] at hu'
        refine h.ap q.val r.val v u hv' hu' fun e => ?_
        have e3 : q = r := Fin.ext e
        have i1 : i < p.length := by
          rcases Nat.lt_or_ge i p.length with h | h
          · exact h
          · rw [List.getElem?_eq_none h] at hq; cases hq
        have i2 : i' < p.length := by
          rcases Nat.lt_or_ge i' p.length with h | h
          · exact h
          · rw [List.getElem?_eq_none h] at hr; cases hr
        rw [List.getElem?_eq_getElem i1] at hq
        rw [List.getElem?_eq_getElem i2] at hr
        have e4 : p[i] = p[i'] := by rw [Option.some.inj hq, Option.some.inj hr, e3]
        exact hne ((List.getElem_inj hp).1 e4)
end Go.Proofs.Ytmjmjibokombiaa
namespace Go.Proofs.Ytmjmjibokombiaa
open Go.RowKit
/-- What comes behind a cell of a stretch. -/
def restL (W H : Nat) (c : List UInt8) (e : Nat) : Option Nat → List Nat
  | none => []
  | some j => ln W H c e j
theorem ln_rest {W H : Nat} {c : List UInt8} {e : Nat} (he : e < 4) (i : Nat) : ln W H c e i = i :: restL W H c e (nx W H c e i) := by
  cases h : nx W H c e i with
  | none => rw [ln_none h]; rfl
  | some j => rw [ln_some he h]; rfl
theorem own1_new {w w1 : World} {B : Nat} {u : Value} {e : TypeId} (h : New w w1 B #[u] e) : w1.ownsRow w.heap.size e 1 (.slice (some ⟨B, 0, none⟩) 1 1) 1 [u] :=
  ⟨rfl, .inr ⟨B, 1, #[u], rfl, h.lo, h.blk, Nat.le_refl _, by unfold maxLen; omega, rfl, rfl⟩⟩
/-- Rows of earlier memory are no block of a later row. -/
theorem RowsK.before {T e : TypeId} {base b s n k j : Nat} {L : List (List Int)} {vs : List Value} {w w' : World} {v : Value} {xs : List Value} (h : RowsK T base L k j vs w) (hn : vs.length = L.length) (ho : w'.ownsRow b e s v n xs) (hb : w.heap.size ≤ b) : ∀ u ∈ vs, u.ownBlock = none ∨ u.ownBlock ≠ v.ownBlock := by
  intro u hu
  obtain ⟨i, hi, rfl⟩ := List.getElem_of_mem hu
  obtain ⟨x, hx, hox⟩ := h.at' i _ (List.getElem?_eq_getElem (show i < L.length by omega))
  rw [List.getElem?_eq_getElem hi] at hx
  cases hx
  exact own_apart' hox ho hb
/-- A row that grows in later memory leaves the rows of earlier memory. -/
theorem RowsK.grow5 {T e : TypeId} {base b s n k j : Nat} {L : List (List Int)} {vs : List Value} {w0 w w' : World} {v : Value} {xs : List Value} (h : RowsK T base L k j vs w) (h0 : RowsK T base L k j vs w0) (hn : vs.length = L.length) (ho : w.ownsRow b e s v n xs) (g : Grb v.ownBlock w w') (hb : w0.heap.size ≤ b) : RowsK T base L k j vs w' :=
  ⟨fun i l hl => by
    obtain ⟨x, hx, hox⟩ := h.at' i l hl
    exact ⟨x, hx, g.row hox (h0.before hn ho hb x (List.mem_of_getElem? hx))⟩, h.ap⟩
end Go.Proofs.Ytmjmjibokombiaa
namespace Go.Proofs.Ytmjmjibokombiaa
open Go.RowKit
end Go.Proofs.Ytmjmjibokombiaa
namespace Go.Proofs.Ytmjmjibokombiaa
open Go.RowKit
/-- A grid of cells. -/
structure Cel (g : Grid) : Prop where
  w7 : g.w ≤ 7
  h7 : g.h ≤ 7
  n36 : nn g.w g.h ≤ 36
  len : g.c.length = nn g.w g.h
  cells : ∀ i, i < g.c.length → isCellB (at0 g.c i) = true
theorem Cel.strs {g : Grid} (h : Cel g) {d : Nat} (hd : d < 4) : Strs g.w g.h g.c d (strL g.w g.h g.c d) := strs_sorted hd h.w7 h.h7 h.len h.cells
theorem slAll_cell {W H : Nat} {c : List UInt8} {d : Nat} {L : List (List Nat)} (h : Strs W H c d L) (hc : ∀ i, i < c.length → isCellB (at0 c i) = true) : ∀ i, i < c.length → isCellB (at0 (slAll c L) i) = true := by
  obtain ⟨a1, a2⟩ := slAll_at L c h.str h.apart
  intro i hi
  by_cases hm : ∃ s ∈ L, i ∈ s
  · obtain ⟨s, hs, hm⟩ := hm
    obtain ⟨k, hk, rfl⟩ := mem_getD hm
    rw [a2 s hs k hk]
    unfold isCellB
    rcases fin_cell c s k with e | e
    · rw [e]; rfl
    · rw [e]; simp
  · rw [a1 i (fun s hs hi => hm ⟨s, hs, hi⟩)]
    exact hc i hi
theorem Cel.tilt {g : Grid} (h : Cel g) {d : Nat} (hd : d < 4) : Cel (tiltG d g) :=
  ⟨h.w7, h.h7, h.n36, (slAll_length _ _).trans h.len, fun i hi => slAll_cell (h.strs hd) h.cells i (by rwa [show (tiltG d g).c.length = g.c.length from slAll_length _ _] at hi)⟩
def runG (ds : List Nat) (g : Grid) : Grid := ds.foldl (fun g d => tiltG d g) g
theorem runG_snoc (ds : List Nat) (d : Nat) (g : Grid) : runG (ds ++ [d]) g = tiltG d (runG ds g) := by unfold runG; rw [List.foldl_append]; rfl
theorem Cel.run {g : Grid} (h : Cel g) (ds : List Nat) (hd : ∀ d ∈ ds, d < 4) : Cel (runG ds g) := by
  induction ds generalizing g with
  | nil => exact h
  | cons d ds ih => exact ih (h.tilt (hd d (by simp))) (fun e he => hd e (by simp [he]))
theorem runG_w (ds : List Nat) (g : Grid) : (runG ds g).w = g.w ∧ (runG ds g).h = g.h := by
  induction ds generalizing g with
  | nil => exact ⟨rfl, rfl⟩
  | cons d ds ih => exact ih (tiltG d g)
theorem slAll_snoc (c : List UInt8) (L : List (List Nat)) (s : List Nat) : slAll c (L ++ [s]) = slTo (slAll c L) s s.length := by unfold slAll; rw [List.foldl_append]; rfl
theorem slAll_take {c : List UInt8} {L : List (List Nat)} {k : Nat} {s : List Nat} (h : L[k]? = some s) : slAll c (L.take (k + 1)) = slTo (slAll c (L.take k)) s s.length := by
  rw [List.take_add_one, h]; exact slAll_snoc _ _ _
theorem Strs.step {W H : Nat} {c : List UInt8} {d : Nat} {L : List (List Nat)} (h : Strs W H c d L) {k : Nat} {s : List Nat} (hk : L[k]? = some s) : Str (slAll c (L.take k)) s ∧ ∀ i ∈ s, at0 c i = at0 (slAll c (L.take k)) i := by
  have hs : s ∈ L := List.mem_of_getElem? hk
  have hkl : k < L.length := by
    rcases Nat.lt_or_ge k L.length with h | h
    · exact h
    · rw [List.getElem?_eq_none h] at hk; cases hk
  have hap : Apart (L.take k) := List.Pairwise.sublist (List.take_sublist k L) h.apart
  obtain ⟨a1, -⟩ := slAll_at (L.take k) c (fun t ht => h.str t (List.mem_of_mem_take ht)) hap
  have hc : ∀ i ∈ s, at0 c i = at0 (slAll c (L.take k)) i := fun i hi => by
    rw [a1 i]
    intro t ht hit
    obtain ⟨j, hj, rfl⟩ := List.getElem_of_mem ht
    have hjk : j < k := by rw [List.length_take] at hj; omega
    rw [List.getElem_take] at hit
    have := List.pairwise_iff_getElem.1 h.apart j k (by omega) hkl hjk
    rw [List.getElem?_eq_getElem hkl] at hk
    rw [Option.some.inj hk] at this
    exact this i hit hi
  exact ⟨(h.str s hs).congr (slAll_length _ _) hc, hc⟩
theorem RowsK.grbB {T T' : TypeId} {base : Nat} {L : List (List Int)} {k j : Nat} {vs : List Value} {w w' : World} {B : Nat} {cs : Array Value} (h : RowsK T base L k j vs w) (hb : Blk w B cs T') (hT : T' ≠ T) (g : Grb (some B) w w') : RowsK T base L k j vs w' :=
  ⟨fun i l hl => by obtain ⟨v, hv, h1⟩ := h.at' i l hl; exact ⟨v, hv, g.row h1 (.inr (own_ne h1 hb hT))⟩, h.ap⟩
theorem RowsK.get {T : TypeId} {base k : Nat} {L : List (List Nat)} {vs : List Value} {w : World} (h : RowsK T base (zzz L) k 0 vs w) {i : Nat} {s : List Nat} (hs : L[i]? = some s) : ∃ v, vs[i]? = some v ∧ w.ownsRow base T 1 v s.length (intsV (zz s)) := by
  obtain ⟨v, hv, ho⟩ := h.at' i (zz s) (by unfold zzz; rw [List.getElem?_map, hs]; rfl)
  rw [if_neg (Nat.not_lt_zero _), zz_length] at ho
  exact ⟨v, hv, ho⟩
/-- A word's directions in memory. -/
def WordAt (w : World) (wv : Value) (ds : List Nat) : Prop :=
  ∃ p cap, wv = .slice p ds.length cap ∧ ∀ j, j < ds.length → ∃ B o, p = some ⟨B, o, none⟩ ∧ w.cell? ⟨B, o + j, none⟩ = some (.int .u8 (dB (ds.getD j 0)).toNat)
theorem WordAt.gr {w w' : World} {wv : Value} {ds : List Nat} (h : WordAt w wv ds) (g : Gr w w') : WordAt w' wv ds := by
  obtain ⟨p, cap, e, hc⟩ := h
  exact ⟨p, cap, e, fun j hj => by obtain ⟨B, o, h1, h2⟩ := hc j hj; exact ⟨B, o, h1, g.cell h2⟩⟩
/-- A grid whatever its cells are. -/
structure Wal (g : Grid) : Prop where
  w7 : g.w ≤ 7
  h7 : g.h ≤ 7
  n36 : nn g.w g.h ≤ 36
  len : g.c.length = nn g.w g.h
theorem Cel.wal {g : Grid} (h : Cel g) : Wal g := ⟨h.w7, h.h7, h.n36, h.len⟩
theorem Wal.strs {g : Grid} (h : Wal g) {d : Nat} (hd : d < 4) : StrsW g.w g.h (nn g.w g.h) (strL g.w g.h g.c d) := strsW hd h.w7 h.h7
theorem Wal.tilt {g : Grid} (h : Wal g) (d : Nat) : Wal (tiltB d g) := ⟨h.w7, h.h7, h.n36, (slAllB_length _ _).trans h.len⟩
def runB (ds : List Nat) (g : Grid) : Grid := ds.foldl (fun g d => tiltB d g) g
theorem runB_snoc (ds : List Nat) (d : Nat) (g : Grid) : runB (ds ++ [d]) g = tiltB d (runB ds g) := by unfold runB; rw [List.foldl_append]; rfl
theorem Wal.run {g : Grid} (h : Wal g) (ds : List Nat) : Wal (runB ds g) := by
  induction ds generalizing g with
  | nil => exact h
  | cons d ds ih => exact ih (h.tilt d)
theorem runB_w (ds : List Nat) (g : Grid) : (runB ds g).w = g.w ∧ (runB ds g).h = g.h := by
  induction ds generalizing g with
  | nil => exact ⟨rfl, rfl⟩
  | cons d ds ih => exact ih (tiltB d g)
theorem slAllB_take {c : List UInt8} {L : List (List Nat)} {k : Nat} {s : List Nat} (h : L[k]? = some s) : slAllB c (L.take (k + 1)) = slB (slAllB c (L.take k)) s s.length := by
  rw [List.take_add_one, h]; unfold slAllB; rw [List.foldl_append]; rfl
end Go.Proofs.Ytmjmjibokombiaa
