/-
  The stretches sorted: what the library's sort makes of them.
  What the program's functions on tilts return: the stretches of a grid, in their order.
  What the program's functions on tilts return: balls exchanged with free cells, stretches whose balls slide, and trays tilted.
  What the program's functions return that tilt a whole tray: once, in the directions of a word, and how far its balls move.
-/
import Derived.Test.YtpdmfbhjneodeaaGreatDoorBTi
import Derived.Test.YtpdmfbhjneodeaaGreatDoorShelfS
import Derived.WalkMore
import Derived.ScopeJumps
namespace Go.Proofs.YtpdmfbhjneodeaaGreatDoor
open Go.RowKit Go.Lib Go.Sort
def zz (s : List Nat) : List Int := s.map fun n : Nat => (n : Int)
def zzz (L : List (List Nat)) : List (List Int) := L.map zz
theorem zz_length (s : List Nat) : (zz s).length = s.length := by simp [zz]
theorem zzz_length (L : List (List Nat)) : (zzz L).length = L.length := by simp [zzz]
theorem zz_append (s t : List Nat) : zz (s ++ t) = zz s ++ zz t := by simp [zz]
theorem zzz_snoc (L : List (List Nat)) (s : List Nat) : zzz (L ++ [s]) = zzz L ++ [zz s] := by simp [zzz]
theorem zz_get {s : List Nat} {j : Nat} (h : j < s.length) : gi (zz s) j = ((s.getD j 0 : Nat) : Int) := by
  unfold gi zz
  simp [List.getD, h]
theorem foldl_min_zz (l : List Nat) (a : Nat) : (zz l).foldl min (a : Int) = ((l.foldl min a : Nat) : Int) := by
  induction l generalizing a with
  | nil => rfl
  | cons b l ih =>
    show (zz l).foldl min (min (a : Int) (b : Int)) = _
    rw [show min (a : Int) (b : Int) = ((min a b : Nat) : Int) by omega, ih]
    rfl
theorem minOf_zz {l : List Nat} (h : 0 < l.length) : Lib.minOf (zz l) = ((minL l : Nat) : Int) := by
  cases l with
  | nil => simp at h
  | cons a l =>
    show ((zz (a :: l)).foldl min ((a : Nat) : Int)) = _
    rw [foldl_min_zz]
    show ((l.foldl min (min a a) : Nat) : Int) = _
    rw [Nat.min_self]
    rfl
theorem lt_cf {α : Type} (key : α → Nat) (x y : α) : ltOf (fun x y => Lib.compareInt (key x : Int) (key y : Int)) x y = decide (key x < key y) := by
  unfold ltOf Lib.compareInt
  by_cases h1 : key x < key y
  · simp [h1]
  · by_cases h2 : key y < key x <;> simp [h1, h2]
/-- The rows of a list taken in another order. -/
theorem RowsK.pick {T : TypeId} {base k m : Nat} {L : List (List Int)} {vs : List Value} {w : World} (h : RowsK T base L k 0 vs w) (hL : L.length = m) (p : List (Fin m)) (hp : p.Nodup) : RowsK T base (p.map fun i => L.getD i.val []) k 0 (p.map fun i => vs.getD i.val undef) w := by
  refine ⟨fun i l hl => ?_, fun i i' v u hv hu hne => ?_⟩
  · rw [List.getElem?_map] at hl
    cases hq : p[i]? with
    | none => rw [hq] at hl; cases hl
    | some q =>
      rw [hq] at hl
      have hl : L.getD q.val [] = l := by simpa using hl
      have hlt : q.val < L.length := by rw [hL]; exact q.isLt
      have hl2 : L[q.val]? = some l := by rw [← hl, List.getD_eq_getElem?_getD, List.getElem?_eq_getElem hlt]; rfl
      obtain ⟨v, hv, ho⟩ := h.at' q.val l hl2
      refine ⟨v, by rw [List.getElem?_map, hq]; simp [List.getD, hv], ?_⟩
      rw [if_neg (Nat.not_lt_zero _)] at ho ⊢
      exact ho
  · rw [List.getElem?_map] at hv hu
    cases hq : p[i]? with
    | none => rw [hq] at hv; cases hv
    | some q =>
      cases hr : p[i']? with
      | none => rw [hr] at hu; cases hu
      | some r =>
        rw [hq] at hv
        rw [hr] at hu
        have hv : vs.getD q.val undef = v := by simpa using hv
        have hu : vs.getD r.val undef = u := by simpa using hu
        have hql : q.val < L.length := by rw [hL]; exact q.isLt
        have hrl : r.val < L.length := by rw [hL]; exact r.isLt
        obtain ⟨v', hv', -⟩ := h.at' q.val _ (List.getElem?_eq_getElem hql)
        obtain ⟨u', hu', -⟩ := h.at' r.val _ (List.getElem?_eq_getElem hrl)
        have e1 : v' = v := by rw [← hv]; simp [List.getD, hv']
        have e2 : u' = u := by rw [← hu]; simp [List.getD, hu']
        rw [e1] at hv'
        rw [e2] at hu'
        refine h.ap q.val r.val v u hv' hu' fun e => ?_
        have e3 : q = r := Fin.ext e
        have i1 : i < p.length := by
          rcases Nat.lt_or_ge i p.length with h | h
          · exact h
          · rw [List.getElem?_eq_none h] at hq; cases hq
        have i2 : i' < p.length := by
          rcases Nat.lt_or_ge i' p.length with h | h
          · exact h
          · rw [List.getElem?_eq_none h] at hr; cases hr
        rw [List.getElem?_eq_getElem i1] at hq
        rw [List.getElem?_eq_getElem i2] at hr
        have e4 : p[i] = p[i'] := by rw [Option.some.inj hq, Option.some.inj hr, e3]
        exact hne ((List.getElem_inj hp).1 e4)
set_option maxHeartbeats 1000000 in
/-- The comparison of two stretches: by their least numbers. -/
theorem strCmp_any (v u : Value) (l m : List Nat) (b1 b2 : Nat) (w : World) (h1 : w.ownsRow b1 3 1 v l.length (intsV (zz l))) (h2 : w.ownsRow b2 3 1 u m.length (intsV (zz m))) (l0 : 0 < l.length) (m0 : 0 < m.length) (l7 : l.length ≤ 1048576) (m7 : m.length ≤ 1048576) :
    Calls Tryz.prog 66 #[v, u] w fun e w' => e = .returned (.int .i64 (Lib.compareInt (minL l : Int) (minL m : Int))) ∧ w' = w := by
  obtain ⟨g1, c1, rfl, -, -⟩ := own_shape h1 l0
  obtain ⟨g2, c2, rfl, -, -⟩ := own_shape h2 m0
  have cmp := fun (x y : Int) (w : World) => Tryz.cmp_Compare_int x y w
  have cl : ∀ j, j < (zz l).length → w.cell? ⟨g1, 0 + j, none⟩ = some (.int .i64 ((zz l).getD j 0)) := fun j hj => by
    rw [zz_length] at hj; rw [Nat.zero_add]; exact own_int h1 j hj (zz_length l).symm
  have cm : ∀ j, j < (zz m).length → w.cell? ⟨g2, 0 + j, none⟩ = some (.int .i64 ((zz m).getD j 0)) := fun j hj => by
    rw [zz_length] at hj; rw [Nat.zero_add]; exact own_int h2 j hj (zz_length m).symm
  have k1 := Tryz.slices_Min_int g1 0 l.length c1 (zz l) w l0 (by rw [zz_length]; exact Nat.le_refl _) (by omega) cl
  have k2 := Tryz.slices_Min_int g2 0 m.length c2 (zz m) w m0 (by rw [zz_length]; exact Nat.le_refl _) (by omega) cm
  rw [List.take_of_length_le (by rw [zz_length]; exact Nat.le_refl _), minOf_zz l0] at k1
  rw [List.take_of_length_le (by rw [zz_length]; exact Nat.le_refl _), minOf_zz m0] at k2
  have K1 := hidI k1
  have K2 := hidI k2
  have CMP := hidI cmp
  generalize minL l = x at *
  generalize minL m = y at *
  clear k1 k2 cl cm h1 h2 cmp
  go_enter Tryz.func66, Tryz.ntmps66
  go_wp2_with fail
  refine K1.out.mono ?_
  rintro e w1 ⟨rfl, rfl⟩
  go_wp2_with fail
  refine K2.out.mono ?_
  rintro e w1 ⟨rfl, rfl⟩
  go_wp2_with fail
  refine (CMP.out _ _ _).mono ?_
  rintro e w1 ⟨rfl, rfl⟩
  go_wp2
  go_ret
  exact ⟨rfl, rfl⟩
/-- The library's sort of the stretches. -/
theorem sort_any (base m : Nat) (v : Value) (L : List (List Nat)) (vs : List Value) (w : World) (hm : L.length = m) (own : w.ownsRow base 32 1 v m vs) (R : RowsK 3 base (zzz L) 1 0 vs w) (hk : L.Pairwise fun s t => minL s ≠ minL t) (h0 : ∀ s ∈ L, 0 < s.length ∧ s.length ≤ 7) (hs : m ≤ 1048576) :
    Calls Tryz.prog 65 #[v, .func (.func 66) #[] #[]] w fun e w' => e = .returned (.tuple #[]) ∧ ∃ vs', w'.ownsRow base 32 1 v m vs' ∧ RowsK 3 base (zzz (srt L)) 1 0 vs' w' ∧ Grb v.ownBlock w w' := by
  cases m with
  | zero =>
    obtain rfl : L = [] := List.eq_nil_of_length_eq_zero hm
    obtain ⟨p, n, k, rfl⟩ := own_slice own
    obtain rfl : n = 0 := own_len own
    have hS := AnyF.slices_SortFunc_none (P := Tryz.prog) (ρ := Tryz.sortL_ren) { Tryz.sortL with } p k (.func (.func 66) #[] #[]) w
    refine Calls.mono hS ?_
    rintro e w' ⟨rfl, rfl⟩
    exact ⟨rfl, vs, own, R, Grb.refl _ _⟩
  | succ k =>
    obtain ⟨g, cap, rfl, hg, hcap⟩ := own_shape own (by omega)
    have hvl : vs.length = k + 1 := by have := own.1; omega
    let key : Fin (k + 1) → Nat := fun i => minL (L.getD i.val [])
    let enc : Fin (k + 1) → Value := fun i => vs.getD i.val undef
    let d : Array (Fin (k + 1)) := Array.ofFn fun i => i
    have hd : d.size = k + 1 := Array.size_ofFn
    have hdj : ∀ j (h : j < k + 1), d[j]! = ⟨j, h⟩ := fun j h => by rw [getElem!_pos d j (by rw [hd]; exact h)]; exact Array.getElem_ofFn _
    have hrow : ∀ (x : Fin (k + 1)) (W : World), Grb (some g) w W → ∃ l, l ∈ L ∧ L.getD x.val [] = l ∧ W.ownsRow base 3 1 (enc x) l.length (intsV (zz l)) := fun x W hW => by
      have hx : x.val < L.length := by rw [hm]; exact x.isLt
      have hz : (zzz L)[x.val]? = some (zz L[x.val]) := by unfold zzz; rw [List.getElem?_map, List.getElem?_eq_getElem hx]; rfl
      obtain ⟨u, hu, ho⟩ := (R.grb own (by decide) hW).at' x.val _ hz
      rw [if_neg (Nat.not_lt_zero _), zz_length] at ho
      refine ⟨L[x.val], List.getElem_mem hx, by simp [List.getD, hx], ?_⟩
      have : enc x = u := by show vs.getD x.val undef = u; simp [List.getD, hu]
      rw [this]; exact ho
    have hone : OneCell enc := fun x => by
      obtain ⟨l, hl, -, ho⟩ := hrow x w (Grb.refl _ _)
      exact own_one ho
    have hholds : Holds enc w g 0 d := own_holds enc own d hd fun j hj => by
      rw [hdj j hj]
      show _ = some (vs.getD j undef)
      rw [List.getD_eq_getElem?_getD, List.getElem?_eq_getElem (by omega)]
      rfl
    have hcmp : CmpReads Tryz.prog 66 #[] enc (fun x y => Lib.compareInt (key x : Int) (key y : Int)) g 0 d.size w := fun n os dk hdk x y => by
      obtain ⟨-, gW⟩ := sort_own enc own dk (hdk.trans hd) n os
      obtain ⟨l, hl, el, ol⟩ := hrow x _ gW
      obtain ⟨t, ht, et, ot⟩ := hrow y _ gW
      have h := strCmp_any (enc x) (enc y) l t base base _ ol ot (h0 l hl).1 (h0 t ht).1 (by have := (h0 l hl).2; omega) (by have := (h0 t ht).2; omega)
      refine Calls.mono h ?_
      rintro e w' ⟨rfl, rfl⟩
      refine ⟨?_, 0, rfl⟩
      show Ending.returned (.int .i64 (Lib.compareInt (minL l : Int) (minL t : Int))) = .returned (.int .i64 (Lib.compareInt (minL (L.getD x.val []) : Int) (minL (L.getD y.val []) : Int)))
      rw [el, et]
    have hswo : SWO (ltOf fun x y : Fin (k + 1) => Lib.compareInt (key x : Int) (key y : Int)) :=
      ⟨fun x => by rw [lt_cf]; simp, fun x y z h1 h2 => by rw [lt_cf] at *; simp at *; omega, fun x y z h1 h2 => by rw [lt_cf] at *; simp at *; omega⟩
    have htot : ∀ x y : Fin (k + 1), ltOf (fun x y : Fin (k + 1) => Lib.compareInt (key x : Int) (key y : Int)) x y = false → ltOf (fun x y : Fin (k + 1) => Lib.compareInt (key x : Int) (key y : Int)) y x = false → x = y := fun x y h1 h2 => by
      rw [lt_cf] at h1 h2
      simp at h1 h2
      have he : key x = key y := by omega
      have hx : x.val < L.length := by rw [hm]; exact x.isLt
      have hy : y.val < L.length := by rw [hm]; exact y.isLt
      have kx : key x = minL L[x.val] := by show minL (L.getD x.val []) = _; simp [List.getD, hx]
      have ky : key y = minL L[y.val] := by show minL (L.getD y.val []) = _; simp [List.getD, hy]
      rcases Nat.lt_trichotomy x.val y.val with h | h | h
      · exact absurd (by rw [← kx, ← ky, he]) (List.pairwise_iff_getElem.1 hk _ _ hx hy h)
      · exact Fin.ext h
      · exact absurd (by rw [← kx, ← ky, he]) (List.pairwise_iff_getElem.1 hk _ _ hy hx h)
    have hglt : g < w.heap.size := by
      obtain ⟨_, ⟨h', _⟩ | ⟨g', cap', cur, h', hb, hg', _⟩⟩ := own
      · cases h'
      · simp only [Value.slice.injEq, Option.some.injEq, Addr.mk.injEq, and_true, true_and] at h'
        obtain ⟨rfl, rfl⟩ := h'
        exact Gr.lt hg'
    have hS := Any.slices_SortFunc_total Tryz.sortL enc hone _ hswo 66 #[] g 0 cap d w Tryz.call66 hcmp.lays hholds hglt (by rw [hd]; omega) htot
    rw [hd] at hS
    refine Calls.mono hS ?_
    rintro e w' ⟨rfl, n, os, rfl⟩
    generalize hp : (d.toList.mergeSort fun x y => !(ltOf fun x y : Fin (k + 1) => Lib.compareInt (key x : Int) (key y : Int)) y x) = p
    have hperm : p.Perm d.toList := by rw [← hp]; exact List.mergeSort_perm _ _
    have hnd : d.toList.Nodup := by
      rw [List.nodup_iff_pairwise_ne, List.pairwise_iff_getElem]
      intro i j hi hj hij e
      have hi' : i < k + 1 := by simpa [hd] using hi
      have hj' : j < k + 1 := by simpa [hd] using hj
      have e1 : d.toList[i] = ⟨i, hi'⟩ := by rw [Array.getElem_toList]; exact Array.getElem_ofFn _
      have e2 : d.toList[j] = ⟨j, hj'⟩ := by rw [Array.getElem_toList]; exact Array.getElem_ofFn _
      rw [e1, e2] at e
      have := Fin.mk.inj e
      omega
    have hpn : p.Nodup := hperm.nodup_iff.2 hnd
    have hpl : p.length = k + 1 := by rw [hperm.length_eq, Array.length_toList, hd]
    obtain ⟨o1, o2⟩ := sort_own enc own p.toArray (by simpa using hpl) n os
    have hmapL : d.toList.map (fun i => L.getD i.val []) = L := by
      apply List.ext_getElem (by rw [List.length_map, Array.length_toList, hd, hm])
      intro i hi hj
      rw [List.getElem_map, Array.getElem_toList]
      have : d[i]'(by rw [hd]; omega) = ⟨i, by omega⟩ := Array.getElem_ofFn _
      rw [this]
      simp [List.getD, hj]
    have hsrt : p.map (fun i => L.getD i.val []) = srt L := by
      have hpp : (p.map fun i => L.getD i.val []).Perm (srt L) := by
        have h1 := hperm.map fun i => L.getD i.val []
        rw [hmapL] at h1
        exact h1.trans (srt_perm L).symm
      refine sorted_unique minL hpp ?_ (srt_le L) (((srt_perm L).pairwise_iff fun {x y} h => h.symm).2 hk)
      rw [List.pairwise_map, ← hp]
      refine List.Pairwise.imp ?_ (List.pairwise_mergeSort (le := fun x y => !(ltOf fun x y : Fin (k + 1) => Lib.compareInt (key x : Int) (key y : Int)) y x) (fun a b c h1 h2 => by
        rw [lt_cf] at *; simp at *; omega) (fun a b => by rw [lt_cf, lt_cf]; simp; omega) d.toList)
      intro a b h
      rw [lt_cf] at h
      simp at h
      exact h
    refine ⟨rfl, _, o1, ?_, o2⟩
    have hR := (R.grb own (by decide) o2).pick (by rw [zzz_length, hm]) p hpn
    have e1 : (p.map fun i => (zzz L).getD i.val []) = zzz (srt L) := by
      rw [← hsrt]
      unfold zzz
      rw [List.map_map]
      apply List.map_congr_left
      intro i _
      have hi : i.val < L.length := by rw [hm]; exact i.isLt
      simp [List.getD, hi]
    rw [e1] at hR
    exact hR
end Go.Proofs.YtpdmfbhjneodeaaGreatDoor
namespace Go.Proofs.YtpdmfbhjneodeaaGreatDoor
open Go.RowKit
/-- What comes behind a cell of a stretch. -/
def restL (W H : Nat) (c : List UInt8) (e : Nat) : Option Nat → List Nat
  | none => []
  | some j => ln W H c e j
theorem ln_rest {W H : Nat} {c : List UInt8} {e : Nat} (he : e < 4) (i : Nat) : ln W H c e i = i :: restL W H c e (nx W H c e i) := by
  cases h : nx W H c e i with
  | none => rw [ln_none h]; rfl
  | some j => rw [ln_some he h]; rfl
theorem own1_new {w w1 : World} {B : Nat} {u : Value} {e : TypeId} (h : New w w1 B #[u] e) : w1.ownsRow w.heap.size e 1 (.slice (some ⟨B, 0, none⟩) 1 1) 1 [u] :=
  ⟨rfl, .inr ⟨B, 1, #[u], rfl, h.lo, h.blk, Nat.le_refl _, by unfold maxLen; omega, rfl, rfl⟩⟩
/-- Rows of earlier memory are no block of a later row. -/
theorem RowsK.before {T e : TypeId} {base b s n k j : Nat} {L : List (List Int)} {vs : List Value} {w w' : World} {v : Value} {xs : List Value} (h : RowsK T base L k j vs w) (hn : vs.length = L.length) (ho : w'.ownsRow b e s v n xs) (hb : w.heap.size ≤ b) : ∀ u ∈ vs, u.ownBlock = none ∨ u.ownBlock ≠ v.ownBlock := by
  intro u hu
  obtain ⟨i, hi, rfl⟩ := List.getElem_of_mem hu
  obtain ⟨x, hx, hox⟩ := h.at' i _ (List.getElem?_eq_getElem (show i < L.length by omega))
  rw [List.getElem?_eq_getElem hi] at hx
  cases hx
  exact own_apart' hox ho hb
/-- A row that grows in later memory leaves the rows of earlier memory. -/
theorem RowsK.grow5 {T e : TypeId} {base b s n k j : Nat} {L : List (List Int)} {vs : List Value} {w0 w w' : World} {v : Value} {xs : List Value} (h : RowsK T base L k j vs w) (h0 : RowsK T base L k j vs w0) (hn : vs.length = L.length) (ho : w.ownsRow b e s v n xs) (g : Grb v.ownBlock w w') (hb : w0.heap.size ≤ b) : RowsK T base L k j vs w' :=
  ⟨fun i l hl => by
    obtain ⟨x, hx, hox⟩ := h.at' i l hl
    exact ⟨x, hx, g.row hox (h0.before hn ho hb x (List.mem_of_getElem? hx))⟩, h.ap⟩
/-- Where the loop over a stretch stands. -/
def Cur (W H : Nat) (c : List UInt8) (e : Nat) (S T : List Nat) (nv okv : Value) : Prop :=
  (nv = .int .i64 0 ∧ okv = .bool false ∧ S = T) ∨ ∃ j : Nat, nv = .int .i64 j ∧ okv = .bool true ∧ S ++ ln W H c e j = T ∧ j < nn W H ∧ at0 c j ≠ 35
theorem step_cur {W H : Nat} {c : List UInt8} {e f i : Nat} {S T : List Nat} (hs : Steps f W H c e) (hi : i < nn W H) (hT : S ++ restL W H c e (nx W H c e i) = T) :
    ∃ nv okv, (∀ w, Calls Tryz.prog f #[.agg (gv W H c), .int .i64 i] w (Ret (.tuple #[nv, okv]) w)) ∧ Cur W H c e S T nv okv := by
  cases h : nx W H c e i with
  | none =>
    rw [h] at hT
    refine ⟨.int .i64 0, .bool false, fun w => ?_, .inl ⟨rfl, rfl, by rw [← hT]; exact (List.append_nil S).symm⟩⟩
    have := hs.run i w hi
    rw [h] at this
    exact this
  | some j =>
    rw [h] at hT
    obtain ⟨-, -, h3, h4⟩ := nx_some h
    refine ⟨.int .i64 j, .bool true, fun w => ?_, .inr ⟨j, rfl, rfl, hT, h3, h4⟩⟩
    have := hs.run i w hi
    rw [h] at this
    exact this
set_option maxHeartbeats 4000000 in
set_option maxRecDepth 100000 in
theorem stretchesW_any (W H d : Nat) (c : List UInt8) (w : World) (hd : d < 4) (hW : W ≤ 7) (hH : H ≤ 7) (h36 : nn W H ≤ 36) (hlen : c.length = nn W H) :
    Calls Tryz.prog 41 #[.agg (gv W H c), .int .u8 (dB d).toNat] w (RetSS1 32 3 (zzz (strL W H c d)) w) := by
  have gg := Gr.refl w
  have ho := opd_lt d
  have HROT := hidI (dB_rot hd)
  have HDIR := hidI (dB_dir hd)
  have hraw := strsW_raw (W := W) (H := H) (c := c) (d := d) hd hW hH
  have HRAW := hidI hraw
  have HC := hidI hlen
  clear hraw hlen
  go_enter Tryz.func41, Tryz.ntmps41
  go_wp2_with (refine r_box 43 _ (gv W H c) rfl rfl ?_; intro w1 B1 N1; have g1 := N1.gr; have b1 : Blk w1 B1 (gv W H c) 43 := N1.blk; have l1 := N1.lo; have t1 := N1.hi; have z1 := g1.size; have gg := gg.trans g1; clear N1; obtain ⟨b1_0, b1_1, b1_2⟩ := gcells b1)
  refine (nextIn_any W H d c _ hd h36).mono ?_
  rintro e w2 ⟨⟨fa, rfl, SA⟩, rfl⟩
  have SAH := hidI SA
  clear SA
  go_wp2_with (go_at_call 64; refine (turnedDir_any (dB d) 2 _ HDIR.out (by decide)).mono ?_; rintro e wSame ⟨rfl, rfl⟩)
  rw [HROT.out]
  go_wp2_with fail
  refine (nextIn_any W H (opd d) c _ ho h36).mono ?_
  rintro e w2 ⟨⟨fb, rfl, SB⟩, rfl⟩
  have SBH := hidI SB
  clear SB
  go_wp2_with (first | (refine r_load_row 43 _ _ rfl _ _ _ b1 Tryz.underlying43 rfl (Tryz.ginfo' _ _ _) rfl ?_) | (go_at_call 38; refine (countAll_any W H c _ hW hH).mono ?_; rintro e w2 ⟨rfl, g2⟩; have z2 := g2.size; have b1 := g2.blk b1; obtain ⟨b1_0, b1_1, b1_2⟩ := gcells b1; have gg := gg.trans g2))
  have own0 : w2.ownsRow w.heap.size 32 1 (.slice none 0 0) (strTo W H c d 0).length [] := World.ownsRow_nil _ _ _ _
  have R0 : RowsK 3 w.heap.size (zzz (strTo W H c d 0)) 1 0 [] w2 := RowsK.nil _ _ _ _ _
  go_loopw [7, 21] (fun sv i wr => ∃ (k : Nat) (vs : List Value), k ≤ nn W H ∧ i = .int .i64 k ∧ wr.ownsRow w.heap.size 32 1 sv (strTo W H c d k).length vs ∧ RowsK 3 w.heap.size (zzz (strTo W H c d k)) 1 0 vs wr ∧ Blk wr B1 (gv W H c) 43 ∧ Gr w wr) (fun _ i _ => nn W H - (intOf i).toNat)
  case atStart => exact ⟨0, [], Nat.zero_le _, rfl, own0, R0, b1, gg⟩
  case round =>
    obtain ⟨k, vs, hk, rfl, own, R, b1, gg⟩ := hrel
    obtain ⟨wo, rfl⟩ : ∃ wo : World, wo = wr := ⟨_, rfl⟩
    obtain ⟨p7, n7, k7, rfl⟩ := own_slice own
    have RO := R
    have zo := gg.size
    have hvl : vs.length = (zzz (strTo W H c d k)).length := by have := own.1; rw [zzz_length]; omega
    have HVL := hidI hvl
    clear hvl
    by_cases hlt : k < nn W H
    · have hk36 : k < 36 := by omega
      obtain ⟨b1_0, b1_1, b1_2⟩ := gcells b1
      have hcl := b1_2 k hk36
      have hix := Tryz.gix B1 k hk36
      have hsl := str_len (W := W) (H := H) (c := c) (d := d) k
      cases hx : nx W H c d k with
      | some j =>
        have RA := hidI (fun w => (show Calls Tryz.prog fa #[.agg (gv W H c), .int .i64 k] w (Ret (.tuple #[.int .i64 j, .bool true]) w) from by have h := SAH.out.run k w hlt; rw [hx] at h; exact h))
        have HS := hidI (show strTo W H c d (k + 1) = strTo W H c d k from by rw [strTo, if_neg (by rw [hx]; simp)])
        clear hx
        go_wp2_with (first | (refine r_load_row 43 _ _ rfl _ _ _ b1 Tryz.underlying43 rfl (Tryz.ginfo' _ _ _) rfl ?_) | (refine r_callv fa (.tmp 25) [.tmp 26, .tmp 27] _ [.agg (gv W H c), .int .i64 k] (.tuple #[.int .i64 j, .bool true]) (fun w' => Gr _ w') SAH.out.enter rfl rfl rfl (RA.out _) ?_; intro w4 g4; have b1 := g4.blk b1; have own := g4.row own; have R := R.gr g4; have gg := gg.trans g4))
        go_roundw
        case rel => exact ⟨k + 1, vs, by omega, by go_num, by rw [HS.out]; exact own, by rw [HS.out]; exact R, b1, gg⟩
        case measure => simp [intOf]; omega
      | none =>
        have RA := hidI (fun w => (show Calls Tryz.prog fa #[.agg (gv W H c), .int .i64 k] w (Ret (.tuple #[.int .i64 0, .bool false]) w) from by have h := SAH.out.run k w hlt; rw [hx] at h; exact h))
        by_cases hw : at0 c k = 35
        · have ht : (((at0 c k).toNat : Int) == 35) = true := by rw [hw]; rfl
          have HS := hidI (show strTo W H c d (k + 1) = strTo W H c d k from by rw [strTo, if_neg (by rw [hw]; simp)])
          clear hx hw
          go_wp2_with (first | (refine r_load_row 43 _ _ rfl _ _ _ b1 Tryz.underlying43 rfl (Tryz.ginfo' _ _ _) rfl ?_) | (refine r_callv fa (.tmp 25) [.tmp 26, .tmp 27] _ [.agg (gv W H c), .int .i64 k] (.tuple #[.int .i64 0, .bool false]) (fun w' => Gr _ w') SAH.out.enter rfl rfl rfl (RA.out _) ?_; intro w4 g4; have b1 := g4.blk b1; have hcl := g4.cell hcl; have own := g4.row own; have R := R.gr g4; have gg := gg.trans g4))
          go_roundw
          case rel => exact ⟨k + 1, vs, by omega, by go_num, by rw [HS.out]; exact own, by rw [HS.out]; exact R, b1, gg⟩
          case measure => simp [intOf]; omega
        · have ht : (((at0 c k).toNat : Int) == 35) = false := by
            rw [beq_eq_false_iff_ne]; intro e; exact hw (UInt8.toNat_inj.1 (by simp; omega))
          have HS := hidI (show strTo W H c d (k + 1) = strTo W H c d k ++ [ln W H c (opd d) k] from by rw [strTo, if_pos ⟨hw, hx⟩])
          have hl7 : (ln W H c (opd d) k).length ≤ 7 := by
            have h1 := ln_len (W := W) (H := H) (c := c) ho k
            have h2 := md_le (d := opd d) hW hH hlt
            omega
          obtain ⟨nv, okv, hrun, hcur⟩ := step_cur (S := [k]) (T := ln W H c (opd d) k) SBH.out hlt (ln_rest ho k).symm
          have RB := hidI hrun
          have HCUR := hidI hcur
          clear hx hw hrun hcur
          go_wp2_with (first | (refine r_load_row 43 _ _ rfl _ _ _ b1 Tryz.underlying43 rfl (Tryz.ginfo' _ _ _) rfl ?_) | (refine r_callv fa (.tmp 25) [.tmp 26, .tmp 27] _ [.agg (gv W H c), .int .i64 k] (.tuple #[.int .i64 0, .bool false]) (fun w' => Gr _ w') SAH.out.enter rfl rfl rfl (RA.out _) ?_; intro w4 g4; have b1 := g4.blk b1; have hcl := g4.cell hcl; have own := g4.row own; have R := R.gr g4; have gg := gg.trans g4; have z4 := g4.size) | (refine r_slice1 32 3 (.tmp 39) (.int .i64 k) rfl (Tryz.bsi1 _ _) rfl ?_; intro w5 B5 N5; have g5 := N5.gr; have own5 := own1_new N5; have own := g5.row own; have R := R.gr g5; have b1 := g5.blk b1; have gg := gg.trans g5; have z5 := g5.size) | (refine r_callv fb (.tmp 42) [.tmp 43, .tmp 44] _ [.agg (gv W H c), .int .i64 k] (.tuple #[nv, okv]) (fun w' => Gr _ w') SBH.out.enter rfl rfl rfl (RB.out _) ?_; intro w6 g6; have b1 := g6.blk b1; have own := g6.row own; have own5 := g6.row own5; have R := R.gr g6; have gg := gg.trans g6; have z6 := g6.size))
          have own5 := own_up own5 (show wo.heap.size ≤ w4.heap.size by omega)
          go_loopw [11, 12, 13] (fun sv nv okv wr => ∃ S : List Nat, Hid (Cur W H c (opd d) S (ln W H c (opd d) k) nv okv) ∧ wr.ownsRow wo.heap.size 3 1 sv S.length (intsV (zz S)) ∧ 0 < S.length ∧ wr.ownsRow w.heap.size 32 1 (.slice p7 n7 k7) (strTo W H c d k).length vs ∧ RowsK 3 w.heap.size (zzz (strTo W H c d k)) 1 0 vs wr ∧ Blk wr B1 (gv W H c) 43 ∧ wo.heap.size ≤ wr.heap.size ∧ Gr w wr) (fun sv _ _ _ => match sv with | .slice _ n _ => 8 - n | _ => 0)
          case atStart => exact ⟨[k], HCUR, own5, by simp, own, R, b1, by omega, gg⟩
          case round =>
            obtain ⟨S, HCUR, own5, hS1, own, R, b1, zs, gg⟩ := hrel
            rcases HCUR.out with ⟨rfl, rfl, hST⟩ | ⟨j, rfl, rfl, hST, hj, hcj⟩
            · have HST := hidI hST
              have HBF := hidI (RO.before HVL.out own5 (Nat.le_refl _))
              obtain ⟨p5, n5, k5, rfl⟩ := own_slice own5
              have hz : wr.ownsRow wo.heap.size 3 1 (.slice p5 n5 k5) (zz S).length (intsV (zz S)) := by rw [zz_length]; exact own5
              clear hST own5
              go_wp2_with (first | (refine r_slice1 62 32 (.tmp 61) (.slice p5 n5 k5) rfl (Tryz.bssi1 _ _ _ _) rfl ?_; intro w8 B8 N8; have g8 := N8.gr; have hz := g8.row hz; have own := g8.row own; have R := R.gr g8; have b1 := g8.blk b1; have gg := gg.trans g8; have z8 := g8.size) | (refine r_append (.tmp 60) (.tmp 62) 62 32 _ 1 24 w.heap.size Tryz.intSSI _ _ vs rfl own ⟨B8, 0, none⟩ 1 1 [.slice p5 n5 k5] rfl rfl N8.cell1 (by intro u hu; simp at hu; subst hu; rfl) (by omega) (by decide) (by have := gg.size; omega) rfl ?_; intro v9 w9 own9 g9))
              have hz9 := g9.row hz (own_ne2 hz own (by decide))
              have R9 := R.grb own (by decide) g9
              have b19 := g9.blk b1 (own_ne own b1 (by decide))
              have gg9 := g9.gr gg (own_gr own (Nat.le_refl _))
              have R10 := R9.snoc HVL.out (own_up hz9 (show w.heap.size ≤ wo.heap.size from (by omega))) HBF.out
              go_roundw
              case rel => exact ⟨k + 1, vs ++ [.slice p5 n5 k5], by omega, by go_num, by rw [HS.out, ← HST.out, List.length_append]; exact own9, by rw [HS.out, ← HST.out, zzz_snoc]; exact R10, b19, gg9⟩
              case measure => simp [intOf]; omega
            · have hS6 : S.length + 1 ≤ 7 := by
                have h1 := congrArg List.length hST
                rw [List.length_append] at h1
                have := ln_pos (W := W) (H := H) (c := c) ho j
                omega
              obtain ⟨nv, okv, hrun, hcur⟩ := step_cur (S := S ++ [j]) (T := ln W H c (opd d) k) SBH.out hj (by rw [List.append_assoc]; show S ++ (j :: restL W H c (opd d) (nx W H c (opd d) j)) = _; rw [← ln_rest ho j]; exact hST)
              have RB := hidI hrun
              have HCUR := hidI hcur
              clear hST hcj hrun hcur
              go_wp2_with (first | (refine r_slice1 32 3 (.tmp 57) (.int .i64 j) rfl (Tryz.bsi1 _ _) rfl ?_; intro w8 B8 N8; have g8 := N8.gr; have own5 := g8.row own5; have own := g8.row own; have R := R.gr g8; have b1 := g8.blk b1; have gg := gg.trans g8; have z8 := g8.size) | (refine r_append (.tmp 56) (.tmp 58) 32 3 _ 1 8 wo.heap.size Tryz.intsI _ _ (intsV (zz S)) rfl own5 ⟨B8, 0, none⟩ 1 1 [.int .i64 j] rfl rfl N8.cell1 (intsV_one [(j : Int)]) (by omega) (by decide) (by omega) rfl ?_; intro v9 w9 own9 g9; have own := g9.row own (own_ne2 own own5 (by decide)); have b1 := g9.blk b1 (own_ne own5 b1 (by decide)); have R9 := RowsK.grow5 R RO HVL.out own5 g9 (Nat.le_refl _); have gg := g9.gr gg (own_gr own5 (by omega)); have z9 := g9.size) | (refine r_load_row 43 _ _ rfl _ _ _ b1 Tryz.underlying43 rfl (Tryz.ginfo' _ _ _) rfl ?_) | (refine r_callv fb (.tmp 50) [.tmp 51, .tmp 52] _ [.agg (gv W H c), .int .i64 j] (.tuple #[nv, okv]) (fun w' => Gr _ w') SBH.out.enter rfl rfl rfl (RB.out _) ?_; intro w10 g10; have b1 := g10.blk b1; have own := g10.row own; have own9 := g10.row own9; have R := R9.gr g10; have gg := gg.trans g10; have z10 := g10.size))
              go_roundw
              case rel => exact ⟨S ++ [j], HCUR, by (rw [List.length_append, zz_append, ← intsV_append]; exact own9), by simp, own, R, b1, by omega, gg⟩
              case measure =>
                obtain ⟨p5, n5, k5, rfl⟩ := own_slice own5
                obtain ⟨p9, n9, k9, rfl⟩ := own_slice own9
                have e1 := own_len own5
                have e2 := own_len own9
                show 8 - n9 < 8 - n5
                omega
    · obtain rfl : k = nn W H := by omega
      clear hlt
      have hms := HRAW.out.small
      have HK := hidI HRAW.out.keys
      have HL7 := hidI HRAW.out.len7
      go_wp2_with fail
      refine (sort_any w.heap.size _ _ (strTo W H c d (nn W H)) vs _ rfl own R HK.out HL7.out (by omega)).mono ?_
      rintro e w8 ⟨rfl, vs', own8, R8, g8⟩
      have gg8 := g8.gr gg (own_gr own (Nat.le_refl _))
      go_wp2
      go_ret
      refine ⟨gg8, _, vs', rfl, ?_, R8⟩
      rw [zzz_length]
      unfold strL
      rw [(srt_perm _).length_eq]
      exact own8
theorem stretches_any (W H d : Nat) (c : List UInt8) (w : World) (hd : d < 4) (hW : W ≤ 7) (hH : H ≤ 7) (h36 : nn W H ≤ 36) (hlen : c.length = nn W H) (_hcells : ∀ i, i < c.length → isCellB (at0 c i) = true) :
    Calls Tryz.prog 41 #[.agg (gv W H c), .int .u8 (dB d).toNat] w (RetSS1 32 3 (zzz (strL W H c d)) w) := stretchesW_any W H d c w hd hW hH h36 hlen
end Go.Proofs.YtpdmfbhjneodeaaGreatDoor
namespace Go.Proofs.YtpdmfbhjneodeaaGreatDoor
open Go.RowKit
set_option maxHeartbeats 2000000 in
set_option maxRecDepth 100000 in
theorem exchange_any (B : Nat) (W H : Int) (c : List UInt8) (a b : Nat) (w : World) (hb : Blk w B (gv W H c) 43) (ha : a < c.length) (hbl : b < c.length) (h36 : c.length ≤ 36) :
    Calls Tryz.prog 70 #[.pointer (some ⟨B, 0, none⟩), .int .i64 a, .int .i64 b] w fun e w' => e = .returned (.tuple #[]) ∧ Blk w' B (gv W H (swC c a b)) 43 ∧ Upd B w w' := by
  have uu := Upd.refl B w
  have ha36 : a < 36 := by omega
  have hb36 : b < 36 := by omega
  have hs1 := gv_set W H c a (at0 c b) ha36 ha
  have hs2 := gv_set W H (c.set a (at0 c b)) b (at0 c a) hb36 (by rw [List.length_set]; exact hbl)
  have HS1 := hidI hs1
  have HS2 := hidI (show (gv W H (c.set a (at0 c b))).setIfInBounds (2 + b) (byteV (at0 c a)) = gv W H (swC c a b) from hs2)
  have c1 := (gcells hb).2.2 a ha36
  have c2 := (gcells hb).2.2 b hb36
  generalize at0 c a = p at *
  generalize at0 c b = q at *
  clear hs1 hs2
  go_enter Tryz.func70, Tryz.ntmps70
  go_wp2
  have gd := (Gr.refl w).drew
  have b1 := gd.blk hb
  have c1 := gd.cell c1
  have c2 := gd.cell c2
  have uu := uu.trans (Upd.drew' B w)
  clear hb
  refine F_begin (fun w => w.cell? ⟨B, 2 + a, none⟩ = some (.int .u8 p.toNat) ∧ w.cell? ⟨B, 2 + b, none⟩ = some (.int .u8 q.toNat)) 19 24 #[false, false, false, false, false, false, false, false, false, false, false, false, false, false, false, false, false, false, false, false, false, false, false, false] rfl (by kernel_rfl) (by kernel_rfl) ?_
  generalize w.drew = wd at *
  have hFF := And.intro c1 c2
  refine F_free (v := .pointer (some ⟨B, 0, none⟩)) 0 #[true, false, false, false, false, false, false, false, false, false, false, false, false, false, false, false, false, false, false, false, false, false, false, false] rfl (by kernel_rfl) (fun _ _ _ h => h) rfl (fun _ => rfl) (hFF) ?_; simp only [Act.put, List.setIfInBounds_toArray, List.set_cons_succ, List.set_cons_zero]
  refine F_free (v := .int .i64 a) 1 #[true, true, false, false, false, false, false, false, false, false, false, false, false, false, false, false, false, false, false, false, false, false, false, false] rfl (by kernel_rfl) (fun _ _ _ h => h) rfl (fun _ => rfl) (hFF) ?_; simp only [Act.put, List.setIfInBounds_toArray, List.set_cons_succ, List.set_cons_zero]
  refine F_free (v := .pointer (some ⟨B, 0, none⟩)) 2 #[true, true, true, false, false, false, false, false, false, false, false, false, false, false, false, false, false, false, false, false, false, false, false, false] rfl (by kernel_rfl) (fun _ _ _ h => h) rfl (fun _ => rfl) (hFF) ?_; simp only [Act.put, List.setIfInBounds_toArray, List.set_cons_succ, List.set_cons_zero]
  refine F_free (v := .int .i64 b) 3 #[true, true, true, true, false, false, false, false, false, false, false, false, false, false, false, false, false, false, false, false, false, false, false, false] rfl (by kernel_rfl) (fun _ _ _ h => h) rfl (fun _ => rfl) (hFF) ?_; simp only [Act.put, List.setIfInBounds_toArray, List.set_cons_succ, List.set_cons_zero]
  refine F_free (v := .pointer (some ⟨B, 0, none⟩)) 4 #[true, true, true, true, true, false, false, false, false, false, false, false, false, false, false, false, false, false, false, false, false, false, false, false] rfl (by kernel_rfl) (fun _ _ _ h => h) rfl (fun _ => rfl) (hFF) ?_; simp only [Act.put, List.setIfInBounds_toArray, List.set_cons_succ, List.set_cons_zero]
  refine F_free (v := .int .i64 b) 5 #[true, true, true, true, true, true, false, false, false, false, false, false, false, false, false, false, false, false, false, false, false, false, false, false] rfl (by kernel_rfl) (fun _ _ _ h => h) rfl (fun _ => rfl) (hFF) ?_; simp only [Act.put, List.setIfInBounds_toArray, List.set_cons_succ, List.set_cons_zero]
  refine F_free (v := .pointer (some ⟨B, 0, none⟩)) 6 #[true, true, true, true, true, true, true, false, false, false, false, false, false, false, false, false, false, false, false, false, false, false, false, false] rfl (by kernel_rfl) (fun _ _ _ h => h) rfl (fun _ => rfl) (hFF) ?_; simp only [Act.put, List.setIfInBounds_toArray, List.set_cons_succ, List.set_cons_zero]
  refine F_free (v := .pointer (some ⟨B, 2, none⟩)) 7 #[true, true, true, true, true, true, true, true, false, false, false, false, false, false, false, false, false, false, false, false, false, false, false, false] rfl (by kernel_rfl) (fun _ _ _ h => h) rfl (fun _ => e_val _ _ (Tryz.gf2 B _)) (hFF) ?_; simp only [Act.put, List.setIfInBounds_toArray, List.set_cons_succ, List.set_cons_zero]
  refine F_free (v := .pointer (some ⟨B, 2 + b, none⟩)) 8 #[true, true, true, true, true, true, true, true, true, false, false, false, false, false, false, false, false, false, false, false, false, false, false, false] rfl (by kernel_rfl) (fun _ _ _ h => h) rfl (fun _ => e_val _ _ (Tryz.gix B b hb36 _)) (hFF) ?_; simp only [Act.put, List.setIfInBounds_toArray, List.set_cons_succ, List.set_cons_zero]
  refine F_take (v := .int .u8 q.toNat) 9 #[true, true, true, true, true, true, true, true, true, true, false, false, false, false, false, false, false, false, false, false, false, false, false, false] rfl (by kernel_rfl) (fun _ _ _ h => h) rfl (fun w hF => e_load 5 (.tmp 14) ⟨B, 2 + b, none⟩ (.int .u8 q.toNat) rfl (Tryz.isAgg5 _) hF.2) (hFF) ?_; simp only [Act.put, List.setIfInBounds_toArray, List.set_cons_succ, List.set_cons_zero]
  refine F_free (v := .pointer (some ⟨B, 0, none⟩)) 10 #[true, true, true, true, true, true, true, true, true, true, true, false, false, false, false, false, false, false, false, false, false, false, false, false] rfl (by kernel_rfl) (fun _ _ _ h => h) rfl (fun _ => rfl) (hFF) ?_; simp only [Act.put, List.setIfInBounds_toArray, List.set_cons_succ, List.set_cons_zero]
  refine F_free (v := .int .i64 a) 11 #[true, true, true, true, true, true, true, true, true, true, true, true, false, false, false, false, false, false, false, false, false, false, false, false] rfl (by kernel_rfl) (fun _ _ _ h => h) rfl (fun _ => rfl) (hFF) ?_; simp only [Act.put, List.setIfInBounds_toArray, List.set_cons_succ, List.set_cons_zero]
  refine F_free (v := .pointer (some ⟨B, 0, none⟩)) 12 #[true, true, true, true, true, true, true, true, true, true, true, true, true, false, false, false, false, false, false, false, false, false, false, false] rfl (by kernel_rfl) (fun _ _ _ h => h) rfl (fun _ => rfl) (hFF) ?_; simp only [Act.put, List.setIfInBounds_toArray, List.set_cons_succ, List.set_cons_zero]
  refine F_free (v := .pointer (some ⟨B, 2, none⟩)) 13 #[true, true, true, true, true, true, true, true, true, true, true, true, true, true, false, false, false, false, false, false, false, false, false, false] rfl (by kernel_rfl) (fun _ _ _ h => h) rfl (fun _ => e_val _ _ (Tryz.gf2 B _)) (hFF) ?_; simp only [Act.put, List.setIfInBounds_toArray, List.set_cons_succ, List.set_cons_zero]
  refine F_free (v := .pointer (some ⟨B, 2 + a, none⟩)) 14 #[true, true, true, true, true, true, true, true, true, true, true, true, true, true, true, false, false, false, false, false, false, false, false, false] rfl (by kernel_rfl) (fun _ _ _ h => h) rfl (fun _ => e_val _ _ (Tryz.gix B a ha36 _)) (hFF) ?_; simp only [Act.put, List.setIfInBounds_toArray, List.set_cons_succ, List.set_cons_zero]
  refine F_take (v := .int .u8 p.toNat) 15 #[true, true, true, true, true, true, true, true, true, true, true, true, true, true, true, true, false, false, false, false, false, false, false, false] rfl (by kernel_rfl) (fun _ _ _ h => h) rfl (fun w hF => e_load 5 (.tmp 20) ⟨B, 2 + a, none⟩ (.int .u8 p.toNat) rfl (Tryz.isAgg5 _) hF.1) (hFF) ?_; simp only [Act.put, List.setIfInBounds_toArray, List.set_cons_succ, List.set_cons_zero]
  refine F_free (v := .pointer (some ⟨B, 0, none⟩)) 16 #[true, true, true, true, true, true, true, true, true, true, true, true, true, true, true, true, true, false, false, false, false, false, false, false] rfl (by kernel_rfl) (fun _ _ _ h => h) rfl (fun _ => rfl) (hFF) ?_; simp only [Act.put, List.setIfInBounds_toArray, List.set_cons_succ, List.set_cons_zero]
  refine F_free (v := .pointer (some ⟨B, 2, none⟩)) 17 #[true, true, true, true, true, true, true, true, true, true, true, true, true, true, true, true, true, true, false, false, false, false, false, false] rfl (by kernel_rfl) (fun _ _ _ h => h) rfl (fun _ => e_val _ _ (Tryz.gf2 B _)) (hFF) ?_; simp only [Act.put, List.setIfInBounds_toArray, List.set_cons_succ, List.set_cons_zero]
  refine F_free (v := .pointer (some ⟨B, 2 + a, none⟩)) 18 #[true, true, true, true, true, true, true, true, true, true, true, true, true, true, true, true, true, true, true, false, false, false, false, false] rfl (by kernel_rfl) (fun _ _ _ h => h) rfl (fun _ => e_val _ _ (Tryz.gix B a ha36 _)) (hFF) ?_; simp only [Act.put, List.setIfInBounds_toArray, List.set_cons_succ, List.set_cons_zero]
  refine F_free (v := .pointer (some ⟨B, 0, none⟩)) 20 #[true, true, true, true, true, true, true, true, true, true, true, true, true, true, true, true, true, true, true, false, true, false, false, false] rfl (by kernel_rfl) (fun _ _ _ h => h) rfl (fun _ => rfl) (hFF) ?_; simp only [Act.put, List.setIfInBounds_toArray, List.set_cons_succ, List.set_cons_zero]
  refine F_free (v := .pointer (some ⟨B, 2, none⟩)) 21 #[true, true, true, true, true, true, true, true, true, true, true, true, true, true, true, true, true, true, true, false, true, true, false, false] rfl (by kernel_rfl) (fun _ _ _ h => h) rfl (fun _ => e_val _ _ (Tryz.gf2 B _)) (hFF) ?_; simp only [Act.put, List.setIfInBounds_toArray, List.set_cons_succ, List.set_cons_zero]
  refine F_one 19 #[true, true, true, true, true, true, true, true, true, true, true, true, true, true, true, true, true, true, true, true, true, true, false, false] rfl (by kernel_rfl) ?_
  refine r_store_cell 5 43 _ _ B (2 + a) rfl (byteV q) rfl _ b1 (by rw [gv_size]; omega) Tryz.sizeOf5 rfl rfl ?_
  intro w10 u10 b10
  rw [HS1.out] at b10
  simp only [Act.put]
  refine ⟨fun h => (by cases h), ?_⟩
  refine F_one 22 #[true, true, true, true, true, true, true, true, true, true, true, true, true, true, true, true, true, true, true, true, true, true, true, false] rfl (by kernel_rfl) ?_
  refine r_val (.pointer (some ⟨B, 2 + b, none⟩)) (e_val _ _ (Tryz.gix B b hb36 _)) rfl ?_
  simp only [Act.put, List.setIfInBounds_toArray, List.set_cons_succ, List.set_cons_zero]
  refine ⟨fun h => (by cases h), ?_⟩
  refine F_one 23 #[true, true, true, true, true, true, true, true, true, true, true, true, true, true, true, true, true, true, true, true, true, true, true, true] rfl (by kernel_rfl) ?_
  refine r_store_cell 5 43 _ _ B (2 + b) rfl (byteV p) rfl _ b10 (by rw [gv_size]; omega) Tryz.sizeOf5 rfl rfl ?_
  intro w11 u11 b11
  rw [HS2.out] at b11
  simp only [Act.put]
  refine ⟨fun h => (by cases h), ?_⟩
  refine F_done (by kernel_rfl) ?_
  go_wp2
  go_end0
  exact ⟨rfl, b11, (uu.trans u10).trans u11⟩
theorem ball_str {b : UInt8} (h : b = 46 ∨ isBallB b = true) : ballB b = isBallB b := by
  refine ball_cell ?_
  unfold isCellB
  rcases h with rfl | h
  · rfl
  · rw [h]; simp
theorem Tryz.nsix (B n cap x : Nat) (hx : x < n) (w : World) : (Instr.indexAt 32 (.slice (some ⟨B, 0, none⟩) n cap) (.int .i64 x)).run Tryz.prog w = .ok (.pointer (some ⟨B, x, none⟩)) w := by
  have hu : Tryz.prog.underlying 32 = some (.slice (Tryz.prog.elem 32)) := by kernel_rfl
  have he : Tryz.prog.elem 32 = 3 := by kernel_rfl
  rw [run_indexAt_slice w 32 ⟨B, 0, none⟩ n cap .i64 x hu, if_pos (by omega), he]
  simp [Tryz.sizeOf3, Result.andThen, Addr.add]
  exact fun h => h.symm
/-- What holds at the label of the slide. -/
def SlJ (B base w0 : Nat) (W H : Int) (c : List UInt8) (s : List Nat) (sv mv : Value) (w : World) (j p : Nat) (w' : World) : Prop :=
  j ≤ s.length ∧ nbB c s j = p ∧ Blk w' B (gv W H (slB c s j)) 43 ∧ w'.ownsRow w0 3 1 mv (mvB c s j).length (intsV (mvB c s j)) ∧ w'.ownsRow base 3 1 sv s.length (intsV (zz s)) ∧ Grb (some B) w w'
def SlA (B base w0 : Nat) (W H : Int) (c : List UInt8) (s : List Nat) (sv : Value) (w : World) (a : Act) (w' : World) : Prop :=
  ∃ (j p : Nat) (mv iv pv u8 u9 u10 u11 u12 u13 u14 u15 u16 u17 u18 u19 u20 u21 u22 u23 u24 u25 u26 u27 u28 u29 u30 u31 u32 u33 u34 u35 u36 u37 u38 u39 u40 u41 u42 u43 u44 u45 u46 u47 u48 u49 u50 u51 : Value), a = { tmps := #[.pointer (some ⟨B, 0, none⟩), sv, undef, undef, .slice none 0 0, mv, iv, pv, u8, u9, u10, u11, u12, u13, u14, u15, u16, u17, u18, u19, u20, u21, u22, u23, u24, u25, u26, u27, u28, u29, u30, u31, u32, u33, u34, u35, u36, u37, u38, u39, u40, u41, u42, u43, u44, u45, u46, u47, u48, u49, u50, u51], defers := [] } ∧ iv = .int .i64 j ∧ pv = .int .i64 p ∧ SlJ B base w0 W H c s sv mv w j p w'
set_option maxHeartbeats 2000000 in
set_option maxRecDepth 100000 in
theorem slideB_any (B base : Nat) (W H : Int) (c : List UInt8) (s : List Nat) (sv : Value) (w : World) (hb : Blk w B (gv W H c) 43) (hs : StrW c s) (h36 : c.length ≤ 36) (own : w.ownsRow base 3 1 sv s.length (intsV (zz s))) (h7 : s.length ≤ 7) :
    Calls Tryz.prog 42 #[.pointer (some ⟨B, 0, none⟩), sv] w fun e w' => Blk w' B (gv W H (slB c s s.length)) 43 ∧ Grb (some B) w w' ∧ ∃ mv, e = .returned mv ∧ w'.ownsRow w.heap.size 3 1 mv (mvB c s s.length).length (intsV (mvB c s s.length)) := by
  obtain ⟨p1, n1, k1, rfl⟩ := own_slice own
  obtain rfl : n1 = s.length := own_len own
  have OWN0 := hidI own
  go_enter Tryz.func42, Tryz.ntmps42
  go_wp2
  refine wp_scope_jumps 0 (SlA B base w.heap.size W H c s (.slice p1 s.length k1) w) (fun a' _ => s.length - (intOf (a'.tmps.getD 6 undef)).toNat) rfl ?_ ?_
  · go_wp2
    go_step3
    go_wp2_with fail
    have gg := Grb.refl (some B) w
    have HP : Hid (nbB c s 0 = 0) := rfl
    have hi0 : 0 ≤ s.length := by omega
    have b1 : Blk w B (gv W H (slB c s 0)) 43 := hb
    have ownm : w.ownsRow w.heap.size 3 1 (.slice none 0 0) (mvB c s 0).length (intsV (mvB c s 0)) := World.ownsRow_nil _ _ _ _
    go_loopw [6] (fun iv wr => ∃ j : Nat, 0 ≤ j ∧ j ≤ s.length ∧ iv = .int .i64 j ∧ Hid (nbB c s j = 0) ∧ Blk wr B (gv W H (slB c s j)) 43 ∧ wr.ownsRow w.heap.size 3 1 (.slice none 0 0) (mvB c s j).length (intsV (mvB c s j)) ∧ wr.ownsRow base 3 1 (.slice p1 s.length k1) s.length (intsV (zz s)) ∧ Grb (some B) w wr) (fun iv _ => s.length - (intOf iv).toNat)
    case atStart => exact ⟨0, Nat.le_refl _, hi0, rfl, HP, b1, ownm, own, gg⟩
    case round =>
      obtain ⟨j, hij, hj, rfl, HP, b1, ownm, own, gg⟩ := hrel
      by_cases hlt : j < s.length
      · obtain ⟨x, hx⟩ : ∃ x, x = s.getD j 0 := ⟨_, rfl⟩
        have hxm : x ∈ s := by rw [hx]; exact getD_mem hlt
        have hxl := hs.lt x hxm
        have hx36 : x < 36 := by omega
        obtain ⟨g1, c1, e1, -, -⟩ := own_shape own (by omega)
        cases e1
        have hcs := own_int own j hlt (zz_length s).symm
        rw [zz_get hlt, ← hx] at hcs
        have hcg := (gcells b1).2.2 x hx36
        have hnp := nbB_le c s j
        have hst := slB_at hs j hj j (Nat.le_refl _) hlt
        rw [← hx] at hst
        rw [hst] at hcg
        have hix := Tryz.gix B x hx36
        have hd : decide ((j : Int) < (s.length : Int)) = true := by simp; exact hlt
        by_cases hb : ballB (at0 c x) = true
        · have HQ := hidI (fun (w : World) => (show Calls Tryz.prog 69 #[.int .u8 (at0 c x).toNat] w (fun e w' => e = .returned (.bool true) ∧ w' = w) from (isBall_any (at0 c x) w).mono fun e w' h => ⟨by rw [h.1, hb], h.2.symm⟩))
          have hb' : ballB (at0 c (s.getD j 0)) = true := by rw [← hx]; exact hb
          have hpl : 0 < s.length := by have := HP.out; omega
          obtain ⟨y, hy⟩ : ∃ y, y = s.getD 0 0 := ⟨_, rfl⟩
          have hyl := hs.lt y (by rw [hy]; exact getD_mem hpl)
          have hcy := own_int own 0 hpl (zz_length s).symm
          rw [zz_get hpl, ← hy] at hcy
          have HSL := hidI (slB_length c s j)
          have HS := hidI (show nbB c s (j + 1) = 0 + 1 ∧ slB c s (j + 1) = swC (slB c s j) x y ∧ mvB c s (j + 1) = mvB c s j ++ [((j - 0 : Nat) : Int)] from ⟨by rw [nbB, if_pos hb', HP.out], by rw [slB, if_pos hb', HP.out, ← hx, ← hy], by rw [mvB, if_pos hb', HP.out]⟩)
          have hpj : 0 ≤ j := by have := HP.out; omega
          have hml := mvB_length c s j
          have hsub : (j : Int) - ((0 : Nat) : Int) = ((j - 0 : Nat) : Int) := by omega
          have hml7 : (mvB c s j).length ≤ 7 := by omega
          have HSUB := hidI hsub
          have HM := hidI hml
          clear hst hb hb' hx hy hnp hsub hml
          go_wp2
          go_quiet ((go_at_call 69; exact Calls.quiet_of_same (HQ.out _)))
          have gq := (Gr.refl wr).drewN nq
          have b1 := gq.blk b1
          have own := gq.row own
          have ownm := gq.row ownm
          have gg := gg.gr' gq
          have hcs := gq.cell hcs
          have hcy := gq.cell hcy
          have zq := gq.size
          generalize wr.drewN nq = wq at *
          go_wp2
          refine q_begin 9 (by kernel_rfl) (by kernel_rfl) ?_; simp only [List.take_succ_cons, List.take_zero, List.drop_succ_cons, List.drop_zero]
          refine q_move _ (.pointer (some ⟨B, 0, none⟩)) rfl rfl ?_; simp only [Act.put, List.setIfInBounds_toArray, List.set_cons_succ, List.set_cons_zero]
          refine q_move _ (.slice (some ⟨g1, 0, none⟩) s.length k1) rfl rfl ?_; simp only [Act.put, List.setIfInBounds_toArray, List.set_cons_succ, List.set_cons_zero]
          refine q_move _ (.int .i64 j) rfl rfl ?_; simp only [Act.put, List.setIfInBounds_toArray, List.set_cons_succ, List.set_cons_zero]
          refine q_take (.pointer (some ⟨g1, j, none⟩)) rfl (fun w' hw' => e_val _ _ (Tryz.nsix g1 s.length k1 j hlt _)) ?_; simp only [Act.put, List.setIfInBounds_toArray, List.set_cons_succ, List.set_cons_zero]
          refine q_take (.int .i64 x) rfl (fun w' hw' => e_load 3 (.tmp 34) ⟨g1, j, none⟩ _ rfl (Tryz.isAgg3 _) (hw'.cell hcs)) ?_; simp only [Act.put, List.setIfInBounds_toArray, List.set_cons_succ, List.set_cons_zero]
          refine q_move _ (.slice (some ⟨g1, 0, none⟩) s.length k1) rfl rfl ?_; simp only [Act.put, List.setIfInBounds_toArray, List.set_cons_succ, List.set_cons_zero]
          refine q_move _ (.int .i64 0) rfl rfl ?_; simp only [Act.put, List.setIfInBounds_toArray, List.set_cons_succ, List.set_cons_zero]
          refine q_take (.pointer (some ⟨g1, 0, none⟩)) rfl (fun w' hw' => e_val _ _ (Tryz.nsix g1 s.length k1 0 hpl _)) ?_; simp only [Act.put, List.setIfInBounds_toArray, List.set_cons_succ, List.set_cons_zero]
          refine q_take (.int .i64 y) rfl (fun w' hw' => e_load 3 (.tmp 38) ⟨g1, 0, none⟩ _ rfl (Tryz.isAgg3 _) (hw'.cell hcy)) ?_; simp only [Act.put, List.setIfInBounds_toArray, List.set_cons_succ, List.set_cons_zero]
          refine wpQuiet_nil ?_
          intro w7 g7
          have b1 := g7.blk b1
          have own := g7.row own
          have ownm := g7.row ownm
          have gg := gg.gr' g7
          have hxs : x < (slB c s j).length := by rw [HSL.out]; exact hxl
          have hys : y < (slB c s j).length := by rw [HSL.out]; exact hyl
          have hs36 : (slB c s j).length ≤ 36 := by rw [HSL.out]; exact h36
          go_wp2_with (first | (go_at_call 70; refine (exchange_any B W H (slB c s j) x y _ b1 hxs hys hs36).mono ?_; rintro e w8 ⟨rfl, b8, u8⟩; have ownm := u8.row ownm (own_ne ownm b1 (by decide)); have own := u8.row own (own_ne own b1 (by decide)); have gg := gg.upd u8; have z8 := u8.size; have zg := gg.size) | (refine r_slice1 32 3 (.tmp 44) (.int .i64 ((j : Int))) rfl (Tryz.bsi1 _ _) rfl ?_; intro w9 B9 N9; have g9 := N9.gr; have b8 := g9.blk b8; have ownm := g9.row ownm; have own := g9.row own; have gg := gg.gr' g9; have z9 := g9.size; have zg := gg.size) | (refine r_append (.tmp 41) (.tmp 45) 32 3 _ 1 8 w.heap.size Tryz.intsI _ _ (intsV (mvB c s j)) rfl ownm ⟨B9, 0, none⟩ 1 1 [.int .i64 ((j : Int))] rfl rfl N9.cell1 (by intro u hu; simp at hu; subst hu; rfl) (by omega) (by decide) (by omega) rfl ?_; intro v10 w10 own10 g10))
          have b10 := g10.blk b8 (own_ne ownm b8 (by decide))
          have own11 := g10.row own (own_apart' OWN0.out ownm (Nat.le_refl _))
          have gg10 := gg.newer g10 (own_gr ownm (Nat.le_refl _))
          have own10' : w10.ownsRow w.heap.size 3 1 v10 (mvB c s (j + 1)).length (intsV (mvB c s (j + 1))) := by
            rw [HS.out.2.2, List.length_append, ← intsV_append]
            have e : intsV [((j - 0 : Nat) : Int)] = [.int .i64 ((j : Int))] := by show [Value.int .i64 _] = _; first | rfl | (congr 2; omega) | (congr 2)
            rw [e]
            exact own10
          go_step3
          try simp only [Exit.jump]
          exact ⟨rfl, ⟨j + 1, 0 + 1, v10, _, _, _, _, _, _, _, _, _, _, _, _, _, _, _, _, _, _, _, _, _, _, _, _, _, _, _, _, _, _, _, _, _, _, _, _, _, _, _, _, _, _, _, _, _, _, rfl, by go_num, by go_num, by omega, HS.out.1, by rw [HS.out.2.1]; exact b10, own10', own11, gg10⟩⟩
        · have HQ := hidI (fun (w : World) => (show Calls Tryz.prog 69 #[.int .u8 (at0 c x).toNat] w (fun e w' => e = .returned (.bool false) ∧ w' = w) from (isBall_any (at0 c x) w).mono fun e w' h => ⟨by rw [h.1]; simp [hb], h.2.symm⟩))
          have hb' : ¬ ballB (at0 c (s.getD j 0)) = true := by rw [← hx]; exact hb
          have HS := hidI (show nbB c s (j + 1) = nbB c s j ∧ slB c s (j + 1) = slB c s j ∧ mvB c s (j + 1) = mvB c s j from ⟨by rw [nbB, if_neg hb']; rfl, by rw [slB, if_neg hb'], by rw [mvB, if_neg hb']⟩)
          clear hst hb hb' hnp hx
          go_wp2
          go_quiet ((go_at_call 69; exact Calls.quiet_of_same (HQ.out _)))
          go_wp2
          have gq := (Gr.refl wr).drewN nq
          go_roundw
          case rel => exact ⟨j + 1, by omega, by omega, by go_num, by rw [HS.out.1]; exact HP, by rw [HS.out.2.1]; exact gq.blk b1, by rw [HS.out.2.2]; exact gq.row ownm, gq.row own, gg.gr' gq⟩
          case measure => simp [intOf]; omega
      · have hjl : j = s.length := by omega
        have hd : decide (j < s.length) = false := by simp; omega
        have HJ := hidI hjl
        have hnl : ¬ (j : Int) < (s.length : Int) := by omega
        clear hjl hlt
        go_wp2
        go_quiet (fail)
        have gq := (Gr.refl wr).drewN nq
        have b1 := gq.blk b1
        have ownm := gq.row ownm
        have gg := gg.gr' gq
        rw [HJ.out] at b1 ownm
        generalize wr.drewN nq = wq at *
        go_wp2
        simp only [Exit.jump]
        go_ret
        exact ⟨b1, gg, _, rfl, ownm⟩
  · rintro a' w0 ⟨i0, p, mv, iv, pv, u8, u9, u10, u11, u12, u13, u14, u15, u16, u17, u18, u19, u20, u21, u22, u23, u24, u25, u26, u27, u28, u29, u30, u31, u32, u33, u34, u35, u36, u37, u38, u39, u40, u41, u42, u43, u44, u45, u46, u47, u48, u49, u50, u51, rfl, rfl, rfl, hi0, HP0, b1, ownm, own, gg⟩
    have HP : Hid (nbB c s i0 = p) := HP0
    clear HP0 hb
    go_wp2_with fail
    go_loopw [6] (fun iv wr => ∃ j : Nat, i0 ≤ j ∧ j ≤ s.length ∧ iv = .int .i64 j ∧ Hid (nbB c s j = p) ∧ Blk wr B (gv W H (slB c s j)) 43 ∧ wr.ownsRow w.heap.size 3 1 mv (mvB c s j).length (intsV (mvB c s j)) ∧ wr.ownsRow base 3 1 (.slice p1 s.length k1) s.length (intsV (zz s)) ∧ Grb (some B) w wr) (fun iv _ => s.length - (intOf iv).toNat)
    case atStart => exact ⟨i0, Nat.le_refl _, hi0, rfl, HP, b1, ownm, own, gg⟩
    case round =>
      obtain ⟨j, hij, hj, rfl, HP, b1, ownm, own, gg⟩ := hrel
      by_cases hlt : j < s.length
      · obtain ⟨x, hx⟩ : ∃ x, x = s.getD j 0 := ⟨_, rfl⟩
        have hxm : x ∈ s := by rw [hx]; exact getD_mem hlt
        have hxl := hs.lt x hxm
        have hx36 : x < 36 := by omega
        obtain ⟨g1, c1, e1, -, -⟩ := own_shape own (by omega)
        cases e1
        have hcs := own_int own j hlt (zz_length s).symm
        rw [zz_get hlt, ← hx] at hcs
        have hcg := (gcells b1).2.2 x hx36
        have hnp := nbB_le c s j
        have hst := slB_at hs j hj j (Nat.le_refl _) hlt
        rw [← hx] at hst
        rw [hst] at hcg
        have hix := Tryz.gix B x hx36
        have hd : decide ((j : Int) < (s.length : Int)) = true := by simp; exact hlt
        by_cases hb : ballB (at0 c x) = true
        · have HQ := hidI (fun (w : World) => (show Calls Tryz.prog 69 #[.int .u8 (at0 c x).toNat] w (fun e w' => e = .returned (.bool true) ∧ w' = w) from (isBall_any (at0 c x) w).mono fun e w' h => ⟨by rw [h.1, hb], h.2.symm⟩))
          have hb' : ballB (at0 c (s.getD j 0)) = true := by rw [← hx]; exact hb
          have hpl : p < s.length := by have := HP.out; omega
          obtain ⟨y, hy⟩ : ∃ y, y = s.getD p 0 := ⟨_, rfl⟩
          have hyl := hs.lt y (by rw [hy]; exact getD_mem hpl)
          have hcy := own_int own p hpl (zz_length s).symm
          rw [zz_get hpl, ← hy] at hcy
          have HSL := hidI (slB_length c s j)
          have HS := hidI (show nbB c s (j + 1) = p + 1 ∧ slB c s (j + 1) = swC (slB c s j) x y ∧ mvB c s (j + 1) = mvB c s j ++ [((j - p : Nat) : Int)] from ⟨by rw [nbB, if_pos hb', HP.out], by rw [slB, if_pos hb', HP.out, ← hx, ← hy], by rw [mvB, if_pos hb', HP.out]⟩)
          have hpj : p ≤ j := by have := HP.out; omega
          have hml := mvB_length c s j
          have hsub : (j : Int) - ((p : Nat) : Int) = ((j - p : Nat) : Int) := by omega
          have hml7 : (mvB c s j).length ≤ 7 := by omega
          have HSUB := hidI hsub
          have HM := hidI hml
          clear hst hb hb' hx hy hnp hsub hml
          go_wp2
          go_quiet ((go_at_call 69; exact Calls.quiet_of_same (HQ.out _)))
          have gq := (Gr.refl wr).drewN nq
          have b1 := gq.blk b1
          have own := gq.row own
          have ownm := gq.row ownm
          have gg := gg.gr' gq
          have hcs := gq.cell hcs
          have hcy := gq.cell hcy
          have zq := gq.size
          generalize wr.drewN nq = wq at *
          go_wp2
          refine q_begin 9 (by kernel_rfl) (by kernel_rfl) ?_; simp only [List.take_succ_cons, List.take_zero, List.drop_succ_cons, List.drop_zero]
          refine q_move _ (.pointer (some ⟨B, 0, none⟩)) rfl rfl ?_; simp only [Act.put, List.setIfInBounds_toArray, List.set_cons_succ, List.set_cons_zero]
          refine q_move _ (.slice (some ⟨g1, 0, none⟩) s.length k1) rfl rfl ?_; simp only [Act.put, List.setIfInBounds_toArray, List.set_cons_succ, List.set_cons_zero]
          refine q_move _ (.int .i64 j) rfl rfl ?_; simp only [Act.put, List.setIfInBounds_toArray, List.set_cons_succ, List.set_cons_zero]
          refine q_take (.pointer (some ⟨g1, j, none⟩)) rfl (fun w' hw' => e_val _ _ (Tryz.nsix g1 s.length k1 j hlt _)) ?_; simp only [Act.put, List.setIfInBounds_toArray, List.set_cons_succ, List.set_cons_zero]
          refine q_take (.int .i64 x) rfl (fun w' hw' => e_load 3 (.tmp 34) ⟨g1, j, none⟩ _ rfl (Tryz.isAgg3 _) (hw'.cell hcs)) ?_; simp only [Act.put, List.setIfInBounds_toArray, List.set_cons_succ, List.set_cons_zero]
          refine q_move _ (.slice (some ⟨g1, 0, none⟩) s.length k1) rfl rfl ?_; simp only [Act.put, List.setIfInBounds_toArray, List.set_cons_succ, List.set_cons_zero]
          refine q_move _ (.int .i64 p) rfl rfl ?_; simp only [Act.put, List.setIfInBounds_toArray, List.set_cons_succ, List.set_cons_zero]
          refine q_take (.pointer (some ⟨g1, p, none⟩)) rfl (fun w' hw' => e_val _ _ (Tryz.nsix g1 s.length k1 p hpl _)) ?_; simp only [Act.put, List.setIfInBounds_toArray, List.set_cons_succ, List.set_cons_zero]
          refine q_take (.int .i64 y) rfl (fun w' hw' => e_load 3 (.tmp 38) ⟨g1, p, none⟩ _ rfl (Tryz.isAgg3 _) (hw'.cell hcy)) ?_; simp only [Act.put, List.setIfInBounds_toArray, List.set_cons_succ, List.set_cons_zero]
          refine wpQuiet_nil ?_
          intro w7 g7
          have b1 := g7.blk b1
          have own := g7.row own
          have ownm := g7.row ownm
          have gg := gg.gr' g7
          have hxs : x < (slB c s j).length := by rw [HSL.out]; exact hxl
          have hys : y < (slB c s j).length := by rw [HSL.out]; exact hyl
          have hs36 : (slB c s j).length ≤ 36 := by rw [HSL.out]; exact h36
          go_wp2_with (first | (go_at_call 70; refine (exchange_any B W H (slB c s j) x y _ b1 hxs hys hs36).mono ?_; rintro e w8 ⟨rfl, b8, u8⟩; have ownm := u8.row ownm (own_ne ownm b1 (by decide)); have own := u8.row own (own_ne own b1 (by decide)); have gg := gg.upd u8; have z8 := u8.size; have zg := gg.size) | (refine r_slice1 32 3 (.tmp 44) (.int .i64 ((j : Int) - (p : Int))) rfl (Tryz.bsi1 _ _) rfl ?_; intro w9 B9 N9; have g9 := N9.gr; have b8 := g9.blk b8; have ownm := g9.row ownm; have own := g9.row own; have gg := gg.gr' g9; have z9 := g9.size; have zg := gg.size) | (refine r_append (.tmp 41) (.tmp 45) 32 3 _ 1 8 w.heap.size Tryz.intsI _ _ (intsV (mvB c s j)) rfl ownm ⟨B9, 0, none⟩ 1 1 [.int .i64 ((j : Int) - (p : Int))] rfl rfl N9.cell1 (by intro u hu; simp at hu; subst hu; rfl) (by omega) (by decide) (by omega) rfl ?_; intro v10 w10 own10 g10))
          have b10 := g10.blk b8 (own_ne ownm b8 (by decide))
          have own11 := g10.row own (own_apart' OWN0.out ownm (Nat.le_refl _))
          have gg10 := gg.newer g10 (own_gr ownm (Nat.le_refl _))
          have own10' : w10.ownsRow w.heap.size 3 1 v10 (mvB c s (j + 1)).length (intsV (mvB c s (j + 1))) := by
            rw [HS.out.2.2, List.length_append, ← intsV_append]
            have e : intsV [((j - p : Nat) : Int)] = [.int .i64 ((j : Int) - (p : Int))] := by show [Value.int .i64 _] = _; first | rfl | (congr 2; omega) | (congr 2)
            rw [e]
            exact own10
          go_step3
          try simp only [Exit.jump]
          exact ⟨rfl, ⟨j + 1, p + 1, v10, _, _, _, _, _, _, _, _, _, _, _, _, _, _, _, _, _, _, _, _, _, _, _, _, _, _, _, _, _, _, _, _, _, _, _, _, _, _, _, _, _, _, _, _, _, _, rfl, by go_num, by go_num, by omega, HS.out.1, by rw [HS.out.2.1]; exact b10, own10', own11, gg10⟩, by simp [intOf]; omega⟩
        · have HQ := hidI (fun (w : World) => (show Calls Tryz.prog 69 #[.int .u8 (at0 c x).toNat] w (fun e w' => e = .returned (.bool false) ∧ w' = w) from (isBall_any (at0 c x) w).mono fun e w' h => ⟨by rw [h.1]; simp [hb], h.2.symm⟩))
          have hb' : ¬ ballB (at0 c (s.getD j 0)) = true := by rw [← hx]; exact hb
          have HS := hidI (show nbB c s (j + 1) = nbB c s j ∧ slB c s (j + 1) = slB c s j ∧ mvB c s (j + 1) = mvB c s j from ⟨by rw [nbB, if_neg hb']; rfl, by rw [slB, if_neg hb'], by rw [mvB, if_neg hb']⟩)
          clear hst hb hb' hnp hx
          go_wp2
          go_quiet ((go_at_call 69; exact Calls.quiet_of_same (HQ.out _)))
          go_wp2
          have gq := (Gr.refl wr).drewN nq
          go_roundw
          case rel => exact ⟨j + 1, by omega, by omega, by go_num, by rw [HS.out.1]; exact HP, by rw [HS.out.2.1]; exact gq.blk b1, by rw [HS.out.2.2]; exact gq.row ownm, gq.row own, gg.gr' gq⟩
          case measure => simp [intOf]; omega
      · have hjl : j = s.length := by omega
        have hd : decide (j < s.length) = false := by simp; omega
        have HJ := hidI hjl
        have hnl : ¬ (j : Int) < (s.length : Int) := by omega
        clear hjl hlt
        go_wp2
        go_quiet (fail)
        have gq := (Gr.refl wr).drewN nq
        have b1 := gq.blk b1
        have ownm := gq.row ownm
        have gg := gg.gr' gq
        rw [HJ.out] at b1 ownm
        generalize wr.drewN nq = wq at *
        go_wp2
        simp only [Exit.jump]
        go_ret
        exact ⟨b1, gg, _, rfl, ownm⟩
theorem slB_eq {c : List UInt8} {s : List Nat} (h : Str c s) (j : Nat) (hj : j ≤ s.length) : nbB c s j = nbTo c s j ∧ mvB c s j = mvTo c s j ∧ slB c s j = slTo c s j := by
  induction j with
  | zero => exact ⟨rfl, rfl, rfl⟩
  | succ j ih =>
    obtain ⟨e1, e2, e3⟩ := ih (by omega)
    have hb : ballB (at0 c (s.getD j 0)) = isBallB (at0 c (s.getD j 0)) := ball_str (h.ok _ (getD_mem (by omega)))
    unfold nbB mvB slB nbTo mvTo slTo
    rw [e1, e2, e3, hb]
    exact ⟨rfl, rfl, rfl⟩
theorem slide_any (B base : Nat) (W H : Int) (c : List UInt8) (s : List Nat) (sv : Value) (w : World) (hb : Blk w B (gv W H c) 43) (hs : Str c s) (h36 : c.length ≤ 36) (own : w.ownsRow base 3 1 sv s.length (intsV (zz s))) (h7 : s.length ≤ 7) :
    Calls Tryz.prog 42 #[.pointer (some ⟨B, 0, none⟩), sv] w fun e w' => Blk w' B (gv W H (slTo c s s.length)) 43 ∧ Grb (some B) w w' ∧ ∃ mv, e = .returned mv ∧ w'.ownsRow w.heap.size 3 1 mv (mvTo c s s.length).length (intsV (mvTo c s s.length)) := by
  have h := slideB_any B base W H c s sv w hb hs.weak h36 own h7
  obtain ⟨-, e2, e3⟩ := slB_eq hs s.length (Nat.le_refl _)
  rw [e2, e3] at h
  exact h
end Go.Proofs.YtpdmfbhjneodeaaGreatDoor
namespace Go.Proofs.YtpdmfbhjneodeaaGreatDoor
open Go.RowKit
/-- A grid of cells. -/
structure Cel (g : Grid) : Prop where
  w7 : g.w ≤ 7
  h7 : g.h ≤ 7
  n36 : nn g.w g.h ≤ 36
  len : g.c.length = nn g.w g.h
  cells : ∀ i, i < g.c.length → isCellB (at0 g.c i) = true
theorem Cel.strs {g : Grid} (h : Cel g) {d : Nat} (hd : d < 4) : Strs g.w g.h g.c d (strL g.w g.h g.c d) := strs_sorted hd h.w7 h.h7 h.len h.cells
theorem slAll_cell {W H : Nat} {c : List UInt8} {d : Nat} {L : List (List Nat)} (h : Strs W H c d L) (hc : ∀ i, i < c.length → isCellB (at0 c i) = true) : ∀ i, i < c.length → isCellB (at0 (slAll c L) i) = true := by
  obtain ⟨a1, a2⟩ := slAll_at L c h.str h.apart
  intro i hi
  by_cases hm : ∃ s ∈ L, i ∈ s
  · obtain ⟨s, hs, hm⟩ := hm
    obtain ⟨k, hk, rfl⟩ := mem_getD hm
    rw [a2 s hs k hk]
    unfold isCellB
    rcases fin_cell c s k with e | e
    · rw [e]; rfl
    · rw [e]; simp
  · rw [a1 i (fun s hs hi => hm ⟨s, hs, hi⟩)]
    exact hc i hi
theorem Cel.tilt {g : Grid} (h : Cel g) {d : Nat} (hd : d < 4) : Cel (tiltG d g) :=
  ⟨h.w7, h.h7, h.n36, (slAll_length _ _).trans h.len, fun i hi => slAll_cell (h.strs hd) h.cells i (by rwa [show (tiltG d g).c.length = g.c.length from slAll_length _ _] at hi)⟩
def runG (ds : List Nat) (g : Grid) : Grid := ds.foldl (fun g d => tiltG d g) g
theorem runG_snoc (ds : List Nat) (d : Nat) (g : Grid) : runG (ds ++ [d]) g = tiltG d (runG ds g) := by unfold runG; rw [List.foldl_append]; rfl
theorem Cel.run {g : Grid} (h : Cel g) (ds : List Nat) (hd : ∀ d ∈ ds, d < 4) : Cel (runG ds g) := by
  induction ds generalizing g with
  | nil => exact h
  | cons d ds ih => exact ih (h.tilt (hd d (by simp))) (fun e he => hd e (by simp [he]))
theorem runG_w (ds : List Nat) (g : Grid) : (runG ds g).w = g.w ∧ (runG ds g).h = g.h := by
  induction ds generalizing g with
  | nil => exact ⟨rfl, rfl⟩
  | cons d ds ih => exact ih (tiltG d g)
theorem slAll_snoc (c : List UInt8) (L : List (List Nat)) (s : List Nat) : slAll c (L ++ [s]) = slTo (slAll c L) s s.length := by unfold slAll; rw [List.foldl_append]; rfl
theorem slAll_take {c : List UInt8} {L : List (List Nat)} {k : Nat} {s : List Nat} (h : L[k]? = some s) : slAll c (L.take (k + 1)) = slTo (slAll c (L.take k)) s s.length := by
  rw [List.take_add_one, h]; exact slAll_snoc _ _ _
theorem Strs.step {W H : Nat} {c : List UInt8} {d : Nat} {L : List (List Nat)} (h : Strs W H c d L) {k : Nat} {s : List Nat} (hk : L[k]? = some s) : Str (slAll c (L.take k)) s ∧ ∀ i ∈ s, at0 c i = at0 (slAll c (L.take k)) i := by
  have hs : s ∈ L := List.mem_of_getElem? hk
  have hkl : k < L.length := by
    rcases Nat.lt_or_ge k L.length with h | h
    · exact h
    · rw [List.getElem?_eq_none h] at hk; cases hk
  have hap : Apart (L.take k) := List.Pairwise.sublist (List.take_sublist k L) h.apart
  obtain ⟨a1, -⟩ := slAll_at (L.take k) c (fun t ht => h.str t (List.mem_of_mem_take ht)) hap
  have hc : ∀ i ∈ s, at0 c i = at0 (slAll c (L.take k)) i := fun i hi => by
    rw [a1 i]
    intro t ht hit
    obtain ⟨j, hj, rfl⟩ := List.getElem_of_mem ht
    have hjk : j < k := by rw [List.length_take] at hj; omega
    rw [List.getElem_take] at hit
    have := List.pairwise_iff_getElem.1 h.apart j k (by omega) hkl hjk
    rw [List.getElem?_eq_getElem hkl] at hk
    rw [Option.some.inj hk] at this
    exact this i hit hi
  exact ⟨(h.str s hs).congr (slAll_length _ _) hc, hc⟩
theorem RowsK.grbB {T T' : TypeId} {base : Nat} {L : List (List Int)} {k j : Nat} {vs : List Value} {w w' : World} {B : Nat} {cs : Array Value} (h : RowsK T base L k j vs w) (hb : Blk w B cs T') (hT : T' ≠ T) (g : Grb (some B) w w') : RowsK T base L k j vs w' :=
  ⟨fun i l hl => by obtain ⟨v, hv, h1⟩ := h.at' i l hl; exact ⟨v, hv, g.row h1 (.inr (own_ne h1 hb hT))⟩, h.ap⟩
theorem RowsK.get {T : TypeId} {base k : Nat} {L : List (List Nat)} {vs : List Value} {w : World} (h : RowsK T base (zzz L) k 0 vs w) {i : Nat} {s : List Nat} (hs : L[i]? = some s) : ∃ v, vs[i]? = some v ∧ w.ownsRow base T 1 v s.length (intsV (zz s)) := by
  obtain ⟨v, hv, ho⟩ := h.at' i (zz s) (by unfold zzz; rw [List.getElem?_map, hs]; rfl)
  rw [if_neg (Nat.not_lt_zero _), zz_length] at ho
  exact ⟨v, hv, ho⟩
/-- A word's directions in memory. -/
def WordAt (w : World) (wv : Value) (ds : List Nat) : Prop :=
  ∃ p cap, wv = .slice p ds.length cap ∧ ∀ j, j < ds.length → ∃ B o, p = some ⟨B, o, none⟩ ∧ w.cell? ⟨B, o + j, none⟩ = some (.int .u8 (dB (ds.getD j 0)).toNat)
theorem WordAt.gr {w w' : World} {wv : Value} {ds : List Nat} (h : WordAt w wv ds) (g : Gr w w') : WordAt w' wv ds := by
  obtain ⟨p, cap, e, hc⟩ := h
  exact ⟨p, cap, e, fun j hj => by obtain ⟨B, o, h1, h2⟩ := hc j hj; exact ⟨B, o, h1, g.cell h2⟩⟩
/-- A grid whatever its cells are. -/
structure Wal (g : Grid) : Prop where
  w7 : g.w ≤ 7
  h7 : g.h ≤ 7
  n36 : nn g.w g.h ≤ 36
  len : g.c.length = nn g.w g.h
theorem Cel.wal {g : Grid} (h : Cel g) : Wal g := ⟨h.w7, h.h7, h.n36, h.len⟩
theorem Wal.strs {g : Grid} (h : Wal g) {d : Nat} (hd : d < 4) : StrsW g.w g.h (nn g.w g.h) (strL g.w g.h g.c d) := strsW hd h.w7 h.h7
theorem Wal.tilt {g : Grid} (h : Wal g) (d : Nat) : Wal (tiltB d g) := ⟨h.w7, h.h7, h.n36, (slAllB_length _ _).trans h.len⟩
def runB (ds : List Nat) (g : Grid) : Grid := ds.foldl (fun g d => tiltB d g) g
theorem runB_snoc (ds : List Nat) (d : Nat) (g : Grid) : runB (ds ++ [d]) g = tiltB d (runB ds g) := by unfold runB; rw [List.foldl_append]; rfl
theorem Wal.run {g : Grid} (h : Wal g) (ds : List Nat) : Wal (runB ds g) := by
  induction ds generalizing g with
  | nil => exact h
  | cons d ds ih => exact ih (h.tilt d)
theorem runB_w (ds : List Nat) (g : Grid) : (runB ds g).w = g.w ∧ (runB ds g).h = g.h := by
  induction ds generalizing g with
  | nil => exact ⟨rfl, rfl⟩
  | cons d ds ih => exact ih (tiltB d g)
theorem slAllB_take {c : List UInt8} {L : List (List Nat)} {k : Nat} {s : List Nat} (h : L[k]? = some s) : slAllB c (L.take (k + 1)) = slB (slAllB c (L.take k)) s s.length := by
  rw [List.take_add_one, h]; unfold slAllB; rw [List.foldl_append]; rfl
set_option maxHeartbeats 4000000 in
set_option maxRecDepth 100000 in
theorem tiltedB_any (g : Grid) (ds : List Nat) (wv : Value) (w : World) (hg : Wal g) (hd : ∀ d ∈ ds, d < 4) (hw : WordAt w wv ds) (hn : ds.length ≤ 1048576) :
    Calls Tryz.prog 30 #[.agg (gvG g), wv] w (Ret (.agg (gvG (runB ds g))) w) := by
  have gg := Gr.refl w
  obtain ⟨p, cap, rfl, hc⟩ := hw
  have HC := hidI hc
  have HD := hidI hd
  clear hc hd
  unfold gvG
  have hW := (runB_w ds g).1
  have hH := (runB_w ds g).2
  rw [hW, hH]
  clear hW hH
  go_enter Tryz.func30, Tryz.ntmps30
  go_wp2_with (first | (refine r_box 43 _ (gv g.w g.h g.c) rfl rfl ?_; intro w1 B1 N1; have g1 := N1.gr; have b1 : Blk w1 B1 (gv g.w g.h g.c) 43 := N1.blk; have l1 := N1.lo; have t1 := N1.hi; have z1 := g1.size; have gg := gg.trans g1; clear N1; obtain ⟨b1_0, b1_1, b1_2⟩ := gcells b1) | (refine r_alloc (dst := some 4) 43 _ Tryz.gzero rfl ?_; intro w2 B2 N2; have g2 := N2.gr; have b2 : Blk w2 B2 (gv 0 0 []) 43 := N2.blk; have l2 := N2.lo; have t2 := N2.hi; have z2 := g2.size; have b1 := g2.blk b1; obtain ⟨b1_0, b1_1, b1_2⟩ := gcells b1; have gg := gg.trans g2; clear N2; obtain ⟨b2_0, b2_1, b2_2⟩ := gcells b2))
  go_loopw [11] (fun iv wr => ∃ m : Nat, m ≤ ds.length ∧ iv = .int .i64 m ∧ Blk wr B1 (gv g.w g.h (runB (ds.take m) g).c) 43 ∧ Blk wr B2 (gv 0 0 []) 43 ∧ Gr w wr) (fun iv _ => ds.length - (intOf iv).toNat)
  case atStart => exact ⟨0, Nat.zero_le _, rfl, b1, b2, gg⟩
  case round =>
    obtain ⟨m, hm, rfl, b1, b2, gg⟩ := hrel
    obtain ⟨wo, rfl⟩ : ∃ wo : World, wo = wr := ⟨_, rfl⟩
    by_cases hlt : m < ds.length
    · obtain ⟨d, hdm⟩ : ∃ d, ds.getD m 0 = d := ⟨_, rfl⟩
      have hd4 : d < 4 := HD.out d (by rw [← hdm]; exact getD_mem hlt)
      obtain ⟨Bw, o, rfl, hcw⟩ := HC.out m hlt
      rw [hdm] at hcw
      have hcw := gg.cell hcw
      have hcel := hg.run (ds.take m)
      have hrw := runB_w (ds.take m) g
      obtain ⟨t, ht⟩ : ∃ t, t = runB (ds.take m) g := ⟨_, rfl⟩
      rw [← ht] at b1 hcel hrw
      obtain ⟨tw, th⟩ := hrw
      have hnx : (runB (ds.take (m + 1)) g).c = slAllB t.c (strL t.w t.h t.c d) := by
        have : ds[m]? = some d := by rw [← hdm, List.getD_eq_getElem?_getD, List.getElem?_eq_getElem hlt]; rfl
        rw [List.take_add_one, this]
        show (runB (ds.take m ++ [d]) g).c = _
        rw [runB_snoc, ← ht]; rfl
      rw [tw, th] at hnx
      obtain ⟨c, hcc⟩ : ∃ c, c = t.c := ⟨_, rfl⟩
      have w7 := hcel.w7
      have h7 := hcel.h7
      have n36 := hcel.n36
      have hlen := hcel.len
      rw [tw] at w7
      rw [th] at h7
      rw [tw, th] at n36 hlen
      rw [← hcc] at b1 hnx hlen
      have hS := strsW (c := c) hd4 w7 h7
      obtain ⟨L, hL⟩ : ∃ L, L = strL g.w g.h c d := ⟨_, rfl⟩
      rw [← hL] at hS
      rw [← hL] at hnx
      have HNX := hidI hnx
      have HS := hidI hS
      have HLEN := hidI hlen
      have HLL := hidI hL
      have h36 : c.length ≤ 36 := by omega
      clear hdm hcel ht tw th hcc hnx hS hL hlen
      go_wp2_with (first | (refine r_load_row 43 _ _ rfl _ _ _ b1 Tryz.underlying43 rfl (Tryz.ginfo' _ _ _) rfl ?_))
      refine (stretchesW_any g.w g.h d c _ hd4 w7 h7 n36 HLEN.out).mono ?_
      rintro e w3 ⟨g3, sv, vs, rfl, own, R⟩
      rw [← HLL.out] at own R
      have hsmall := HS.out.small
      rw [zzz_length] at own
      obtain ⟨p3, n3, k3, rfl⟩ := own_slice own
      obtain rfl : n3 = L.length := own_len own
      have b1 := g3.blk b1
      have b2 := g3.blk b2
      have gg := gg.trans g3
      go_wp2
      go_loopw [19] (fun iv wr => ∃ k : Nat, k ≤ L.length ∧ iv = .int .i64 k ∧ Blk wr B1 (gv g.w g.h (slAllB c (L.take k))) 43 ∧ Blk wr B2 (gv 0 0 []) 43 ∧ wr.ownsRow wo.heap.size 32 1 (.slice p3 L.length k3) L.length vs ∧ RowsK 3 wo.heap.size (zzz L) 1 0 vs wr ∧ Gr w wr) (fun iv _ => L.length - (intOf iv).toNat)
      case atStart => exact ⟨0, Nat.zero_le _, rfl, b1, b2, own, R, gg⟩
      case round =>
        obtain ⟨k, hk, rfl, b1, b2, own, R, gg⟩ := hrel
        by_cases hlk : k < L.length
        · obtain ⟨s, hs⟩ : ∃ s, L[k]? = some s := ⟨L[k], List.getElem?_eq_getElem hlk⟩
          obtain ⟨v, hv, ov⟩ := R.get hs
          obtain ⟨g1', c1', e1, -, -⟩ := own_shape own (by omega)
          cases e1
          have hcv := own_val own k v hlk hv
          have hst : StrW (slAllB c (L.take k)) s := ⟨HS.out.nd s (List.mem_of_getElem? hs), fun i hi => by rw [slAllB_length, HLEN.out]; exact HS.out.lt s (List.mem_of_getElem? hs) i hi⟩
          have hs7 := (HS.out.len7 s (List.mem_of_getElem? hs)).2
          have HT := hidI (slAllB_take (c := c) hs)
          have hcl : (slAllB c (L.take k)).length ≤ 36 := by rw [slAllB_length]; exact h36
          have lo1 : w.heap.size ≤ B1 := by omega
          have hB12 : B1 < B2 := by omega
          have hix := Tryz.ssix g1' L.length k3 k hlk
          obtain ⟨pv, nv, kv, rfl⟩ := own_slice ov
          have OV := hidI ov
          clear hs hv ov
          go_wp2_with (go_at_call 42; refine (slideB_any B1 wo.heap.size g.w g.h (slAllB c (L.take k)) s _ _ b1 hst hcl OV.out hs7).mono ?_; rintro e w5 ⟨b15, g5, mv, rfl, -⟩)
          have own5 := g5.row own (.inr (own_ne own b1 (by decide)))
          have R5 := R.grbB b1 (by decide) g5
          have b25 := g5.blk b2 (fun e => by have := Option.some.inj e; omega)
          have gg5 := g5.gr gg (fun x hx => by cases hx; exact lo1)
          rw [← HT.out] at b15
          go_roundw
          case rel => exact ⟨k + 1, by omega, by go_num, b15, b25, own5, R5, gg5⟩
          case measure => simp [intOf]; omega
        · obtain rfl : k = L.length := by omega
          rw [List.take_length, ← HNX.out] at b1
          clear hlk
          go_wp2
          go_roundw
          case rel => exact ⟨m + 1, by omega, by go_num, b1, b2, gg⟩
          case measure => simp [intOf]; omega
    · obtain rfl : m = ds.length := by omega
      clear hlt
      rw [List.take_length] at b1
      go_wp2_with (first | (refine r_load_row 43 _ _ rfl _ _ _ b1 Tryz.underlying43 rfl (Tryz.ginfo' _ _ _) rfl ?_) | (refine r_store_row 43 43 _ _ _ rfl (gv _ _ _) _ rfl b2 (Tryz.gsize' _ _ _) (by simp only [gv_size]) (gv_one _ _ _) rfl ?_; intro w8 u8 b2'; have z8 := u8.size; have gg := u8.gr gg (by omega); clear b2; have b2 := b2'; clear b2'; obtain ⟨b2_0, b2_1, b2_2⟩ := gcells b2))
      refine bodyPost_ret (results_row rfl _ _ _ _ _ _ rfl b2 Tryz.underlying43 rfl (Tryz.ginfo' _ _ _)) rfl ⟨?_, gg⟩
      rfl
theorem slAllB_eq {W H : Nat} {c : List UInt8} {d : Nat} {L : List (List Nat)} (h : Strs W H c d L) (k : Nat) (hk : k ≤ L.length) : slAllB c (L.take k) = slAll c (L.take k) := by
  induction k with
  | zero => rfl
  | succ k ih =>
    have hs : L[k]? = some L[k] := List.getElem?_eq_getElem hk
    rw [slAllB_take hs, slAll_take hs, ih (by omega)]
    exact (slB_eq (h.step hs).1 _ (Nat.le_refl _)).2.2
theorem tiltB_eq {g : Grid} (h : Cel g) {d : Nat} (hd : d < 4) : tiltB d g = tiltG d g := by
  have e := slAllB_eq (h.strs hd) (strL g.w g.h g.c d).length (Nat.le_refl _)
  rw [List.take_length] at e
  unfold tiltB tiltG
  rw [e]
theorem runB_eq {g : Grid} (h : Cel g) (ds : List Nat) (hd : ∀ d ∈ ds, d < 4) : runB ds g = runG ds g := by
  induction ds generalizing g with
  | nil => rfl
  | cons d ds ih =>
    have hd4 := hd d (by simp)
    show runB ds (tiltB d g) = runG ds (tiltG d g)
    rw [tiltB_eq h hd4]
    exact ih (h.tilt hd4) fun e he => hd e (by simp [he])
theorem tilted_any (g : Grid) (ds : List Nat) (wv : Value) (w : World) (hg : Cel g) (hd : ∀ d ∈ ds, d < 4) (hw : WordAt w wv ds) (hn : ds.length ≤ 1048576) :
    Calls Tryz.prog 30 #[.agg (gvG g), wv] w (Ret (.agg (gvG (runG ds g))) w) := by
  have h := tiltedB_any g ds wv w hg.wal hd hw hn
  rw [runB_eq hg ds hd] at h
  exact h
end Go.Proofs.YtpdmfbhjneodeaaGreatDoor
