/-
  Rows of structs, one written whole and the rest cleared; the least text of the farthest states.
-/
import Derived.Test.YtpdmfbhjneodeaaGreatDoorReachR
import Derived.Test.YtpdmfbhjneodeaaGreatDoorCallC
import Derived.Lib.SliceRun
import Derived.Deep.MidRow
namespace Go.Proofs.YtpdmfbhjneodeaaGreatDoor
open Go.RowKit
theorem setCells_allW {B : Nat} {T : TypeId} : ∀ (vs : List Value) (o : Nat) (w : World) (cs : Array Value), Blk w B cs T → o + vs.length ≤ cs.size →
    Upd B w (w.setCells B o vs) ∧ ∃ cs' : Array Value, Blk (w.setCells B o vs) B cs' T ∧ cs'.size = cs.size ∧ ∀ k, cs'[k]? = if o ≤ k ∧ k < o + vs.length then vs[k - o]? else cs[k]?
  | [], o, w, cs, hb, _ => ⟨⟨rfl, rfl, rfl, rfl, fun _ _ => rfl⟩, cs, hb, rfl, fun k => by rw [if_neg (by simp only [List.length_nil]; omega)]⟩
  | v :: r, o, w, cs, hb, hl => by
    have hl' : o + (r.length + 1) ≤ cs.size := hl
    have hu : Upd B w (w.setCell ⟨B, o, none⟩ v) := Upd.setCell w ⟨B, o, none⟩ v
    have hb1 : Blk (w.setCell ⟨B, o, none⟩ v) B (cs.setIfInBounds o v) T := heap_setCell_same w B o cs T v hb
    obtain ⟨u2, cs', b2, hs, hk⟩ := setCells_allW r (o + 1) (w.setCell ⟨B, o, none⟩ v) (cs.setIfInBounds o v) hb1 (by rw [Array.size_setIfInBounds]; omega)
    refine ⟨⟨u2.os.trans hu.os, u2.tape.trans hu.tape, u2.output.trans hu.output, hu.size.trans u2.size, fun k h => (u2.block k h).trans (hu.block k h)⟩, cs', b2, by rw [hs, Array.size_setIfInBounds], fun k => ?_⟩
    rw [hk k, List.length_cons]
    by_cases e : k = o
    · subst e
      rw [if_neg (by omega), if_pos (by omega), Nat.sub_self, Array.getElem?_setIfInBounds, if_pos rfl, if_pos (by omega)]
      rfl
    · by_cases h2 : o + 1 ≤ k ∧ k < o + 1 + r.length
      · rw [if_pos h2, if_pos (by omega), show k - o = (k - (o + 1)) + 1 by omega]
        rfl
      · rw [if_neg h2, if_neg (by omega), Array.getElem?_setIfInBounds, if_neg (fun h => e h.symm)]
theorem flat_takeW {m : Nat} : ∀ (L : List (List Value)) (i : Nat), Wide m L → i ≤ L.length → L.flatten.take (i * m) = (L.take i).flatten
  | _, 0, _, _ => by simp
  | [], i + 1, _, h => by simp at h
  | r :: L, i + 1, hW, h => by
    have hr := hW r (by simp)
    rw [List.flatten_cons, List.take_succ_cons, List.flatten_cons, List.take_append, ← flat_takeW L i (fun x hx => hW x (by simp [hx])) (by simpa using h), hr, Nat.succ_mul, List.take_of_length_le (by omega), Nat.add_sub_cancel]
section
variable {w : World} {base : Nat} {e : TypeId} {m g n cap : Nat} {L : List (List Value)}
/-- One row is written whole. -/
theorem own_set_rowW {j : Nat} {r : List Value} (hr : w.ownsRow base e m (.slice (some ⟨g, 0, none⟩) n cap) n L.flatten) (hW : Wide m L) (hn : L.length = n) (hj : j < n) (hm : 0 < m) (hl : r.length = m) :
    w.there g (j * m) m ∧ Upd g w (w.setCells g (j * m) r) ∧ (w.setCells g (j * m) r).ownsRow base e m (.slice (some ⟨g, 0, none⟩) n cap) n (L.set j r).flatten := by
  have hlt : j * m + m ≤ n * m := by
    have : (j + 1) * m ≤ n * m := Nat.mul_le_mul_right m hj
    rw [Nat.add_mul] at this
    omega
  have hW2 : Wide m (L.set j r) := by
    intro x hx
    rcases List.mem_or_eq_of_mem_set hx with h | h
    · exact hW x h
    · rw [h, hl]
  rcases hr.2 with ⟨h', _⟩ | ⟨g', cap', cur, h', hb, hg, hnc, hcm, hcs, htake⟩
  · cases h'
  · simp only [Value.slice.injEq, Option.some.injEq, Addr.mk.injEq, and_true, true_and] at h'
    obtain ⟨rfl, rfl⟩ := h'
    have hcap : n * m ≤ cap * m := Nat.mul_le_mul_right m hnc
    obtain ⟨u, cs', b, hs, hk⟩ := setCells_allW (T := e) r (j * m) w cur hg (by omega)
    have hb0 : Blk w g cur e := hg
    refine ⟨fun i hi => ⟨?_, hb0.free _⟩, u, ?_, .inr ⟨g, cap, cs', rfl, hb, b, hnc, hcm, by rw [hs]; exact hcs, ?_⟩⟩
    · rw [hb0.cell, Array.getElem?_eq_getElem (by omega)]
      rfl
    · have h1 := hr.1
      rw [flat_len hW] at h1
      rw [flat_len hW2, List.length_set]
      exact h1
    · apply List.ext_getElem?
      intro k
      rw [List.getElem?_take]
      by_cases hk2 : k < n * m
      · have hy : k % m < m := Nat.mod_lt _ hm
        have hx : k / m < n := Nat.div_lt_of_lt_mul (by rw [Nat.mul_comm]; exact hk2)
        have e0 : k = k / m * m + k % m := by rw [Nat.mul_comm]; exact (Nat.div_add_mod k m).symm
        have e1 : (L.set j r).flatten[k]? = ((L.set j r).getD (k / m) [])[k % m]? := by
          conv => lhs; rw [e0]
          exact flat_get hy _ hW2 (by rw [List.length_set]; omega)
        have e2 : cur[k]? = (L.getD (k / m) [])[k % m]? := by
          have := congrArg (fun z : List Value => z[k]?) htake
          simp only [List.getElem?_take, if_pos hk2, Array.getElem?_toList] at this
          rw [this]
          conv => lhs; rw [e0]
          exact flat_get hy _ hW (by omega)
        rw [if_pos hk2, Array.getElem?_toList, hk k, e1, e2, hl]
        by_cases hj2 : k / m = j
        · have h3 : j * m ≤ k ∧ k < j * m + m := by rw [← hj2]; omega
          rw [if_pos h3, hj2, List.getD_eq_getElem?_getD, List.getElem?_set_self (by omega)]
          have : k - j * m = k % m := by rw [← hj2]; omega
          rw [this]
          rfl
        · have h3 : ¬ (j * m ≤ k ∧ k < j * m + m) := by
            rintro ⟨h4, h5⟩
            refine hj2 ?_
            rw [Nat.div_eq_iff hm]
            constructor <;> omega
          rw [if_neg h3, List.getD_eq_getElem?_getD, List.getD_eq_getElem?_getD, List.getElem?_set_ne (fun h => hj2 h.symm)]
      · rw [if_neg hk2, List.getElem?_eq_none (by rw [flat_len hW2, List.length_set, hn]; omega)]
/-- The first i rows of a row whose others were overwritten. -/
theorem own_cutW {i : Nat} {zl : List Value} (hr : w.ownsRow base e m (.slice (some ⟨g, 0, none⟩) n cap) n L.flatten) (hW : Wide m L) (hn : L.length = n) (hi : i ≤ n) (hl : zl.length = (n - i) * m) :
    Upd g w (w.setCells g (i * m) zl) ∧ (w.setCells g (i * m) zl).ownsRow base e m (.slice (some ⟨g, 0, none⟩) i cap) i (L.take i).flatten := by
  have him : i * m ≤ n * m := Nat.mul_le_mul_right m hi
  have hsub : (n - i) * m = n * m - i * m := Nat.sub_mul _ _ _
  rcases hr.2 with ⟨h', _⟩ | ⟨g', cap', cur, h', hb, hg, hnc, hcm, hcs, htake⟩
  · cases h'
  · simp only [Value.slice.injEq, Option.some.injEq, Addr.mk.injEq, and_true, true_and] at h'
    obtain ⟨rfl, rfl⟩ := h'
    have hcap : n * m ≤ cap * m := Nat.mul_le_mul_right m hnc
    obtain ⟨u, cs', b, hs, hk⟩ := setCells_allW (T := e) zl (i * m) w cur hg (by omega)
    refine ⟨u, ?_, .inr ⟨g, cap, cs', rfl, hb, b, by omega, hcm, by rw [hs]; exact hcs, ?_⟩⟩
    · rw [flat_len (fun x hx => hW x (List.mem_of_mem_take hx)), List.length_take, hn, Nat.min_eq_left hi]
    · rw [← flat_takeW L i hW (by omega), ← htake, List.take_take, Nat.min_eq_left him]
      apply List.ext_getElem?
      intro k
      rw [List.getElem?_take, List.getElem?_take]
      split
      · rw [Array.getElem?_toList, Array.getElem?_toList, hk k, if_neg (by omega)]
      · rfl
end
/-- The rest of a row of structs is cleared. -/
theorem run_clearW {P : Program} (w : World) (t e : TypeId) (z : Array Value) (m : Nat) (hm : z.size = m) (h0 : 0 < m) (ht : P.underlying t = some (.slice e)) (hv : ∀ w, (zeroValue e).run P w = .ok (.agg z) w) (h1 : ∀ v ∈ z.toList, v.oneCell' = true) (b o n c : Nat) (hn : 0 < n)
    (hc : ∀ j, j < n * m → (w.cell? ⟨b, o + j, none⟩).isSome = true) (hf : ∀ j, j < n * m → w.frozen? ⟨b, o + j, none⟩ = false) :
    ∃ zl : List Value, zl.length = n * m ∧ ∀ ty, (Builtin.clear_ #[t] ty #[.slice (some ⟨b, o, none⟩) n c]).run P w = .ok (.tuple #[]) (w.setCells b o zl) := by
  have hlen : (Builtin.zeroCells z n).toList.length = n * m := by simp [Builtin.zeroCells, hm]
  refine ⟨(Builtin.zeroCells z n).toList, hlen, fun ty => ?_⟩
  have hst := run_storeCells_cells (P := P) b o (Builtin.zeroCells z n).toList 0 w (by rw [hlen]; simpa using hc) (by rw [hlen]; simpa using hf) (by
    intro v hv'
    unfold Builtin.zeroCells at hv'
    rw [Array.toList_map, List.mem_map] at hv'
    obtain ⟨i, -, rfl⟩ := hv'
    refine h1 _ ?_
    rw [hm]
    have : i % m < z.size := by rw [hm]; exact Nat.mod_lt _ h0
    rw [getElem!_pos z (i % m) this]
    exact Array.getElem_mem_toList this)
  simp only [Nat.add_zero] at hst
  obtain ⟨k, rfl⟩ : ∃ k, n = k + 1 := ⟨n - 1, by omega⟩
  have hcz : (Value.agg z).cells = z := rfl
  simp [Builtin.clear_, run_underlying ht, hv, hcz, hst]
/-! the states that stay -/
def shA (S : List (Sta Grid)) (i0 i x : Nat) : Sta Grid := if x < i then sta S (i0 + x) else sta S x
def shN (nx : Nat → Value) (i0 i x : Nat) : Value := if x < i then nx (i0 + x) else nx x
def shR (S : List (Sta Grid)) (nx : Nat → Value) (i0 i : Nat) : List (List Value) := (List.range S.length).map fun x => cellS (shA S i0 i x) (shN nx i0 i x)
theorem shR_length (S : List (Sta Grid)) (nx : Nat → Value) (i0 i : Nat) : (shR S nx i0 i).length = S.length := by simp [shR]
theorem shR_wide (S : List (Sta Grid)) (nx : Nat → Value) (i0 i : Nat) : Wide 43 (shR S nx i0 i) := by
  intro r hr
  unfold shR at hr
  obtain ⟨j, _, rfl⟩ := List.mem_map.1 hr
  exact cellS_length _ _
theorem shR_get (S : List (Sta Grid)) (nx : Nat → Value) (i0 i : Nat) {j : Nat} (hj : j < S.length) (hij : i ≤ j) : (shR S nx i0 i).getD j [] = cellS (sta S j) (nx j) := by
  unfold shR
  rw [List.getD_eq_getElem?_getD, List.getElem?_map, List.getElem?_range hj]
  unfold shA shN
  simp only [Option.map_some, Option.getD_some]
  rw [if_neg (by omega), if_neg (by omega)]
theorem shR_zero (S : List (Sta Grid)) (nx : Nat → Value) (i0 : Nat) : shR S nx i0 0 = rowsI S nx := by
  unfold shR rowsI shA shN
  simp
theorem shR_set (S : List (Sta Grid)) (nx : Nat → Value) {i0 i : Nat} (h : i < S.length) : (shR S nx i0 i).set i (cellS (sta S (i0 + i)) (nx (i0 + i))) = shR S nx i0 (i + 1) := by
  apply List.ext_getElem?
  intro k
  rw [List.getElem?_set]
  unfold shR
  by_cases e : i = k
  · subst e
    rw [if_pos rfl, if_pos (by simpa using h), List.getElem?_map, List.getElem?_range h]
    unfold shA shN
    simp only [Option.map_some]
    rw [if_pos (by omega), if_pos (by omega)]
  · rw [if_neg e, List.getElem?_map, List.getElem?_map]
    cases hr : (List.range S.length)[k]? with
      | none => rfl
      | some x =>
        have hx : x = k := by
          have := List.getElem?_eq_some_iff.1 hr
          obtain ⟨h1, h2⟩ := this
          rw [List.getElem_range] at h2
          exact h2.symm
        subst hx
        simp only [Option.map_some]
        unfold shA shN
        by_cases h3 : x < i
        · rw [if_pos h3, if_pos h3, if_pos (by omega), if_pos (by omega)]
        · rw [if_neg h3, if_neg h3, if_neg (by omega), if_neg (by omega)]
theorem sta_drop (S : List (Sta Grid)) (i0 x : Nat) : sta (S.drop i0) x = sta S (i0 + x) := by
  unfold sta
  rw [List.getD_eq_getElem?_getD, List.getD_eq_getElem?_getD, List.getElem?_drop]
theorem shR_take (S : List (Sta Grid)) (nx : Nat → Value) {i0 i : Nat} (h : i0 + i = S.length) : (shR S nx i0 i).take i = rowsI (S.drop i0) fun x => nx (i0 + x) := by
  unfold shR rowsI
  rw [← List.map_take, List.take_range, Nat.min_eq_left (by omega), List.length_drop, show S.length - i0 = i by omega]
  refine List.map_congr_left fun x hx => ?_
  have hx := List.mem_range.1 hx
  unfold shA shN
  rw [if_pos hx, if_pos hx, sta_drop]
/-! the farthest ones -/
theorem fst_ex {S : List (Sta Grid)} (h0 : 0 < S.length) (hm : ∀ i j, i ≤ j → j < S.length → (sta S i).far ≤ (sta S j).far) : ∃ i0, i0 < S.length ∧ (∀ j, j < i0 → (sta S j).far < gstF S) ∧ ∀ j, i0 ≤ j → j < S.length → (sta S j).far = gstF S := by
  have key : ∀ k, k < S.length → (sta S k).far = gstF S → ∃ i0, i0 < S.length ∧ (∀ j, j < i0 → (sta S j).far < gstF S) ∧ ∀ j, i0 ≤ j → j < S.length → (sta S j).far = gstF S := by
    intro k
    induction k with
    | zero => exact fun hk e => ⟨0, hk, fun j hj => absurd hj (Nat.not_lt_zero _), fun j _ hj => by
        have h1 := hm 0 j (Nat.zero_le _) hj
        have h2 := hm j (S.length - 1) (by omega) (by omega)
        unfold gstF at e ⊢
        omega⟩
    | succ k ih =>
      intro hk e
      by_cases e2 : (sta S k).far = gstF S
      · exact ih (by omega) e2
      · refine ⟨k + 1, hk, fun j hj => ?_, fun j hj1 hj => ?_⟩
        · have h1 := hm j k (by omega) (by omega)
          have h2 := hm k (S.length - 1) (by omega) (by omega)
          unfold gstF at e2 ⊢
          omega
        · have h1 := hm (k + 1) j hj1 hj
          have h2 := hm j (S.length - 1) (by omega) (by omega)
          unfold gstF at e ⊢
          omega
  exact key (S.length - 1) (by omega) rfl
/-- The least text of those among the first k that lie as far as the last one of them. -/
def LstK (S : List (Sta Grid)) (k : Nat) (t : List UInt8) : Prop := (∃ j, j < k ∧ (sta S j).far = (sta S (k - 1)).far ∧ txG (sta S j) = t) ∧ ∀ j, j < k → (sta S j).far = (sta S (k - 1)).far → t ≤ txG (sta S j)
theorem LstK.one {S : List (Sta Grid)} : LstK S 1 (txG (sta S 0)) := ⟨⟨0, Nat.one_pos, rfl, rfl⟩, fun j hj _ => by
  obtain rfl : j = 0 := by omega
  exact List.le_refl _⟩
theorem LstK.new {S : List (Sta Grid)} {k : Nat} (hm : ∀ i j, i ≤ j → j < S.length → (sta S i).far ≤ (sta S j).far) (hk : k < S.length) (h0 : 0 < k) (h : (sta S (k - 1)).far < (sta S k).far) : LstK S (k + 1) (txG (sta S k)) :=
  ⟨⟨k, Nat.lt_succ_self _, rfl, rfl⟩, fun j hj e => by
    rw [Nat.add_sub_cancel] at e
    by_cases h1 : j = k
    · rw [h1]; exact List.le_refl _
    · have := hm j (k - 1) (by omega) (by omega)
      omega⟩
theorem LstK.less {S : List (Sta Grid)} {k : Nat} {t : List UInt8} (h : LstK S k t) (e : (sta S k).far = (sta S (k - 1)).far) (hl : txG (sta S k) < t) : LstK S (k + 1) (txG (sta S k)) :=
  ⟨⟨k, Nat.lt_succ_self _, rfl, rfl⟩, fun j hj e2 => by
    rw [Nat.add_sub_cancel] at e2
    by_cases h1 : j = k
    · rw [h1]; exact List.le_refl _
    · exact List.le_trans (List.le_iff_lt_or_eq.2 (.inl hl)) (h.2 j (by omega) (e2.trans e))⟩
theorem LstK.stay {S : List (Sta Grid)} {k : Nat} {t : List UInt8} (h : LstK S k t) (e : (sta S k).far = (sta S (k - 1)).far) (hl : ¬ txG (sta S k) < t) : LstK S (k + 1) t := by
  obtain ⟨⟨j, hj, e1, e2⟩, h2⟩ := h
  refine ⟨⟨j, by omega, by rw [Nat.add_sub_cancel, e1, e], e2⟩, fun i hi e3 => ?_⟩
  rw [Nat.add_sub_cancel] at e3
  by_cases h1 : i = k
  · rw [h1]; exact List.not_lt.1 hl
  · exact h2 i (by omega) (e3.trans e)
theorem LstK.uniq {S : List (Sta Grid)} {k : Nat} {t u : List UInt8} (h : LstK S k t) (g : LstK S k u) : t = u := by
  obtain ⟨⟨i, hi, e1, rfl⟩, h2⟩ := h
  obtain ⟨⟨j, hj, e3, rfl⟩, g2⟩ := g
  exact List.le_antisymm (h2 j hj e3) (g2 i hi e1)
/-- The first one of the farthest states' texts in order. -/
theorem LstK.sorted {S : List (Sta Grid)} {i0 : Nat} (hi : i0 < S.length) (h1 : ∀ j, j < i0 → (sta S j).far < gstF S) (h2 : ∀ j, i0 ≤ j → j < S.length → (sta S j).far = gstF S) : LstK S S.length (ts (srtT (trT (S.drop i0) (S.drop i0).length)) 0) := by
  have hlen : (S.drop i0).length = S.length - i0 := List.length_drop
  obtain ⟨M, hM⟩ : ∃ M, M = trT (S.drop i0) (S.drop i0).length := ⟨_, rfl⟩
  have hMl : M.length = S.length - i0 := by rw [hM, trT_length, hlen]
  rw [← hM]
  have hmem : ∀ t, t ∈ M ↔ ∃ j, i0 ≤ j ∧ j < S.length ∧ txG (sta S j) = t := by
    intro t
    rw [hM]
    unfold trT
    rw [List.mem_map]
    constructor
    · rintro ⟨x, hx, rfl⟩
      have := List.mem_range.1 hx
      exact ⟨i0 + x, by omega, by omega, by rw [sta_drop]⟩
    · rintro ⟨j, hj1, hj2, rfl⟩
      exact ⟨j - i0, List.mem_range.2 (by omega), by rw [sta_drop, show i0 + (j - i0) = j by omega]⟩
  have hsl := srtT_length M
  cases hO : srtT M with
  | nil => rw [hO] at hsl; simp at hsl; omega
  | cons a r =>
    have hs := srtT_sorted M
    rw [hO] at hs
    have hp := srtT_perm M
    rw [hO] at hp
    have ha : ts (a :: r) 0 = a := rfl
    rw [ha]
    have h3 := (List.pairwise_cons.1 hs).1
    refine ⟨?_, fun j hj e => ?_⟩
    · obtain ⟨j, hj1, hj2, e⟩ := (hmem a).1 (hp.mem_iff.1 List.mem_cons_self)
      exact ⟨j, hj2, h2 j hj1 hj2, e⟩
    · have hj1 : i0 ≤ j := by
        rcases Nat.lt_or_ge j i0 with h4 | h4
        · have := h1 j h4
          have h5 : (sta S (S.length - 1)).far = gstF S := rfl
          omega
        · exact h4
      have hb := hp.mem_iff.2 ((hmem (txG (sta S j))).2 ⟨j, hj1, hj, rfl⟩)
      rcases List.mem_cons.1 hb with e2 | e2
      · rw [e2]; exact List.le_refl _
      · exact h3 _ e2
/-- What the answer is. -/
def IsFar (l : List UInt8) (t : List UInt8) : Prop := match rcS l with
  | none => t = []
  | some S => LstK S S.length t
def farN (l : List UInt8) : Nat := match rcS l with
  | none => 0
  | some S => gstF S
theorem IsFar.uniq {l t u : List UInt8} (h : IsFar l t) (g : IsFar l u) : t = u := by
  unfold IsFar at h g
  cases hR : rcS l with
  | none => rw [hR] at h g; rw [h, g]
  | some S => rw [hR] at h g; exact LstK.uniq h g
theorem lsT_run (P : Program) (T : TypeId) (a b : List UInt8) (c : Bool) (h : decide (a < b) = c) (w : World) : (binOp .lss T (tx a) (tx b)).run P w = .ok (.bool c) w := by
  subst h
  unfold tx
  rw [binOp_string_lss]
  simp only [Sem.run_pure]
  congr 2
  rw [bytesLess_eq]
  have e1 : (⟨a.toArray⟩ : ByteArray).toList = a := by simp
  have e2 : (⟨b.toArray⟩ : ByteArray).toList = b := by simp
  rw [e1, e2]
end Go.Proofs.YtpdmfbhjneodeaaGreatDoor
