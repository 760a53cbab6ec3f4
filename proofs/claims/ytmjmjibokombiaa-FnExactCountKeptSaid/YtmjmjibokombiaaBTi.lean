/-
  A row of one-cell elements behind the library's sort, in the words of rows that a call owns.
  Plain mathematics of tilts: cells one behind the other, stretches, and balls that slide. No program is spoken of.
  What the program's functions on tilts return: the next cell, the stretches, and trays tilted.
-/
import Derived.Test.YtmjmjibokombiaaBKit
import Derived.Shelf.SlSortCmp.NoneTotal
import Derived.Shelf.SlicesG.Cmp
import Derived.Test.YtmjmjibokombiaaBMv
import Derived.Test.YtmjmjibokombiaaBLa
import Derived.Test.YtmjmjibokombiaaBWd
import Derived.Test.YtmjmjibokombiaaDirs
namespace Go.Proofs.Ytmjmjibokombiaa
open Go.RowKit Go.Lib Go.Sort
theorem own_holds {α : Type} [Inhabited α] (enc : α → Value) {w : World} {base g m cap : Nat} {e : TypeId} {xs : List Value} (h : w.ownsRow base e 1 (.slice (some ⟨g, 0, none⟩) m cap) m xs) (d : Array α) (hd : d.size = m) (hx : ∀ j, j < m → xs[j]? = some (enc d[j]!)) : Holds enc w g 0 d := by
  intro j hj
  obtain ⟨_, ⟨h', _⟩ | ⟨g', cap', cur, h', hb, hg, hnc, hcm, hcs, htake⟩⟩ := h
  · cases h'
  · simp only [Value.slice.injEq, Option.some.injEq, Addr.mk.injEq, and_true, true_and] at h'
    obtain ⟨rfl, rfl⟩ := h'
    rw [Nat.zero_add]
    refine ⟨?_, frozen_of_row w g j cur e hg⟩
    rw [cell_of_row w g j cur e _ hg]
    have h1 := hx j (by omega)
    rw [← htake, List.getElem?_take] at h1
    split at h1
    · rw [← h1]; simp
    · cases h1
theorem sort_own {α : Type} [Inhabited α] (enc : α → Value) {w : World} {base g m cap : Nat} {e : TypeId} {xs : List Value} (h : w.ownsRow base e 1 (.slice (some ⟨g, 0, none⟩) m cap) m xs) (d : Array α) (hd : d.size = m) (n : Nat) (os : Array Obj) :
    (sortWorld enc w g 0 n d os).ownsRow base e 1 (.slice (some ⟨g, 0, none⟩) m cap) m (d.toList.map enc) ∧ Grb (some g) w (sortWorld enc w g 0 n d os) := by
  obtain ⟨h1, ⟨h', _⟩ | ⟨g', cap', cur, h', hb, hg, hnc, hcm, hcs, htake⟩⟩ := h
  · cases h'
  · simp only [Value.slice.injEq, Option.some.injEq, Addr.mk.injEq, and_true, true_and] at h'
    obtain ⟨rfl, rfl⟩ := h'
    have hgl := Gr.lt hg
    have hblk : (sortWorld enc w g 0 n d os).heap[g]? = some (.cells (putCells enc 0 d cur) e (0, 0)) := by
      unfold sortWorld grow putRow mapBlock
      show ((Sort.ahead w n).heap.modify g _ ++ os)[g]? = _
      rw [Array.getElem?_append_left (by rw [Array.size_modify]; exact hgl), Array.getElem?_modify, if_pos rfl]
      show Option.map _ (w.heap[g]?) = _
      rw [hg]
      rfl
    refine ⟨⟨by simpa using hd, .inr ⟨g, cap, putCells enc 0 d cur, rfl, hb, hblk, hnc, hcm, by simpa [putCells] using hcs, ?_⟩⟩, ⟨⟨rfl, rfl, rfl, ?_, fun k hk hkg => ?_⟩⟩⟩
    · apply List.ext_getElem?
      intro j
      rw [List.getElem?_take]
      by_cases hj : j < m
      · rw [if_pos (by omega)]
        have hjc : j < cur.size := by simp only [Nat.mul_one] at hcs; omega
        have e1 : (putCells enc 0 d cur).toList[j]? = some (enc d[j]!) := by
          unfold putCells
          rw [Array.getElem?_toList, Array.getElem?_mapIdx, Array.getElem?_eq_getElem hjc]
          simp only [Option.map_some]
          rw [if_pos ⟨Nat.zero_le _, by omega⟩, Nat.sub_zero]
        rw [e1, List.getElem?_map, Array.getElem?_toList, Array.getElem?_eq_getElem (by omega)]
        simp only [Option.map_some]
        rw [getElem!_pos d j (by omega)]
      · rw [if_neg (by omega), List.getElem?_eq_none (by simp; omega)]
    · unfold sortWorld grow putRow mapBlock
      show _ ≤ ((Sort.ahead w n).heap.modify g _ ++ os).size
      rw [Array.size_append, Array.size_modify]
      exact Nat.le_add_right _ _
    · unfold sortWorld grow putRow mapBlock
      show ((Sort.ahead w n).heap.modify g _ ++ os)[k]? = _
      rw [Array.getElem?_append_left (by rw [Array.size_modify]; exact hk), Array.getElem?_modify, if_neg (fun e => hkg (by rw [e]))]
      rfl
/-- What the row holds behind the sort: the elements in the order of their keys, all of which are different. -/
theorem sorted_unique {l m : List (List Nat)} (key : List Nat → Nat) (hp : l.Perm m) (hl : l.Pairwise fun a b => key a ≤ key b) (hm : m.Pairwise fun a b => key a ≤ key b) (hk : m.Pairwise fun a b => key a ≠ key b) : l = m := by
  refine hp.eq_of_pairwise (le := fun a b => key a ≤ key b) ?_ hl hm
  intro a b ha hb h1 h2
  by_cases e : a = b
  · exact e
  · exfalso
    have ha' := hp.mem_iff.1 ha
    exact absurd (Nat.le_antisymm h1 h2) (by
      obtain ⟨i, hi, rfl⟩ := List.getElem_of_mem ha'
      obtain ⟨j, hj, rfl⟩ := List.getElem_of_mem hb
      rcases Nat.lt_trichotomy i j with hij | hij | hij
      · exact List.pairwise_iff_getElem.1 hk i j hi hj hij
      · subst hij; exact absurd rfl e
      · exact fun h => List.pairwise_iff_getElem.1 hk j i hj hi hij h.symm)
end Go.Proofs.Ytmjmjibokombiaa
namespace Go.Proofs.Ytmjmjibokombiaa
/-! one cell on -/
def sx (d : Nat) (x : Int) : Int := if d = 1 then x + 1 else if d = 3 then x - 1 else x
def sy (d : Nat) (y : Int) : Int := if d = 0 then y - 1 else if d = 2 then y + 1 else y
def opd (d : Nat) : Nat := (d + 2) % 4
theorem opd_lt (d : Nat) : opd d < 4 := Nat.mod_lt _ (by decide)
theorem opd_opd {d : Nat} (h : d < 4) : opd (opd d) = d := by unfold opd; omega
theorem sx_back {d : Nat} (h : d < 4) (x : Int) : sx (opd d) (sx d x) = x := by
  have hd : d = 0 ∨ d = 1 ∨ d = 2 ∨ d = 3 := by omega
  rcases hd with rfl | rfl | rfl | rfl <;> simp [sx, opd]
theorem sy_back {d : Nat} (h : d < 4) (x : Int) : sy (opd d) (sy d x) = x := by
  have hd : d = 0 ∨ d = 1 ∨ d = 2 ∨ d = 3 := by omega
  rcases hd with rfl | rfl | rfl | rfl <;> simp [sy, opd]
def opn (W H : Nat) (c : List UInt8) (x y : Int) : Option Nat :=
  if inB x W && inB y H then (if at0 c (nn W y.toNat + x.toNat) = 35 then none else some (nn W y.toNat + x.toNat)) else none
def nx (W H : Nat) (c : List UInt8) (d i : Nat) : Option Nat := opn W H c (sx d ((i % W : Nat) : Int)) (sy d ((i / W : Nat) : Int))
theorem nn_mod {W a : Nat} (b : Nat) (h : a < W) : (nn W b + a) % W = a := by
  unfold nn; rw [Nat.mul_add_mod]; exact Nat.mod_eq_of_lt h
theorem nn_div {W a : Nat} (b : Nat) (h : a < W) : (nn W b + a) / W = b := by
  unfold nn; rw [Nat.mul_add_div (by omega), Nat.div_eq_of_lt h, Nat.add_zero]
theorem nn_pair (W i : Nat) : nn W (i / W) + i % W = i := by unfold nn; exact Nat.div_add_mod i W
theorem opn_some {W H : Nat} {c : List UInt8} {x y : Int} {j : Nat} (h : opn W H c x y = some j) :
    ∃ a b : Nat, x = a ∧ y = b ∧ a < W ∧ b < H ∧ j = nn W b + a ∧ at0 c j ≠ 35 := by
  unfold opn at h
  split at h
  · rename_i hb
    rw [Bool.and_eq_true, inB_true, inB_true] at hb
    split at h
    · cases h
    · rename_i hc
      have e := Option.some.inj h
      exact ⟨x.toNat, y.toNat, by omega, by omega, by omega, by omega, e.symm, by rw [← e]; exact hc⟩
  · cases h
theorem opn_self {W H : Nat} {c : List UInt8} {i : Nat} (hi : i < nn W H) (hc : at0 c i ≠ 35) : opn W H c ((i % W : Nat) : Int) ((i / W : Nat) : Int) = some i := by
  have hW : 0 < W := by
    rcases Nat.eq_zero_or_pos W with h | h
    · rw [h] at hi; unfold nn at hi; omega
    · exact h
  have h1 : i % W < W := Nat.mod_lt _ hW
  have h2 : i / W < H := row_lt hi
  unfold opn
  rw [inB_true.2 ⟨Int.natCast_nonneg _, Int.ofNat_lt.2 h1⟩, inB_true.2 ⟨Int.natCast_nonneg _, Int.ofNat_lt.2 h2⟩, Int.toNat_natCast, Int.toNat_natCast, nn_pair, if_neg hc]
  rfl
theorem nx_some {W H : Nat} {c : List UInt8} {d i j : Nat} (h : nx W H c d i = some j) :
    ((j % W : Nat) : Int) = sx d ((i % W : Nat) : Int) ∧ ((j / W : Nat) : Int) = sy d ((i / W : Nat) : Int) ∧ j < nn W H ∧ at0 c j ≠ 35 := by
  obtain ⟨a, b, hx, hy, ha, hb, rfl, hc⟩ := opn_some h
  refine ⟨by rw [hx, nn_mod b ha], by rw [hy, nn_div b ha], ?_, hc⟩
  have := nn_row (W := W) hb
  omega
theorem nx_back {W H : Nat} {c : List UInt8} {d i j : Nat} (hd : d < 4) (hi : i < nn W H) (hc : at0 c i ≠ 35) (h : nx W H c d i = some j) : nx W H c (opd d) j = some i := by
  obtain ⟨h1, h2, -, -⟩ := nx_some h
  unfold nx
  rw [h1, h2, sx_back hd, sy_back hd]
  exact opn_self hi hc
/-- How many cells there may be ahead. -/
def md (W H d i : Nat) : Nat := if d = 0 then i / W else if d = 1 then W - 1 - i % W else if d = 2 then H - 1 - i / W else i % W
theorem md_step {d ix iy jx jy W H : Nat} (hd : d < 4) (h1 : (jx : Int) = sx d ix) (h2 : (jy : Int) = sy d iy) (hm : jx < W) (hr : jy < H) :
    (if d = 0 then jy else if d = 1 then W - 1 - jx else if d = 2 then H - 1 - jy else jx) + 1 = if d = 0 then iy else if d = 1 then W - 1 - ix else if d = 2 then H - 1 - iy else ix := by
  have hc : d = 0 ∨ d = 1 ∨ d = 2 ∨ d = 3 := by omega
  rcases hc with rfl | rfl | rfl | rfl <;> simp [sx, sy] at h1 h2 ⊢ <;> omega
theorem nx_md {W H : Nat} {c : List UInt8} {d i j : Nat} (hd : d < 4) (h : nx W H c d i = some j) : md W H d j + 1 = md W H d i := by
  obtain ⟨h1, h2, hj, -⟩ := nx_some h
  have hW : 0 < W := by
    rcases Nat.eq_zero_or_pos W with h | h
    · rw [h] at hj; unfold nn at hj; omega
    · exact h
  exact md_step hd h1 h2 (Nat.mod_lt _ hW) (row_lt hj)
theorem md_le {W H d i : Nat} (hW : W ≤ 7) (hH : H ≤ 7) (hi : i < nn W H) : md W H d i ≤ 6 := by
  have hW0 : 0 < W := by
    rcases Nat.eq_zero_or_pos W with h | h
    · rw [h] at hi; unfold nn at hi; omega
    · exact h
  have hm : i % W < W := Nat.mod_lt _ hW0
  have hr : i / W < H := row_lt hi
  have a1 : i / W ≤ 6 := by omega
  have a2 : i % W ≤ 6 := by omega
  have a3 : W - 1 - i % W ≤ 6 := Nat.le_trans (Nat.sub_le _ _) (by omega)
  have a4 : H - 1 - i / W ≤ 6 := Nat.le_trans (Nat.sub_le _ _) (by omega)
  unfold md
  split
  · exact a1
  · split
    · exact a3
    · split
      · exact a4
      · exact a2
/-! lines of cells -/
def line (f : Nat → Option Nat) : Nat → Nat → List Nat
  | 0, i => [i]
  | n + 1, i => i :: (match f i with | none => [] | some j => line f n j)
def endF (f : Nat → Option Nat) : Nat → Nat → Nat
  | 0, i => i
  | n + 1, i => match f i with | none => i | some j => endF f n j
def ln (W H : Nat) (c : List UInt8) (d i : Nat) : List Nat := line (nx W H c d) (md W H d i) i
def endOf (W H : Nat) (c : List UInt8) (d i : Nat) : Nat := endF (nx W H c d) (md W H d i) i
section
variable {W H : Nat} {c : List UInt8} {d i j : Nat}
theorem ln_none (h : nx W H c d i = none) : ln W H c d i = [i] := by
  unfold ln
  cases md W H d i with
  | zero => rfl
  | succ n => simp [line, h]
theorem ln_some (hd : d < 4) (h : nx W H c d i = some j) : ln W H c d i = i :: ln W H c d j := by
  unfold ln
  rw [← nx_md hd h]
  simp [line, h]
theorem end_none (h : nx W H c d i = none) : endOf W H c d i = i := by
  unfold endOf
  cases md W H d i with
  | zero => rfl
  | succ n => simp [endF, h]
theorem end_some (hd : d < 4) (h : nx W H c d i = some j) : endOf W H c d i = endOf W H c d j := by
  unfold endOf
  rw [← nx_md hd h]
  simp [endF, h]
theorem ln_ind {motive : Nat → Prop} (hd : d < 4) (h0 : ∀ i, nx W H c d i = none → motive i) (h1 : ∀ i j, nx W H c d i = some j → motive j → motive i) : ∀ i, motive i := by
  intro i
  generalize hn : md W H d i = n
  induction n generalizing i with
  | zero =>
    cases h : nx W H c d i with
    | none => exact h0 i h
    | some j => have := nx_md hd h; omega
  | succ n ih =>
    cases h : nx W H c d i with
    | none => exact h0 i h
    | some j => exact h1 i j h (ih j (by have := nx_md hd h; omega))
theorem ln_self (hd : d < 4) (i : Nat) : i ∈ ln W H c d i := by
  cases h : nx W H c d i with
  | none => rw [ln_none h]; simp
  | some j => rw [ln_some hd h]; simp
theorem ln_head (hd : d < 4) (i : Nat) : (ln W H c d i).getD 0 0 = i := by
  cases h : nx W H c d i with
  | none => rw [ln_none h]; rfl
  | some j => rw [ln_some hd h]; rfl
theorem ln_pos (hd : d < 4) (i : Nat) : 0 < (ln W H c d i).length := List.length_pos_of_mem (ln_self hd i)
theorem ln_mem (hd : d < 4) : ∀ i, i < nn W H → at0 c i ≠ 35 → ∀ k ∈ ln W H c d i, k < nn W H ∧ at0 c k ≠ 35 := by
  refine ln_ind (W := W) (H := H) (c := c) hd ?_ ?_
  · intro i h hi hc k hk
    rw [ln_none h, List.mem_singleton] at hk
    rw [hk]; exact ⟨hi, hc⟩
  · intro i j h ih hi hc k hk
    rw [ln_some hd h, List.mem_cons] at hk
    rcases hk with rfl | hk
    · exact ⟨hi, hc⟩
    · obtain ⟨-, -, hj, hcj⟩ := nx_some h
      exact ih hj hcj k hk
theorem ln_len (hd : d < 4) : ∀ i, (ln W H c d i).length ≤ md W H d i + 1 := by
  refine ln_ind (W := W) (H := H) (c := c) hd ?_ ?_
  · intro i h; rw [ln_none h]; simp
  · intro i j h ih
    have := nx_md hd h
    rw [ln_some hd h, List.length_cons]; omega
theorem ln_md (hd : d < 4) : ∀ i, ∀ k ∈ ln W H c d i, md W H d k ≤ md W H d i := by
  refine ln_ind (W := W) (H := H) (c := c) hd ?_ ?_
  · intro i h k hk
    rw [ln_none h, List.mem_singleton] at hk
    rw [hk]; exact Nat.le_refl _
  · intro i j h ih k hk
    have := nx_md hd h
    rw [ln_some hd h, List.mem_cons] at hk
    rcases hk with rfl | hk
    · exact Nat.le_refl _
    · have := ih k hk; omega
theorem ln_nodup (hd : d < 4) : ∀ i, (ln W H c d i).Nodup := by
  refine ln_ind (W := W) (H := H) (c := c) hd ?_ ?_
  · intro i h; rw [ln_none h]; simp
  · intro i j h ih
    have := nx_md hd h
    rw [ln_some hd h, List.nodup_cons]
    refine ⟨fun hm => ?_, ih⟩
    have := ln_md hd j i hm
    omega
theorem mem_end (hd : d < 4) : ∀ n, n < nn W H → at0 c n ≠ 35 → ∀ i ∈ ln W H c d n, endOf W H c (opd d) i = endOf W H c (opd d) n := by
  refine ln_ind (W := W) (H := H) (c := c) hd ?_ ?_
  · intro n h _ _ i hi
    rw [ln_none h, List.mem_singleton] at hi
    rw [hi]
  · intro n j h ih hn hc i hi
    rw [ln_some hd h, List.mem_cons] at hi
    rcases hi with rfl | hi
    · rfl
    · obtain ⟨-, -, hj, hcj⟩ := nx_some h
      rw [ih hj hcj i hi, end_some (opd_lt d) (nx_back hd hn hc h)]
theorem mem_next (hd : d < 4) : ∀ n, ∀ k m, k ∈ ln W H c d n → nx W H c d k = some m → m ∈ ln W H c d n := by
  refine ln_ind (W := W) (H := H) (c := c) hd ?_ ?_
  · intro n h k m hk hm
    rw [ln_none h, List.mem_singleton] at hk
    rw [hk, h] at hm; cases hm
  · intro n j h ih k m hk hm
    rw [ln_some hd h, List.mem_cons] at hk ⊢
    rcases hk with rfl | hk
    · rw [h] at hm
      cases hm
      exact .inr (ln_self hd j)
    · exact .inr (ih k m hk hm)
theorem cover (hd : d < 4) : ∀ i, i < nn W H → at0 c i ≠ 35 → endOf W H c d i < nn W H ∧ at0 c (endOf W H c d i) ≠ 35 ∧ nx W H c d (endOf W H c d i) = none ∧ i ∈ ln W H c (opd d) (endOf W H c d i) := by
  refine ln_ind (W := W) (H := H) (c := c) hd ?_ ?_
  · intro i h hi hc
    rw [end_none h]
    exact ⟨hi, hc, h, ln_self (opd_lt d) i⟩
  · intro i j h ih hi hc
    obtain ⟨-, -, hj, hcj⟩ := nx_some h
    obtain ⟨a, b, e, f⟩ := ih hj hcj
    rw [end_some hd h]
    exact ⟨a, b, e, mem_next (opd_lt d) _ j i f (nx_back hd hi hc h)⟩
theorem same_end (hd : d < 4) {n m i : Nat} (hn : n < nn W H) (hcn : at0 c n ≠ 35) (h1 : nx W H c d n = none) (hm : m < nn W H) (hcm : at0 c m ≠ 35) (h2 : nx W H c d m = none) (hi : i ∈ ln W H c (opd d) n) (hi' : i ∈ ln W H c (opd d) m) : n = m := by
  have a := mem_end (opd_lt d) n hn hcn i hi
  have b := mem_end (opd_lt d) m hm hcm i hi'
  rw [opd_opd hd] at a b
  rw [end_none h1] at a
  rw [end_none h2] at b
  rw [← a, b]
/-! all stretches -/
def strTo (W H : Nat) (c : List UInt8) (d : Nat) : Nat → List (List Nat)
  | 0 => []
  | k + 1 => if at0 c k ≠ 35 ∧ nx W H c d k = none then strTo W H c d k ++ [ln W H c (opd d) k] else strTo W H c d k
theorem mem_str {s : List Nat} (K : Nat) : s ∈ strTo W H c d K ↔ ∃ n, n < K ∧ at0 c n ≠ 35 ∧ nx W H c d n = none ∧ s = ln W H c (opd d) n := by
  induction K with
  | zero => exact ⟨fun h => (by cases h), fun ⟨n, h, _⟩ => (by omega)⟩
  | succ K ih =>
    unfold strTo
    split
    · rename_i hk
      rw [List.mem_append, ih, List.mem_singleton]
      constructor
      · rintro (⟨n, a, b⟩ | rfl)
        · exact ⟨n, by omega, b⟩
        · exact ⟨K, by omega, hk.1, hk.2, rfl⟩
      · rintro ⟨n, a, b, e, f⟩
        by_cases h : n = K
        · subst h; exact .inr f
        · exact .inl ⟨n, by omega, b, e, f⟩
    · rename_i hk
      rw [ih]
      constructor
      · rintro ⟨n, a, b⟩; exact ⟨n, by omega, b⟩
      · rintro ⟨n, a, b, e, f⟩
        by_cases h : n = K
        · subst h; exact absurd ⟨b, e⟩ hk
        · exact ⟨n, by omega, b, e, f⟩
theorem str_len (K : Nat) : (strTo W H c d K).length ≤ K := by
  induction K with
  | zero => exact Nat.le_refl _
  | succ K ih =>
    unfold strTo
    split
    · rw [List.length_append]; exact Nat.succ_le_succ ih
    · omega
theorem str_apart (hd : d < 4) (K : Nat) (hK : K ≤ nn W H) : (strTo W H c d K).Pairwise fun s t => ∀ i, i ∈ s → i ∈ t → False := by
  induction K with
  | zero => exact List.Pairwise.nil
  | succ K ih =>
    unfold strTo
    split
    · rename_i hk
      rw [List.pairwise_append]
      refine ⟨ih (by omega), List.pairwise_singleton _ _, ?_⟩
      intro s hs t ht i hi hi'
      rw [List.mem_singleton] at ht
      subst ht
      obtain ⟨n, a, b, e, rfl⟩ := (mem_str K).1 hs
      have := same_end hd (by omega) b e (by omega) hk.1 hk.2 hi hi'
      omega
    · exact ih (by omega)
end
/-! the least number of a list, and lists in their order -/
def minL : List Nat → Nat
  | [] => 0
  | a :: l => l.foldl min a
theorem foldl_min_mem (l : List Nat) (a : Nat) : l.foldl min a = a ∨ l.foldl min a ∈ l := by
  induction l generalizing a with
  | nil => exact .inl rfl
  | cons b l ih =>
    rw [List.foldl_cons]
    rcases ih (min a b) with h | h
    · by_cases hab : a ≤ b
      · left; rw [h, Nat.min_eq_left hab]
      · right; rw [h, Nat.min_eq_right (by omega)]; simp
    · right; exact List.mem_cons_of_mem _ h
theorem minL_mem {l : List Nat} (h : 0 < l.length) : minL l ∈ l := by
  cases l with
  | nil => simp at h
  | cons a l =>
    rcases foldl_min_mem l a with e | e
    · show l.foldl min a ∈ _; rw [e]; simp
    · exact List.mem_cons_of_mem _ e
def ins (s : List Nat) : List (List Nat) → List (List Nat)
  | [] => [s]
  | a :: l => if minL a < minL s then a :: ins s l else s :: a :: l
def srt (l : List (List Nat)) : List (List Nat) := l.foldl (fun o s => ins s o) []
theorem srt_snoc (l : List (List Nat)) (s : List Nat) : srt (l ++ [s]) = ins s (srt l) := by unfold srt; rw [List.foldl_append]; rfl
theorem ins_perm (s : List Nat) (l : List (List Nat)) : (ins s l).Perm (s :: l) := by
  induction l with
  | nil => exact List.Perm.refl _
  | cons a l ih =>
    unfold ins
    split
    · exact (List.Perm.cons a ih).trans (List.Perm.swap s a l)
    · exact List.Perm.refl _
theorem foldl_ins_perm (l o : List (List Nat)) : (l.foldl (fun o s => ins s o) o).Perm (l ++ o) := by
  induction l generalizing o with
  | nil => exact List.Perm.refl _
  | cons s l ih =>
    rw [List.foldl_cons]
    refine (ih _).trans ?_
    refine (List.Perm.append_left l (ins_perm s o)).trans ?_
    exact List.perm_middle
theorem srt_perm (l : List (List Nat)) : (srt l).Perm l := by
  have := foldl_ins_perm l []
  rwa [List.append_nil] at this
theorem ins_le (s : List Nat) (l : List (List Nat)) (h : l.Pairwise fun a b => minL a ≤ minL b) : (ins s l).Pairwise fun a b => minL a ≤ minL b := by
  induction l with
  | nil => simp [ins]
  | cons a l ih =>
    rw [List.pairwise_cons] at h
    unfold ins
    split
    · rename_i hlt
      rw [List.pairwise_cons]
      refine ⟨fun b hb => ?_, ih h.2⟩
      rcases List.mem_cons.1 ((ins_perm s l).mem_iff.1 hb) with rfl | hb
      · omega
      · exact h.1 b hb
    · rename_i hlt
      rw [List.pairwise_cons, List.pairwise_cons]
      refine ⟨fun b hb => ?_, h⟩
      rcases List.mem_cons.1 hb with rfl | hb
      · omega
      · have := h.1 b hb; omega
theorem srt_le (l : List (List Nat)) : (srt l).Pairwise fun a b => minL a ≤ minL b := by
  have key : ∀ (l o : List (List Nat)), (o.Pairwise fun a b => minL a ≤ minL b) → (l.foldl (fun o s => ins s o) o).Pairwise fun a b => minL a ≤ minL b := by
    intro l
    induction l with
    | nil => intro o h; exact h
    | cons s l ih => intro o h; exact ih _ (ins_le s o h)
  exact key l [] List.Pairwise.nil
def strL (W H : Nat) (c : List UInt8) (d : Nat) : List (List Nat) := srt (strTo W H c d (nn W H))
theorem srtTo_succ (W H : Nat) (c : List UInt8) (d k : Nat) : srt (strTo W H c d (k + 1)) = if at0 c k ≠ 35 ∧ nx W H c d k = none then ins (ln W H c (opd d) k) (srt (strTo W H c d k)) else srt (strTo W H c d k) := by
  conv => lhs; unfold strTo
  split
  · exact srt_snoc _ _
  · rfl
/-! balls that slide -/
def nbTo (c : List UInt8) (s : List Nat) : Nat → Nat
  | 0 => 0
  | j + 1 => nbTo c s j + if isBallB (at0 c (s.getD j 0)) = true then 1 else 0
theorem nbTo_le (c : List UInt8) (s : List Nat) (j : Nat) : nbTo c s j ≤ j := by
  induction j with
  | zero => exact Nat.le_refl _
  | succ j ih => unfold nbTo; split <;> omega
def bsTo (c : List UInt8) (s : List Nat) : Nat → List UInt8
  | 0 => []
  | j + 1 => if isBallB (at0 c (s.getD j 0)) = true then bsTo c s j ++ [at0 c (s.getD j 0)] else bsTo c s j
theorem bsTo_length (c : List UInt8) (s : List Nat) (j : Nat) : (bsTo c s j).length = nbTo c s j := by
  induction j with
  | zero => rfl
  | succ j ih => unfold bsTo nbTo; split <;> simp [ih]
def mvTo (c : List UInt8) (s : List Nat) : Nat → List Int
  | 0 => []
  | j + 1 => if isBallB (at0 c (s.getD j 0)) = true then mvTo c s j ++ [((j - nbTo c s j : Nat) : Int)] else mvTo c s j
theorem mvTo_length (c : List UInt8) (s : List Nat) (j : Nat) : (mvTo c s j).length = nbTo c s j := by
  induction j with
  | zero => rfl
  | succ j ih => unfold mvTo nbTo; split <;> simp [ih]
def swC (c : List UInt8) (a b : Nat) : List UInt8 := (c.set a (at0 c b)).set b (at0 c a)
theorem swC_length (c : List UInt8) (a b : Nat) : (swC c a b).length = c.length := by simp [swC]
theorem swC_at {c : List UInt8} {a b i : Nat} (ha : a < c.length) (hb : b < c.length) : at0 (swC c a b) i = if b = i then at0 c a else if a = i then at0 c b else at0 c i := by
  unfold swC
  rw [at0_set _ _ _ _ (by simpa using hb), at0_set _ _ _ _ ha]
/-- The program's slide. -/
def slTo (c : List UInt8) (s : List Nat) : Nat → List UInt8
  | 0 => c
  | j + 1 => if isBallB (at0 c (s.getD j 0)) = true then swC (slTo c s j) (s.getD j 0) (s.getD (nbTo c s j) 0) else slTo c s j
/-- The model's slide: balls of c are put into out. -/
def spTo (c out : List UInt8) (s : List Nat) : Nat → List UInt8
  | 0 => out
  | j + 1 => if isBallB (at0 c (s.getD j 0)) = true then (spTo c out s j).set (s.getD (nbTo c s j) 0) (at0 c (s.getD j 0)) else spTo c out s j
theorem slTo_length (c : List UInt8) (s : List Nat) (j : Nat) : (slTo c s j).length = c.length := by
  induction j with
  | zero => rfl
  | succ j ih => unfold slTo; split <;> simp [swC_length, ih]
theorem spTo_length (c out : List UInt8) (s : List Nat) (j : Nat) : (spTo c out s j).length = out.length := by
  induction j with
  | zero => rfl
  | succ j ih => unfold spTo; split <;> simp [ih]
/-- A stretch: all different, all within, free or balls. -/
structure Str (c : List UInt8) (s : List Nat) : Prop where
  nd : s.Nodup
  lt : ∀ i ∈ s, i < c.length
  ok : ∀ i ∈ s, at0 c i = 46 ∨ isBallB (at0 c i) = true
theorem getD_mem {s : List Nat} {k : Nat} (h : k < s.length) : s.getD k 0 ∈ s := by
  rw [List.getD_eq_getElem?_getD, List.getElem?_eq_getElem h]; exact List.getElem_mem h
theorem getD_inj {s : List Nat} (hs : s.Nodup) {k l : Nat} (hk : k < s.length) (hl : l < s.length) (h : s.getD k 0 = s.getD l 0) : k = l := by
  rw [List.getD_eq_getElem?_getD, List.getD_eq_getElem?_getD, List.getElem?_eq_getElem hk, List.getElem?_eq_getElem hl] at h
  exact (List.getElem_inj hs).1 h
theorem getD_lt_snoc (l : List UInt8) (b : UInt8) (k : Nat) (h : k < l.length) : (l ++ [b]).getD k 0 = l.getD k 0 := by
  rw [List.getD_eq_getElem?_getD, List.getD_eq_getElem?_getD, List.getElem?_append_left h]
theorem getD_snoc (l : List UInt8) (b : UInt8) (k : Nat) (h : l.length = k) : (l ++ [b]).getD k 0 = b := by
  subst h
  rw [List.getD_eq_getElem?_getD, List.getElem?_append_right (Nat.le_refl _)]; simp
theorem slTo_at {c : List UInt8} {s : List Nat} (h : Str c s) (j : Nat) (hj : j ≤ s.length) :
    (∀ k, k < s.length → at0 (slTo c s j) (s.getD k 0) = if k < nbTo c s j then (bsTo c s j).getD k 0 else if k < j then 46 else at0 c (s.getD k 0)) ∧ ∀ i, i ∉ s → at0 (slTo c s j) i = at0 c i := by
  induction j with
  | zero => exact ⟨fun k _ => rfl, fun i _ => rfl⟩
  | succ j ih =>
    obtain ⟨i1, i2⟩ := ih (by omega)
    have hjl : j < s.length := by omega
    have hle := nbTo_le c s j
    have hbl := bsTo_length c s j
    have hsj := i1 j hjl
    rw [if_neg (by omega), if_neg (by omega)] at hsj
    by_cases hb : isBallB (at0 c (s.getD j 0)) = true
    · have e1 : slTo c s (j + 1) = swC (slTo c s j) (s.getD j 0) (s.getD (nbTo c s j) 0) := by rw [slTo, if_pos hb]
      have e2 : nbTo c s (j + 1) = nbTo c s j + 1 := by rw [nbTo, if_pos hb]
      have e3 : bsTo c s (j + 1) = bsTo c s j ++ [at0 c (s.getD j 0)] := by rw [bsTo, if_pos hb]
      have hp : nbTo c s j < s.length := by omega
      have hsp := i1 (nbTo c s j) hp
      rw [if_neg (Nat.lt_irrefl _)] at hsp
      rw [e1, e2, e3]
      have l1 : s.getD j 0 < (slTo c s j).length := by rw [slTo_length]; exact h.lt _ (getD_mem hjl)
      have l2 : s.getD (nbTo c s j) 0 < (slTo c s j).length := by rw [slTo_length]; exact h.lt _ (getD_mem hp)
      constructor
      · intro k hk
        rw [swC_at l1 l2]
        by_cases k1 : k = nbTo c s j
        · rw [if_pos (show s.getD (nbTo c s j) 0 = s.getD k 0 by rw [k1]), hsj, if_pos (show k < nbTo c s j + 1 by omega), k1, getD_snoc _ _ _ hbl]
        · rw [if_neg (show ¬ s.getD (nbTo c s j) 0 = s.getD k 0 from fun e => k1 (getD_inj h.nd hp hk e).symm)]
          by_cases k2 : k = j
          · rw [if_pos (show s.getD j 0 = s.getD k 0 by rw [k2]), hsp, if_pos (show nbTo c s j < j by omega), if_neg (show ¬ k < nbTo c s j + 1 by omega), if_pos (show k < j + 1 by omega)]
          · rw [if_neg (show ¬ s.getD j 0 = s.getD k 0 from fun e => k2 (getD_inj h.nd hjl hk e).symm), i1 k hk]
            by_cases k3 : k < nbTo c s j
            · rw [if_pos k3, if_pos (show k < nbTo c s j + 1 by omega), getD_lt_snoc _ _ _ (by omega)]
            · rw [if_neg k3, if_neg (show ¬ k < nbTo c s j + 1 by omega)]
              by_cases k4 : k < j
              · rw [if_pos k4, if_pos (show k < j + 1 by omega)]
              · rw [if_neg k4, if_neg (show ¬ k < j + 1 by omega)]
      · intro i hi
        rw [swC_at l1 l2, if_neg (fun e => hi (by rw [← e]; exact getD_mem hp)), if_neg (fun e => hi (by rw [← e]; exact getD_mem hjl))]
        exact i2 i hi
    · have e1 : slTo c s (j + 1) = slTo c s j := by rw [slTo, if_neg hb]
      have e2 : nbTo c s (j + 1) = nbTo c s j := by rw [nbTo, if_neg hb]; rfl
      have e3 : bsTo c s (j + 1) = bsTo c s j := by rw [bsTo, if_neg hb]
      rw [e1, e2, e3]
      refine ⟨fun k hk => ?_, i2⟩
      rw [i1 k hk]
      by_cases k3 : k < nbTo c s j
      · rw [if_pos k3, if_pos k3]
      · rw [if_neg k3, if_neg k3]
        by_cases k4 : k < j
        · rw [if_pos k4, if_pos (show k < j + 1 by omega)]
        · rw [if_neg k4]
          by_cases k5 : k = j
          · rw [if_pos (show k < j + 1 by omega), k5]
            rcases h.ok _ (getD_mem hjl) with e | e
            · exact e
            · exact absurd e hb
          · rw [if_neg (show ¬ k < j + 1 by omega)]
theorem spTo_at {c out : List UInt8} {s : List Nat} (h : Str c s) (hl : out.length = c.length) (j : Nat) (hj : j ≤ s.length) :
    (∀ k, k < s.length → at0 (spTo c out s j) (s.getD k 0) = if k < nbTo c s j then (bsTo c s j).getD k 0 else at0 out (s.getD k 0)) ∧ ∀ i, i ∉ s → at0 (spTo c out s j) i = at0 out i := by
  induction j with
  | zero => exact ⟨fun k _ => rfl, fun i _ => rfl⟩
  | succ j ih =>
    obtain ⟨i1, i2⟩ := ih (by omega)
    have hjl : j < s.length := by omega
    have hle := nbTo_le c s j
    have hbl := bsTo_length c s j
    by_cases hb : isBallB (at0 c (s.getD j 0)) = true
    · have e1 : spTo c out s (j + 1) = (spTo c out s j).set (s.getD (nbTo c s j) 0) (at0 c (s.getD j 0)) := by rw [spTo, if_pos hb]
      have e2 : nbTo c s (j + 1) = nbTo c s j + 1 := by rw [nbTo, if_pos hb]
      have e3 : bsTo c s (j + 1) = bsTo c s j ++ [at0 c (s.getD j 0)] := by rw [bsTo, if_pos hb]
      have hp : nbTo c s j < s.length := by omega
      rw [e1, e2, e3]
      have l2 : s.getD (nbTo c s j) 0 < (spTo c out s j).length := by rw [spTo_length, hl]; exact h.lt _ (getD_mem hp)
      constructor
      · intro k hk
        rw [at0_set _ _ _ _ l2]
        by_cases k1 : k = nbTo c s j
        · rw [if_pos (show s.getD (nbTo c s j) 0 = s.getD k 0 by rw [k1]), if_pos (show k < nbTo c s j + 1 by omega), k1, getD_snoc _ _ _ hbl]
        · rw [if_neg (show ¬ s.getD (nbTo c s j) 0 = s.getD k 0 from fun e => k1 (getD_inj h.nd hp hk e).symm), i1 k hk]
          by_cases k3 : k < nbTo c s j
          · rw [if_pos k3, if_pos (show k < nbTo c s j + 1 by omega), getD_lt_snoc _ _ _ (by omega)]
          · rw [if_neg k3, if_neg (show ¬ k < nbTo c s j + 1 by omega)]
      · intro i hi
        rw [at0_set _ _ _ _ l2, if_neg (fun e => hi (by rw [← e]; exact getD_mem hp))]
        exact i2 i hi
    · have e1 : spTo c out s (j + 1) = spTo c out s j := by rw [spTo, if_neg hb]
      have e2 : nbTo c s (j + 1) = nbTo c s j := by rw [nbTo, if_neg hb]; rfl
      have e3 : bsTo c s (j + 1) = bsTo c s j := by rw [bsTo, if_neg hb]
      rw [e1, e2, e3]
      exact ⟨i1, i2⟩
/-- What is known of a stretch depends on its own cells alone. -/
theorem nbTo_congr {c e : List UInt8} {s : List Nat} (h : ∀ i ∈ s, at0 c i = at0 e i) (j : Nat) (hj : j ≤ s.length) : nbTo c s j = nbTo e s j ∧ bsTo c s j = bsTo e s j ∧ mvTo c s j = mvTo e s j := by
  induction j with
  | zero => exact ⟨rfl, rfl, rfl⟩
  | succ j ih =>
    obtain ⟨a, b, m⟩ := ih (by omega)
    have hc := h _ (getD_mem (show j < s.length by omega))
    unfold nbTo bsTo mvTo
    rw [hc, a, b, m]
    exact ⟨rfl, rfl, rfl⟩
theorem Str.congr {c e : List UInt8} {s : List Nat} (h : Str c s) (hl : e.length = c.length) (hc : ∀ i ∈ s, at0 c i = at0 e i) : Str e s :=
  ⟨h.nd, fun i hi => by rw [hl]; exact h.lt i hi, fun i hi => by rw [← hc i hi]; exact h.ok i hi⟩
def slAll (c : List UInt8) (L : List (List Nat)) : List UInt8 := L.foldl (fun c s => slTo c s s.length) c
def spAll (c out : List UInt8) (L : List (List Nat)) : List UInt8 := L.foldl (fun o s => spTo c o s s.length) out
theorem slAll_length (L : List (List Nat)) (c : List UInt8) : (slAll c L).length = c.length := by
  induction L generalizing c with
  | nil => rfl
  | cons s L ih => show (slAll (slTo c s s.length) L).length = _; rw [ih, slTo_length]
theorem spAll_length (c : List UInt8) (L : List (List Nat)) (o : List UInt8) : (spAll c o L).length = o.length := by
  induction L generalizing o with
  | nil => rfl
  | cons s L ih => show (spAll c (spTo c o s s.length) L).length = _; rw [ih, spTo_length]
/-- What a cell of a stretch holds behind the tilt. -/
def fin (c : List UInt8) (s : List Nat) (k : Nat) : UInt8 := if k < nbTo c s s.length then (bsTo c s s.length).getD k 0 else 46
theorem mem_getD {s : List Nat} {i : Nat} (h : i ∈ s) : ∃ k, k < s.length ∧ s.getD k 0 = i := by
  obtain ⟨k, hk, e⟩ := List.getElem_of_mem h
  exact ⟨k, hk, by rw [List.getD_eq_getElem?_getD, List.getElem?_eq_getElem hk]; exact e⟩
def Apart (L : List (List Nat)) : Prop := L.Pairwise fun s t => ∀ i, i ∈ s → i ∈ t → False
theorem slAll_at (L : List (List Nat)) : ∀ (c : List UInt8), (∀ s ∈ L, Str c s) → Apart L →
    (∀ i, (∀ s ∈ L, i ∉ s) → at0 (slAll c L) i = at0 c i) ∧ ∀ s ∈ L, ∀ k, k < s.length → at0 (slAll c L) (s.getD k 0) = fin c s k := by
  induction L with
  | nil => exact fun c _ _ => ⟨fun i _ => rfl, fun s hs => by cases hs⟩
  | cons s L ih =>
    intro c hS hA
    have hs := hS s (by simp)
    obtain ⟨hA1, hA2⟩ := List.pairwise_cons.1 hA
    obtain ⟨a1, a2⟩ := slTo_at hs s.length (Nat.le_refl _)
    have hc : ∀ t ∈ L, ∀ i ∈ t, at0 c i = at0 (slTo c s s.length) i := fun t ht i hi => (a2 i (fun h => hA1 t ht i h hi)).symm
    obtain ⟨b1, b2⟩ := ih (slTo c s s.length) (fun t ht => (hS t (by simp [ht])).congr (slTo_length _ _ _) (hc t ht)) hA2
    have e : slAll c (s :: L) = slAll (slTo c s s.length) L := rfl
    rw [e]
    constructor
    · intro i hi
      rw [b1 i (fun t ht => hi t (by simp [ht]))]
      exact a2 i (hi s (by simp))
    · intro t ht k hk
      rcases List.mem_cons.1 ht with rfl | ht
      · rw [b1 _ (fun u hu hm => hA1 u hu _ (getD_mem hk) hm), a1 k hk]
        unfold fin
        by_cases k1 : k < nbTo c t t.length
        · rw [if_pos k1, if_pos k1]
        · rw [if_neg k1, if_neg k1, if_pos hk]
      · rw [b2 t ht k hk]
        obtain ⟨n1, n2, -⟩ := nbTo_congr (hc t ht) t.length (Nat.le_refl _)
        unfold fin
        rw [n1, n2]
theorem spAll_at (c : List UInt8) (L : List (List Nat)) : ∀ (o : List UInt8), o.length = c.length → (∀ s ∈ L, Str c s) → Apart L → (∀ s ∈ L, ∀ i ∈ s, at0 o i = 46) →
    (∀ i, (∀ s ∈ L, i ∉ s) → at0 (spAll c o L) i = at0 o i) ∧ ∀ s ∈ L, ∀ k, k < s.length → at0 (spAll c o L) (s.getD k 0) = fin c s k := by
  induction L with
  | nil => exact fun o _ _ _ _ => ⟨fun i _ => rfl, fun s hs => by cases hs⟩
  | cons s L ih =>
    intro o hl hS hA h46
    have hs := hS s (by simp)
    obtain ⟨hA1, hA2⟩ := List.pairwise_cons.1 hA
    obtain ⟨a1, a2⟩ := spTo_at hs hl s.length (Nat.le_refl _)
    have hc : ∀ t ∈ L, ∀ i ∈ t, at0 (spTo c o s s.length) i = 46 := fun t ht i hi => by
      rw [a2 i (fun h => hA1 t ht i h hi)]; exact h46 t (by simp [ht]) i hi
    obtain ⟨b1, b2⟩ := ih (spTo c o s s.length) (by rw [spTo_length, hl]) (fun t ht => hS t (by simp [ht])) hA2 hc
    have e : spAll c o (s :: L) = spAll c (spTo c o s s.length) L := rfl
    rw [e]
    constructor
    · intro i hi
      rw [b1 i (fun t ht => hi t (by simp [ht]))]
      exact a2 i (hi s (by simp))
    · intro t ht k hk
      rcases List.mem_cons.1 ht with rfl | ht
      · rw [b1 _ (fun u hu hm => hA1 u hu _ (getD_mem hk) hm), a1 k hk]
        unfold fin
        by_cases k1 : k < nbTo c t t.length
        · rw [if_pos k1, if_pos k1]
        · rw [if_neg k1, if_neg k1]; exact h46 t (by simp) _ (getD_mem hk)
      · exact b2 t ht k hk
theorem wallTo_done (c : List UInt8) (k i : Nat) (h : i < k) (hk : k ≤ c.length) : at0 (wallTo isBallB c k) i = if isBallB (at0 c i) = true then 46 else at0 c i := by
  induction k with
  | zero => omega
  | succ k ih =>
    by_cases e : i = k
    · subst e
      unfold wallTo
      split
      · rw [at0_set _ _ _ _ (by rw [wallTo_len]; omega), if_pos rfl]
      · exact wallTo_at _ _ _ _ (Nat.le_refl _) (by omega)
    · have := ih (by omega) (by omega)
      unfold wallTo
      split
      · rw [at0_set _ _ _ _ (by rw [wallTo_len]; omega), if_neg (by omega)]; exact this
      · exact this
/-- The stretches of a grid: each is one, they are apart, and all cells but walls are in them. -/
structure Strs (W H : Nat) (c : List UInt8) (d : Nat) (L : List (List Nat)) : Prop where
  str : ∀ s ∈ L, Str c s
  apart : Apart L
  cover : ∀ i, i < nn W H → at0 c i ≠ 35 → ∃ s ∈ L, i ∈ s
  len7 : ∀ s ∈ L, 0 < s.length ∧ s.length ≤ 7
  small : L.length ≤ nn W H
theorem cell_cases {b : UInt8} (h : isCellB b = true) (h35 : b ≠ 35) : b = 46 ∨ isBallB b = true := by
  unfold isCellB at h
  simp [h35] at h
  exact h
theorem strs_raw {W H : Nat} {c : List UInt8} {d : Nat} (hd : d < 4) (hW : W ≤ 7) (hH : H ≤ 7) (hl : c.length = nn W H) (hc : ∀ i, i < c.length → isCellB (at0 c i) = true) : Strs W H c d (strTo W H c d (nn W H)) := by
  refine ⟨fun s hs => ?_, str_apart hd _ (Nat.le_refl _), fun i hi h35 => ?_, fun s hs => ?_, str_len _⟩
  · obtain ⟨n, hn, h35, hx, rfl⟩ := (mem_str _).1 hs
    have hm := ln_mem (opd_lt d) n hn h35
    exact ⟨ln_nodup (opd_lt d) n, fun i hi => by rw [hl]; exact (hm i hi).1, fun i hi => cell_cases (hc i (by rw [hl]; exact (hm i hi).1)) (hm i hi).2⟩
  · obtain ⟨a, b, e, f⟩ := cover hd i hi h35
    exact ⟨_, (mem_str _).2 ⟨_, a, b, e, rfl⟩, f⟩
  · obtain ⟨n, hn, h35, hx, rfl⟩ := (mem_str _).1 hs
    refine ⟨ln_pos (opd_lt d) n, ?_⟩
    have := ln_len (W := W) (H := H) (c := c) (opd_lt d) n
    have := md_le (d := opd d) hW hH hn
    omega
theorem Strs.perm {W H : Nat} {c : List UInt8} {d : Nat} {L M : List (List Nat)} (h : Strs W H c d L) (p : M.Perm L) : Strs W H c d M :=
  ⟨fun s hs => h.str s (p.mem_iff.1 hs), (p.pairwise_iff (fun {x y} hxy i hi hj => hxy i hj hi)).2 h.apart, fun i hi hc => by obtain ⟨s, hs, hm⟩ := h.cover i hi hc; exact ⟨s, p.mem_iff.2 hs, hm⟩, fun s hs => h.len7 s (p.mem_iff.1 hs), by rw [p.length_eq]; exact h.small⟩
theorem strs_sorted {W H : Nat} {c : List UInt8} {d : Nat} (hd : d < 4) (hW : W ≤ 7) (hH : H ≤ 7) (hl : c.length = nn W H) (hc : ∀ i, i < c.length → isCellB (at0 c i) = true) : Strs W H c d (strL W H c d) :=
  (strs_raw hd hW hH hl hc).perm (srt_perm _)
theorem Strs.keys {W H : Nat} {c : List UInt8} {d : Nat} {L : List (List Nat)} (h : Strs W H c d L) : L.Pairwise fun s t => minL s ≠ minL t := by
  refine List.Pairwise.imp_of_mem ?_ h.apart
  intro s t hs ht hap e
  exact hap (minL s) (minL_mem (h.len7 s hs).1) (by rw [e]; exact minL_mem (h.len7 t ht).1)
theorem tilt_eq {W H : Nat} {c : List UInt8} {d : Nat} {L : List (List Nat)} (h : Strs W H c d L) (hl : c.length = nn W H) : slAll c L = spAll c (wallTo isBallB c (nn W H)) L := by
  have hwl := wallTo_len isBallB c (nn W H)
  obtain ⟨a1, a2⟩ := slAll_at L c h.str h.apart
  obtain ⟨b1, b2⟩ := spAll_at c L (wallTo isBallB c (nn W H)) hwl h.str h.apart (fun s hs i hi => by
    have hlt := (h.str s hs).lt i hi
    rw [wallTo_done c _ i (by omega) (by omega)]
    rcases (h.str s hs).ok i hi with e | e
    · split
      · rfl
      · exact e
    · rw [if_pos e])
  apply list_ext (by rw [slAll_length, spAll_length, hwl])
  intro i hi
  rw [slAll_length] at hi
  by_cases h35 : at0 c i = 35
  · have hn : ∀ s ∈ L, i ∉ s := fun s hs hm => by
      rcases (h.str s hs).ok i hm with e | e
      · rw [h35] at e; exact absurd e (by decide)
      · rw [h35] at e; exact absurd e (by decide)
    rw [a1 i hn, b1 i hn, wallTo_done c _ i (by omega) (by omega), h35]
    rfl
  · obtain ⟨s, hs, hm⟩ := h.cover i (by omega) h35
    obtain ⟨k, hk, rfl⟩ := mem_getD hm
    rw [a2 s hs k hk, b2 s hs k hk]
def tiltG (d : Nat) (g : Grid) : Grid := ⟨g.w, g.h, slAll g.c (strL g.w g.h g.c d)⟩
theorem bsTo_cell {c : List UInt8} (s : List Nat) (j : Nat) : ∀ b ∈ bsTo c s j, isBallB b = true := by
  induction j with
  | zero => intro b hb; cases hb
  | succ j ih =>
    intro b hb
    unfold bsTo at hb
    split at hb
    · rename_i h
      rcases List.mem_append.1 hb with hb | hb
      · exact ih b hb
      · rw [List.mem_singleton] at hb; rw [hb]; exact h
    · exact ih b hb
theorem fin_cell (c : List UInt8) (s : List Nat) (k : Nat) : fin c s k = 46 ∨ isBallB (fin c s k) = true := by
  unfold fin
  split
  · rename_i h
    right
    rw [← bsTo_length] at h
    rw [List.getD_eq_getElem?_getD, List.getElem?_eq_getElem h]
    exact bsTo_cell s _ _ (List.getElem_mem h)
  · left; rfl
section
variable {W H : Nat} {c c' : List UInt8} {d : Nat}
theorem nx_mask (h : ∀ i, at0 c i = 35 ↔ at0 c' i = 35) (d i : Nat) : nx W H c d i = nx W H c' d i := by
  unfold nx opn
  simp only [h]
theorem ln_mask (h : ∀ i, at0 c i = 35 ↔ at0 c' i = 35) (d i : Nat) : ln W H c d i = ln W H c' d i := by
  unfold ln
  rw [show nx W H c d = nx W H c' d from funext fun i => nx_mask h d i]
theorem strTo_mask (h : ∀ i, at0 c i = 35 ↔ at0 c' i = 35) (d k : Nat) : strTo W H c d k = strTo W H c' d k := by
  induction k with
  | zero => rfl
  | succ k ih =>
    unfold strTo
    rw [ih, ln_mask h, nx_mask h]
    simp only [ne_eq, h]
theorem strL_mask (h : ∀ i, at0 c i = 35 ↔ at0 c' i = 35) (d : Nat) : strL W H c d = strL W H c' d := by
  unfold strL
  rw [strTo_mask h]
end
/-! the same for whatever is neither wall nor free -/
def nbB (c : List UInt8) (s : List Nat) : Nat → Nat
  | 0 => 0
  | j + 1 => nbB c s j + if ballB (at0 c (s.getD j 0)) = true then 1 else 0
theorem nbB_le (c : List UInt8) (s : List Nat) (j : Nat) : nbB c s j ≤ j := by
  induction j with
  | zero => exact Nat.le_refl _
  | succ j ih => unfold nbB; split <;> omega
def mvB (c : List UInt8) (s : List Nat) : Nat → List Int
  | 0 => []
  | j + 1 => if ballB (at0 c (s.getD j 0)) = true then mvB c s j ++ [((j - nbB c s j : Nat) : Int)] else mvB c s j
theorem mvB_length (c : List UInt8) (s : List Nat) (j : Nat) : (mvB c s j).length = nbB c s j := by
  induction j with
  | zero => rfl
  | succ j ih => unfold mvB nbB; split <;> simp [ih]
def slB (c : List UInt8) (s : List Nat) : Nat → List UInt8
  | 0 => c
  | j + 1 => if ballB (at0 c (s.getD j 0)) = true then swC (slB c s j) (s.getD j 0) (s.getD (nbB c s j) 0) else slB c s j
theorem slB_length (c : List UInt8) (s : List Nat) (j : Nat) : (slB c s j).length = c.length := by
  induction j with
  | zero => rfl
  | succ j ih => unfold slB; split <;> simp [swC_length, ih]
/-- A list of different cells. -/
structure StrW (c : List UInt8) (s : List Nat) : Prop where
  nd : s.Nodup
  lt : ∀ i ∈ s, i < c.length
theorem Str.weak {c : List UInt8} {s : List Nat} (h : Str c s) : StrW c s := ⟨h.nd, h.lt⟩
theorem slB_at {c : List UInt8} {s : List Nat} (h : StrW c s) (j : Nat) (hj : j ≤ s.length) : ∀ k, j ≤ k → k < s.length → at0 (slB c s j) (s.getD k 0) = at0 c (s.getD k 0) := by
  induction j with
  | zero => intro k _ _; rfl
  | succ j ih =>
    intro k hk hkl
    have ih := ih (by omega)
    have hle := nbB_le c s j
    unfold slB
    split
    · rw [swC_at (by rw [slB_length]; exact h.lt _ (getD_mem (by omega))) (by rw [slB_length]; exact h.lt _ (getD_mem (by omega)))]
      rw [if_neg (fun e => by have := getD_inj h.nd (by omega) hkl e; omega), if_neg (fun e => by have := getD_inj h.nd (by omega) hkl e; omega)]
      exact ih k (by omega) hkl
    · exact ih k (by omega) hkl
def slAllB (c : List UInt8) (L : List (List Nat)) : List UInt8 := L.foldl (fun c s => slB c s s.length) c
theorem slAllB_length (L : List (List Nat)) (c : List UInt8) : (slAllB c L).length = c.length := by
  induction L generalizing c with
  | nil => rfl
  | cons s L ih => exact (ih (slB c s s.length)).trans (slB_length _ _ _)
def tiltB (d : Nat) (g : Grid) : Grid := ⟨g.w, g.h, slAllB g.c (strL g.w g.h g.c d)⟩
/-- What holds of the stretches of any cells. -/
structure StrsW (W H : Nat) (n : Nat) (L : List (List Nat)) : Prop where
  nd : ∀ s ∈ L, s.Nodup
  lt : ∀ s ∈ L, ∀ i ∈ s, i < n
  apart : Apart L
  len7 : ∀ s ∈ L, 0 < s.length ∧ s.length ≤ 7
  small : L.length ≤ nn W H
theorem strsW_raw {W H : Nat} {c : List UInt8} {d : Nat} (hd : d < 4) (hW : W ≤ 7) (hH : H ≤ 7) : StrsW W H (nn W H) (strTo W H c d (nn W H)) := by
  refine ⟨fun s hs => ?_, fun s hs => ?_, str_apart hd _ (Nat.le_refl _), fun s hs => ?_, str_len _⟩
  · obtain ⟨n, hn, h35, hx, rfl⟩ := (mem_str _).1 hs
    exact ln_nodup (opd_lt d) n
  · obtain ⟨n, hn, h35, hx, rfl⟩ := (mem_str _).1 hs
    exact fun i hi => (ln_mem (opd_lt d) n hn h35 i hi).1
  · obtain ⟨n, hn, h35, hx, rfl⟩ := (mem_str _).1 hs
    refine ⟨ln_pos (opd_lt d) n, ?_⟩
    have := ln_len (W := W) (H := H) (c := c) (opd_lt d) n
    have := md_le (d := opd d) hW hH hn
    omega
theorem StrsW.perm {W H n : Nat} {L M : List (List Nat)} (h : StrsW W H n L) (p : M.Perm L) : StrsW W H n M :=
  ⟨fun s hs => h.nd s (p.mem_iff.1 hs), fun s hs => h.lt s (p.mem_iff.1 hs), (p.pairwise_iff (fun {x y} hxy i hi hj => hxy i hj hi)).2 h.apart, fun s hs => h.len7 s (p.mem_iff.1 hs), by rw [p.length_eq]; exact h.small⟩
theorem strsW {W H : Nat} {c : List UInt8} {d : Nat} (hd : d < 4) (hW : W ≤ 7) (hH : H ≤ 7) : StrsW W H (nn W H) (strL W H c d) := (strsW_raw hd hW hH).perm (srt_perm _)
theorem StrsW.keys {W H n : Nat} {L : List (List Nat)} (h : StrsW W H n L) : L.Pairwise fun s t => minL s ≠ minL t := by
  refine List.Pairwise.imp_of_mem ?_ h.apart
  intro s t hs ht hap e
  exact hap (minL s) (minL_mem (h.len7 s hs).1) (by rw [e]; exact minL_mem (h.len7 t ht).1)
end Go.Proofs.Ytmjmjibokombiaa
namespace Go.Proofs.Ytmjmjibokombiaa
open Go.RowKit
def oV (o : Option Nat) : Value := .tuple #[.int .i64 ((o.getD 0 : Nat) : Int), .bool o.isSome]
theorem dB_rot {d : Nat} (h : d < 4) : rotB (dB d) 2 = dB (opd d) := by
  rcases dB_cases h with ⟨rfl, e⟩ | ⟨rfl, e⟩ | ⟨rfl, e⟩ | ⟨rfl, e⟩ <;> rfl
section
variable {P : Program} {w : World} {ops : Array Oper} {rest : List Oper} {a : Act} {Q : Exit → Act → World → Prop} {dst : Option Tmp} {ty : TypeId} {pos : String} {aft : Array Edge} {gd : Option (Nat × Bool)}
/-- A call of a function value under a contract. -/
theorem r_callv (f : FuncId) (x : Operand) (xs : List Operand) (ts : Array TypeId) (vs : List Value) (v : Value) (Post : World → Prop) (hcf : ∀ args w, (callFunc f args).run P w = .ok (.enter f args) w) (hx : a.eval x = .func (.func f) #[] #[]) (hvs : xs.map a.eval = vs)
    (hgd : Region.wanted ⟨dst, .call { callee := .value x, args := xs.toArray, argTypes := ts }, ty, pos, aft, gd⟩ (yielded ops a.tmps) = true)
    (hc : Calls P f vs.toArray w fun e w' => e = .returned v ∧ Post w')
    (h : ∀ w', Post w' → wpList P ops Q rest (a.put dst v) w') : wpList P ops Q (⟨dst, .call { callee := .value x, args := xs.toArray, argTypes := ts }, ty, pos, aft, gd⟩ :: rest) a w :=
  wpList_want hgd fun _ hK => by
    have e : (execOp a.eval ⟨dst, .call { callee := .value x, args := xs.toArray, argTypes := ts }, ty, pos, aft, gd⟩).run P w = .ok (.enter f vs.toArray) w := by
      unfold execOp resolve
      simp only [List.map_toArray, hvs, hx, Deferred.ofValue, Sem.run_bind, Sem.run_pure, Result.andThen_ok, invoke, Array.append_empty, Array.empty_append]
      exact hcf _ _
    unfold Oper.wp
    rw [e]
    exact hc.mono fun e w'' ⟨he, hp⟩ => by
      subst he
      exact hK _ _ (h _ hp)
end
end Go.Proofs.Ytmjmjibokombiaa
