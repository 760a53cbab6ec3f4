/-
  Ways through a tray: plain mathematics of the search from a cell, one layer behind the other, with the neighbours above, right, below, left.
-/
import Derived.Test.YtdebiobhmpoiiaaDoorBLs
namespace Go.Proofs.YtdebiobhmpoiiaaDoor
open Go.RowKit
/-- The numbers of the neighbours of a cell. -/
def nearL (W H i : Nat) : List Nat :=
  (if 0 < i / W then [i - W] else []) ++ (if i % W + 1 < W then [i + 1] else []) ++ (if i / W + 1 < H then [i + W] else []) ++ (if 0 < i % W then [i - 1] else [])
theorem nearL_le (W H i : Nat) : (nearL W H i).length ≤ 4 := by
  unfold nearL
  simp only [List.length_append]
  repeat' split
  all_goals simp
theorem nearL_lt {W H i : Nat} (h : i < nn W H) : ∀ j ∈ nearL W H i, j < nn W H := by
  have hW : 0 < W := by
    rcases Nat.eq_zero_or_pos W with e | e
    · subst e; unfold nn at h; omega
    · exact e
  have hdm := Nat.div_add_mod i W
  have hm := Nat.mod_lt i hW
  have hd : i / W < H := by
    rw [Nat.div_lt_iff_lt_mul hW, Nat.mul_comm]
    exact h
  have key : ∀ y, y + 1 ≤ H → W * y + W ≤ nn W H := fun y hy => by
    have := Nat.mul_le_mul_left W hy
    unfold nn
    rw [Nat.mul_succ] at this
    exact this
  intro j hj
  unfold nearL at hj
  simp only [List.mem_append] at hj
  rcases hj with ((hj | hj) | hj) | hj <;> split at hj <;> simp at hj <;> subst hj
  · omega
  · have := key (i / W) (by omega)
    omega
  · rename_i hb
    have := key (i / W + 1) (by omega)
    rw [Nat.mul_succ] at this
    omega
  · omega
/-- How many are not yet found. -/
def negs (far : List Int) : Nat := far.countP fun x => decide (x < 0)
theorem negs_le (far : List Int) : negs far ≤ far.length := List.countP_le_length
theorem gi_set (L : List Int) (j : Nat) (x : Int) (i : Nat) : gi (L.set j x) i = if i = j ∧ j < L.length then x else gi L i := by
  unfold gi
  rw [List.getD_eq_getElem?_getD, List.getD_eq_getElem?_getD, List.getElem?_set]
  by_cases h : j = i
  · subst h
    by_cases h2 : j < L.length
    · simp [h2]
    · simp [h2]
  · simp [h, Ne.symm h]
theorem negs_set {far : List Int} {j : Nat} {x : Int} (hj : j < far.length) (h1 : gi far j < 0) (h2 : 0 ≤ x) : negs (far.set j x) + 1 = negs far := by
  unfold negs
  have e : far[j] = gi far j := by unfold gi; rw [List.getD_eq_getElem?_getD, List.getElem?_eq_getElem hj]; rfl
  have := List.countP_set (p := fun x : Int => decide (x < 0)) (l := far) (a := x) hj
  rw [this, e, if_pos (by simpa using h1), if_neg (by simp; omega)]
  have hpos : 0 < far.countP fun x => decide (x < 0) := List.countP_pos_iff.2 ⟨far[j], List.getElem_mem hj, by rw [e]; simpa using h1⟩
  omega
/-- One neighbour is looked at. -/
def rlx (ok : Nat → Bool) (n : Nat) (s : List Int × List Nat) (j : Nat) : List Int × List Nat :=
  if ok j && decide (gi s.1 j < 0) then (s.1.set j (gi s.1 n + 1), s.2 ++ [j]) else s
/-- All the search, as far as the fuel goes. -/
def bfR (ok : Nat → Bool) (W H : Nat) : Nat → List Int → List Nat → List Int
  | 0, far, _ => far
  | _ + 1, far, [] => far
  | f + 1, far, n :: q => bfR ok W H f ((nearL W H n).foldl (rlx ok n) (far, q)).1 ((nearL W H n).foldl (rlx ok n) (far, q)).2
theorem bfR_nil (ok : Nat → Bool) (W H f : Nat) (far : List Int) : bfR ok W H f far [] = far := by cases f <;> rfl
/-- What holds of the search. -/
structure Bf (N : Nat) (far : List Int) (q : List Nat) : Prop where
  len : far.length = N
  inq : ∀ n ∈ q, n < N ∧ 0 ≤ gi far n
  hi : ∀ j, j < N → -1 ≤ gi far j ∧ gi far j + negs far ≤ N
theorem rlx_ok {N : Nat} {ok : Nat → Bool} {far : List Int} {q : List Nat} {n j : Nat} (h : Bf N far q) (hn : n < N) (h0 : 0 ≤ gi far n) (hj : j < N) :
    Bf N (rlx ok n (far, q) j).1 (rlx ok n (far, q) j).2 ∧ 0 ≤ gi (rlx ok n (far, q) j).1 n ∧ negs (rlx ok n (far, q) j).1 + (rlx ok n (far, q) j).2.length = negs far + q.length := by
  unfold rlx
  split
  · rename_i hc
    rw [Bool.and_eq_true, decide_eq_true_eq] at hc
    have hc2 : gi far j < 0 := hc.2
    have hx : 0 ≤ gi far n + 1 := by omega
    have hns := negs_set (x := gi far n + 1) (by rw [h.len]; exact hj) hc2 hx
    have hnj : n ≠ j := by rintro rfl; omega
    have hlt := h.len
    refine ⟨⟨by rw [List.length_set]; exact h.len, fun m hm => ?_, fun i hi => ?_⟩, ?_, ?_⟩
    · show m < N ∧ 0 ≤ gi (far.set j (gi far n + 1)) m
      rw [gi_set]
      rcases List.mem_append.1 hm with hm | hm
      · have := h.inq m hm
        split
        · exact ⟨this.1, hx⟩
        · exact this
      · obtain rfl : m = j := by simpa using hm
        rw [if_pos ⟨rfl, by omega⟩]
        exact ⟨hj, hx⟩
    · show -1 ≤ gi (far.set j (gi far n + 1)) i ∧ gi (far.set j (gi far n + 1)) i + negs (far.set j (gi far n + 1)) ≤ N
      rw [gi_set]
      have h1 := h.hi n hn
      have h2 := h.hi i hi
      split
      · omega
      · omega
    · show 0 ≤ gi (far.set j (gi far n + 1)) n
      rw [gi_set, if_neg (fun e => hnj e.1)]
      exact h0
    · show negs (far.set j (gi far n + 1)) + (q ++ [j]).length = _
      rw [List.length_append, List.length_singleton]
      omega
  · exact ⟨h, h0, rfl⟩
theorem rlxL_ok {N : Nat} {ok : Nat → Bool} {n : Nat} (hn : n < N) : ∀ (l : List Nat) {far : List Int} {q : List Nat}, Bf N far q → 0 ≤ gi far n → (∀ j ∈ l, j < N) →
    Bf N (l.foldl (rlx ok n) (far, q)).1 (l.foldl (rlx ok n) (far, q)).2 ∧ 0 ≤ gi (l.foldl (rlx ok n) (far, q)).1 n ∧ negs (l.foldl (rlx ok n) (far, q)).1 + (l.foldl (rlx ok n) (far, q)).2.length = negs far + q.length
  | [], far, q, h, h0, _ => ⟨h, h0, rfl⟩
  | j :: l, far, q, h, h0, hl => by
    obtain ⟨a1, a2, a3⟩ := rlx_ok (ok := ok) h hn h0 (hl j (List.mem_cons_self))
    have := rlxL_ok (ok := ok) hn l a1 a2 (fun i hi => hl i (List.mem_cons_of_mem _ hi))
    rw [List.foldl_cons]
    refine ⟨this.1, this.2.1, this.2.2.trans a3⟩
/-- The queue of the two that look at it: the one takes off its head, the other goes on along it. -/
theorem rlx_drop (ok : Nat → Bool) (n j : Nat) (far : List Int) (q : List Nat) (k : Nat) (hk : k ≤ q.length) :
    (rlx ok n (far, q) j).1 = (rlx ok n (far, q.drop k) j).1 ∧ (rlx ok n (far, q) j).2.drop k = (rlx ok n (far, q.drop k) j).2 ∧ q.length ≤ (rlx ok n (far, q) j).2.length := by
  unfold rlx
  split
  · exact ⟨rfl, by show (q ++ [j]).drop k = q.drop k ++ [j]; rw [List.drop_append_of_le_length hk], by simp⟩
  · exact ⟨rfl, rfl, Nat.le_refl _⟩
theorem rlx_take (ok : Nat → Bool) (n : Nat) (l : List Nat) (s : List Int × List Nat) {t j : Nat} (h : l[t]? = some j) : (l.take (t + 1)).foldl (rlx ok n) s = rlx ok n ((l.take t).foldl (rlx ok n) s) j := by
  obtain ⟨hlt, e⟩ := List.getElem?_eq_some_iff.1 h
  rw [List.take_succ_eq_append_getElem hlt, List.foldl_append, e]
  rfl
theorem rlxL_drop (ok : Nat → Bool) (n k : Nat) : ∀ (l : List Nat) (far : List Int) (q : List Nat), k ≤ q.length →
    (l.foldl (rlx ok n) (far, q)).1 = (l.foldl (rlx ok n) (far, q.drop k)).1 ∧ (l.foldl (rlx ok n) (far, q)).2.drop k = (l.foldl (rlx ok n) (far, q.drop k)).2
  | [], _, _, _ => ⟨rfl, rfl⟩
  | j :: l, far, q, hk => by
    obtain ⟨h1, h2, h3⟩ := rlx_drop ok n j far q k hk
    obtain ⟨⟨f1, q1⟩, hs⟩ : ∃ s, rlx ok n (far, q) j = s := ⟨_, rfl⟩
    rw [hs] at h1 h2 h3
    have hf : rlx ok n (far, q.drop k) j = (f1, q1.drop k) := by
      rw [show rlx ok n (far, q.drop k) j = ((rlx ok n (far, q.drop k) j).1, (rlx ok n (far, q.drop k) j).2) from rfl, ← h1, ← h2]
    rw [List.foldl_cons, List.foldl_cons, hs, hf]
    exact rlxL_drop ok n k l f1 q1 (by show k ≤ q1.length; have : q.length ≤ q1.length := h3; omega)
theorem rlxL_pre (ok : Nat → Bool) (n : Nat) : ∀ (l : List Nat) (s : List Int × List Nat), ∃ ext, (l.foldl (rlx ok n) s).2 = s.2 ++ ext
  | [], s => ⟨[], by simp⟩
  | j :: l, s => by
    obtain ⟨ext, h⟩ := rlxL_pre ok n l (rlx ok n s j)
    rw [List.foldl_cons, h]
    unfold rlx
    split
    · exact ⟨[j] ++ ext, by show (s.2 ++ [j]) ++ ext = _; rw [List.append_assoc]⟩
    · exact ⟨ext, rfl⟩
/-- Where the search begins. -/
theorem bf_start {N s : Nat} (hs : s < N) : Bf N ((List.replicate N (-1 : Int)).set s 0) [s] ∧ negs ((List.replicate N (-1 : Int)).set s 0) + 1 = N := by
  have e0 : negs (List.replicate N (-1 : Int)) = N := by
    unfold negs
    rw [List.countP_replicate]
    rfl
  have hg : gi (List.replicate N (-1 : Int)) s = -1 := by unfold gi; rw [List.getD_eq_getElem?_getD, List.getElem?_replicate, if_pos hs]; rfl
  have hns := negs_set (far := List.replicate N (-1 : Int)) (j := s) (x := 0) (by simpa using hs) (by rw [hg]; decide) (Int.le_refl _)
  rw [e0] at hns
  refine ⟨⟨by simp, fun n hn => ?_, fun j hj => ?_⟩, hns⟩
  · obtain rfl : n = s := by simpa using hn
    rw [gi_set, if_pos ⟨rfl, by simpa using hs⟩]
    exact ⟨hs, Int.le_refl _⟩
  · rw [gi_set]
    split
    · omega
    · have : gi (List.replicate N (-1 : Int)) j = -1 := by unfold gi; rw [List.getD_eq_getElem?_getD, List.getElem?_replicate, if_pos hj]; rfl
      rw [this]
      omega
/-- Numbers as the program holds them. -/
def natsI (L : List Nat) : List Int := L.map Int.ofNat
theorem natsI_length (L : List Nat) : (natsI L).length = L.length := by simp [natsI]
theorem natsI_append (L M : List Nat) : natsI (L ++ M) = natsI L ++ natsI M := by simp [natsI]
/-- The neighbours, as they are reckoned. -/
theorem near_int {W H i X Y : Nat} (hX : i % W = X) (hY : i / W = Y) :
    natsI (nearL W H i) = (if 0 < Y then [(i : Int) - W] else []) ++ (if X + 1 < W then [(i : Int) + 1] else []) ++ (if Y + 1 < H then [(i : Int) + W] else []) ++ (if 0 < X then [(i : Int) - 1] else []) := by
  have hdm := Nat.div_add_mod i W
  rw [hX, hY] at hdm
  unfold nearL
  rw [hX, hY]
  simp only [natsI_append]
  congr 1
  · congr 1
    · congr 1
      · split
        · have : W * 1 ≤ W * Y := Nat.mul_le_mul_left W (by omega)
          simp [natsI]
          omega
        · rfl
      · split <;> simp [natsI]
    · split <;> simp [natsI]
  · split
    · simp [natsI]
      omega
    · rfl
/-- For each cell the least length of a way to it from a cell, -1 where there is none. -/
def farL (W H : Nat) (c : List UInt8) (s : Nat) : List Int :=
  if at0 c s = 35 then List.replicate (nn W H) (-1) else bfR (fun j => at0 c j != 35) W H (nn W H) ((List.replicate (nn W H) (-1)).set s 0) [s]
theorem bfR_ok {N W H : Nat} (hN : N = nn W H) (ok : Nat → Bool) : ∀ (f : Nat) {far : List Int} {q : List Nat}, Bf N far q → (bfR ok W H f far q).length = N ∧ ∀ j, j < N → -1 ≤ gi (bfR ok W H f far q) j ∧ gi (bfR ok W H f far q) j ≤ N
  | 0, far, q, h => ⟨h.len, fun j hj => by have := h.hi j hj; show -1 ≤ gi far j ∧ gi far j ≤ N; omega⟩
  | f + 1, far, [], h => ⟨h.len, fun j hj => by have := h.hi j hj; show -1 ≤ gi far j ∧ gi far j ≤ N; omega⟩
  | f + 1, far, n :: q, h => by
    have hq := h.inq n List.mem_cons_self
    have h' : Bf N far q := ⟨h.len, fun m hm => h.inq m (List.mem_cons_of_mem _ hm), h.hi⟩
    have := (rlxL_ok (ok := ok) hq.1 (nearL W H n) h' hq.2 (by rw [hN]; exact nearL_lt (by rw [← hN]; exact hq.1))).1
    exact bfR_ok hN ok f this
theorem farL_ok {W H : Nat} {c : List UInt8} {s : Nat} (hs : s < nn W H) : (farL W H c s).length = nn W H ∧ ∀ j, j < nn W H → -1 ≤ gi (farL W H c s) j ∧ gi (farL W H c s) j ≤ nn W H := by
  unfold farL
  split
  · refine ⟨by simp, fun j hj => ?_⟩
    have : gi (List.replicate (nn W H) (-1 : Int)) j = -1 := by unfold gi; rw [List.getD_eq_getElem?_getD, List.getElem?_replicate, if_pos hj]; rfl
    rw [this]
    omega
  · exact bfR_ok rfl _ _ (bf_start hs).1
end Go.Proofs.YtdebiobhmpoiiaaDoor
