/-
  Plain mathematics of pieces: a search that marks cells, the cells that are reached from one, and how many pieces there are. No program is spoken of.
-/
import Derived.Test.YtdebiobhmpoiiaaDoorWayZ
import Derived.Test.YtdebiobhmpoiiaaDoorBTi
namespace Go.Proofs.YtdebiobhmpoiiaaDoor
open Go.RowKit
/-! the neighbours go both ways -/
theorem nearL_xy {W H x y : Nat} (hx : x < W) : nearL W H (nn W y + x) = (if 0 < y then [nn W y + x - W] else []) ++ (if x + 1 < W then [nn W y + x + 1] else []) ++ (if y + 1 < H then [nn W y + x + W] else []) ++ (if 0 < x then [nn W y + x - 1] else []) := by
  unfold nearL
  rw [nn_mod y hx, nn_div y hx]
theorem nn_succ (W y : Nat) : nn W (y + 1) = nn W y + W := by unfold nn; rw [Nat.mul_succ]
theorem mem_near {W H x y j : Nat} (hx : x < W) : j ∈ nearL W H (nn W y + x) ↔ ∃ x' y', j = nn W y' + x' ∧ x' < W ∧ ((y' + 1 = y ∧ x' = x) ∨ (y' = y ∧ x' = x + 1) ∨ (y' = y + 1 ∧ y' < H ∧ x' = x) ∨ (y' = y ∧ x' + 1 = x)) := by
  rw [nearL_xy hx]
  simp only [List.mem_append]
  constructor
  · rintro (((h | h) | h) | h) <;> split at h <;> simp at h <;> subst h
    · rename_i h0
      obtain ⟨z, rfl⟩ : ∃ z, y = z + 1 := ⟨y - 1, by omega⟩
      exact ⟨x, z, by rw [nn_succ]; omega, hx, .inl ⟨rfl, rfl⟩⟩
    · rename_i h0
      exact ⟨x + 1, y, by omega, h0, .inr (.inl ⟨rfl, rfl⟩)⟩
    · rename_i h0
      exact ⟨x, y + 1, by rw [nn_succ]; omega, hx, .inr (.inr (.inl ⟨rfl, h0, rfl⟩))⟩
    · rename_i h0
      exact ⟨x - 1, y, by omega, by omega, .inr (.inr (.inr ⟨rfl, by omega⟩))⟩
  · rintro ⟨x', y', rfl, hx', (⟨h1, h2⟩ | ⟨h1, h2⟩ | ⟨h1, h3, h2⟩ | ⟨h1, h2⟩)⟩
    · subst h1; subst h2
      refine .inl (.inl (.inl ?_))
      rw [if_pos (by omega), nn_succ]
      simp
      omega
    · subst h1; subst h2
      refine .inl (.inl (.inr ?_))
      rw [if_pos hx']
      simp
      omega
    · subst h1; subst h2
      refine .inl (.inr ?_)
      rw [if_pos h3, nn_succ]
      simp
      omega
    · subst h1; subst h2
      refine .inr ?_
      rw [if_pos (by omega)]
      simp
theorem near_sym {W H i j : Nat} (hi : i < nn W H) (h : j ∈ nearL W H i) : i ∈ nearL W H j := by
  have hW : 0 < W := by
    rcases Nat.eq_zero_or_pos W with e | e
    · subst e; unfold nn at hi; omega
    · exact e
  have hx : i % W < W := Nat.mod_lt _ hW
  have hy : i / W < H := row_lt hi
  have e := nn_pair W i
  generalize i % W = x at *
  generalize i / W = y at *
  subst e
  obtain ⟨x', y', rfl, hx', hc⟩ := (mem_near hx).1 h
  refine (mem_near hx').2 ⟨x, y, rfl, hx, ?_⟩
  rcases hc with ⟨h1, h2⟩ | ⟨h1, h2⟩ | ⟨h1, h3, h2⟩ | ⟨h1, h2⟩
  · exact .inr (.inr (.inl ⟨h1.symm, hy, h2.symm⟩))
  · exact .inr (.inr (.inr ⟨h1.symm, h2.symm⟩))
  · exact .inl ⟨h1.symm, h2.symm⟩
  · exact .inr (.inl ⟨h1.symm, h2.symm⟩)
/-! the search that marks -/
/-- One neighbour is marked. -/
def rlS (ok : Nat → Bool) (v : Int) (s : List Int × List Nat) (j : Nat) : List Int × List Nat :=
  if ok j && decide (gi s.1 j < 0) then (s.1.set j v, s.2 ++ [j]) else s
def bfS (ok : Nat → Bool) (W H : Nat) (v : Int) : Nat → List Int → List Nat → List Int
  | 0, far, _ => far
  | _ + 1, far, [] => far
  | f + 1, far, n :: q => bfS ok W H v f ((nearL W H n).foldl (rlS ok v) (far, q)).1 ((nearL W H n).foldl (rlS ok v) (far, q)).2
theorem bfS_nil (ok : Nat → Bool) (W H : Nat) (v : Int) (f : Nat) (far : List Int) : bfS ok W H v f far [] = far := by cases f <;> rfl
structure Sk (N : Nat) (M : Int) (far : List Int) (q : List Nat) : Prop where
  len : far.length = N
  inq : ∀ n ∈ q, n < N
  hi : ∀ j, j < N → -1 ≤ gi far j ∧ gi far j < M
theorem rlS_ok {N : Nat} {M v : Int} {ok : Nat → Bool} {far : List Int} {q : List Nat} {j : Nat} (h : Sk N M far q) (hv : 0 ≤ v) (hM : v < M) (hj : j < N) :
    Sk N M (rlS ok v (far, q) j).1 (rlS ok v (far, q) j).2 ∧ negs (rlS ok v (far, q) j).1 + (rlS ok v (far, q) j).2.length = negs far + q.length := by
  unfold rlS
  split
  · rename_i hc
    rw [Bool.and_eq_true, decide_eq_true_eq] at hc
    have hc2 : gi far j < 0 := hc.2
    have hns := negs_set (x := v) (by rw [h.len]; exact hj) hc2 hv
    refine ⟨⟨by rw [List.length_set]; exact h.len, fun m hm => ?_, fun i hi => ?_⟩, ?_⟩
    · rcases List.mem_append.1 hm with hm | hm
      · exact h.inq m hm
      · obtain rfl : m = j := by simpa using hm
        exact hj
    · show -1 ≤ gi (far.set j v) i ∧ gi (far.set j v) i < M
      rw [gi_set]
      split
      · omega
      · exact h.hi i hi
    · show negs (far.set j v) + (q ++ [j]).length = _
      rw [List.length_append, List.length_singleton]
      omega
  · exact ⟨h, rfl⟩
theorem rlSL_ok {N : Nat} {M v : Int} {ok : Nat → Bool} (hv : 0 ≤ v) (hM : v < M) : ∀ (l : List Nat) {far : List Int} {q : List Nat}, Sk N M far q → (∀ j ∈ l, j < N) →
    Sk N M (l.foldl (rlS ok v) (far, q)).1 (l.foldl (rlS ok v) (far, q)).2 ∧ negs (l.foldl (rlS ok v) (far, q)).1 + (l.foldl (rlS ok v) (far, q)).2.length = negs far + q.length
  | [], far, q, h, _ => ⟨h, rfl⟩
  | j :: l, far, q, h, hl => by
    obtain ⟨a1, a3⟩ := rlS_ok (ok := ok) h hv hM (hl j (List.mem_cons_self))
    have := rlSL_ok (ok := ok) hv hM l a1 (fun i hi => hl i (List.mem_cons_of_mem _ hi))
    rw [List.foldl_cons]
    exact ⟨this.1, this.2.trans a3⟩
theorem rlS_drop (ok : Nat → Bool) (v : Int) (j : Nat) (far : List Int) (q : List Nat) (k : Nat) (hk : k ≤ q.length) :
    (rlS ok v (far, q) j).1 = (rlS ok v (far, q.drop k) j).1 ∧ (rlS ok v (far, q) j).2.drop k = (rlS ok v (far, q.drop k) j).2 ∧ q.length ≤ (rlS ok v (far, q) j).2.length := by
  unfold rlS
  split
  · exact ⟨rfl, by show (q ++ [j]).drop k = q.drop k ++ [j]; rw [List.drop_append_of_le_length hk], by simp⟩
  · exact ⟨rfl, rfl, Nat.le_refl _⟩
theorem rlS_take (ok : Nat → Bool) (v : Int) (l : List Nat) (s : List Int × List Nat) {t j : Nat} (h : l[t]? = some j) : (l.take (t + 1)).foldl (rlS ok v) s = rlS ok v ((l.take t).foldl (rlS ok v) s) j := by
  obtain ⟨hlt, e⟩ := List.getElem?_eq_some_iff.1 h
  rw [List.take_succ_eq_append_getElem hlt, List.foldl_append, e]
  rfl
theorem rlSL_drop (ok : Nat → Bool) (v : Int) (k : Nat) : ∀ (l : List Nat) (far : List Int) (q : List Nat), k ≤ q.length →
    (l.foldl (rlS ok v) (far, q)).1 = (l.foldl (rlS ok v) (far, q.drop k)).1 ∧ (l.foldl (rlS ok v) (far, q)).2.drop k = (l.foldl (rlS ok v) (far, q.drop k)).2
  | [], _, _, _ => ⟨rfl, rfl⟩
  | j :: l, far, q, hk => by
    obtain ⟨h1, h2, h3⟩ := rlS_drop ok v j far q k hk
    obtain ⟨⟨f1, q1⟩, hs⟩ : ∃ s, rlS ok v (far, q) j = s := ⟨_, rfl⟩
    rw [hs] at h1 h2 h3
    have hf : rlS ok v (far, q.drop k) j = (f1, q1.drop k) := by
      rw [show rlS ok v (far, q.drop k) j = ((rlS ok v (far, q.drop k) j).1, (rlS ok v (far, q.drop k) j).2) from rfl, ← h1, ← h2]
    rw [List.foldl_cons, List.foldl_cons, hs, hf]
    exact rlSL_drop ok v k l f1 q1 (by show k ≤ q1.length; have : q.length ≤ q1.length := h3; omega)
theorem rlSL_pre (ok : Nat → Bool) (v : Int) : ∀ (l : List Nat) (s : List Int × List Nat), ∃ ext, (l.foldl (rlS ok v) s).2 = s.2 ++ ext
  | [], s => ⟨[], by simp⟩
  | j :: l, s => by
    obtain ⟨ext, h⟩ := rlSL_pre ok v l (rlS ok v s j)
    rw [List.foldl_cons, h]
    unfold rlS
    split
    · exact ⟨[j] ++ ext, by show (s.2 ++ [j]) ++ ext = _; rw [List.append_assoc]⟩
    · exact ⟨ext, rfl⟩
theorem bfS_ok {N W H : Nat} {M v : Int} (hN : N = nn W H) (ok : Nat → Bool) (hv : 0 ≤ v) (hM : v < M) : ∀ (f : Nat) {far : List Int} {q : List Nat}, Sk N M far q → Sk N M (bfS ok W H v f far q) []
  | 0, far, q, h => ⟨h.len, fun n hn => (by cases hn), h.hi⟩
  | f + 1, far, [], h => h
  | f + 1, far, n :: q, h => by
    have hq := h.inq n List.mem_cons_self
    have h' : Sk N M far q := ⟨h.len, fun m hm => h.inq m (List.mem_cons_of_mem _ hm), h.hi⟩
    exact bfS_ok hN ok hv hM f (rlSL_ok (ok := ok) hv hM (nearL W H n) h' (by rw [hN]; exact nearL_lt (by rw [← hN]; exact hq))).1
/-! what is marked -/
/-- What has changed since far0 was marked v, and lies in T. -/
def Ex (far0 : List Int) (ok : Nat → Bool) (v : Int) (T : Nat → Prop) (far : List Int) (q : List Nat) : Prop :=
  (∀ j, gi far j = gi far0 j ∨ (gi far0 j < 0 ∧ gi far j = v ∧ ok j = true ∧ T j)) ∧ ∀ n ∈ q, T n
theorem ex_rl {far0 far : List Int} {ok : Nat → Bool} {v : Int} {T : Nat → Prop} {q : List Nat} {j : Nat} (h : Ex far0 ok v T far q) (hv : 0 ≤ v) (hT : ok j = true → T j) : Ex far0 ok v T (rlS ok v (far, q) j).1 (rlS ok v (far, q) j).2 := by
  unfold rlS
  split
  · rename_i hc
    rw [Bool.and_eq_true, decide_eq_true_eq] at hc
    have hc2 : gi far j < 0 := hc.2
    refine ⟨fun i => ?_, fun m hm => ?_⟩
    · show gi (far.set j v) i = _ ∨ (_ ∧ gi (far.set j v) i = v ∧ _)
      rw [gi_set]
      split
      · rename_i hi
        obtain ⟨rfl, hi2⟩ := hi
        refine .inr ⟨?_, rfl, hc.1, hT hc.1⟩
        rcases h.1 i with e | e
        · omega
        · omega
      · exact h.1 i
    · rcases List.mem_append.1 hm with hm | hm
      · exact h.2 m hm
      · obtain rfl : m = j := by simpa using hm
        exact hT hc.1
  · exact h
theorem ex_fold {far0 : List Int} {ok : Nat → Bool} {v : Int} {T : Nat → Prop} (hv : 0 ≤ v) : ∀ (l : List Nat) {far : List Int} {q : List Nat}, Ex far0 ok v T far q → (∀ j ∈ l, ok j = true → T j) →
    Ex far0 ok v T (l.foldl (rlS ok v) (far, q)).1 (l.foldl (rlS ok v) (far, q)).2
  | [], _, _, h, _ => h
  | j :: l, far, q, h, hl => by
    rw [List.foldl_cons]
    exact ex_fold hv l (ex_rl h hv (hl j List.mem_cons_self)) (fun i hi => hl i (List.mem_cons_of_mem _ hi))
theorem ex_bf {W H : Nat} {far0 : List Int} {ok : Nat → Bool} {v : Int} {T : Nat → Prop} (hv : 0 ≤ v) (hT : ∀ i j, T i → j ∈ nearL W H i → ok j = true → T j) : ∀ (f : Nat) {far : List Int} {q : List Nat}, Ex far0 ok v T far q →
    ∀ j, gi (bfS ok W H v f far q) j = gi far0 j ∨ (gi far0 j < 0 ∧ gi (bfS ok W H v f far q) j = v ∧ ok j = true ∧ T j)
  | 0, _, _, h => h.1
  | _ + 1, _, [], h => h.1
  | f + 1, far, n :: q, h => by
    have h' : Ex far0 ok v T far q := ⟨h.1, fun m hm => h.2 m (List.mem_cons_of_mem _ hm)⟩
    exact ex_bf hv hT f (ex_fold hv (nearL W H n) h' (fun j hj => hT n j (h.2 n List.mem_cons_self) hj))
theorem bf_mono {W H : Nat} {far : List Int} {ok : Nat → Bool} {v : Int} (hv : 0 ≤ v) (f : Nat) (q : List Nat) {i : Nat} (h : 0 ≤ gi far i) : gi (bfS ok W H v f far q) i = gi far i := by
  rcases ex_bf (T := fun _ => True) hv (fun _ _ _ _ _ => trivial) f (far0 := far) (far := far) (q := q) ⟨fun j => .inl rfl, fun _ _ => trivial⟩ i with e | e
  · exact e
  · omega
/-- All that is marked, and no longer waits, has its neighbours marked. -/
def Clo (ok : Nat → Bool) (W H : Nat) (far : List Int) (q : List Nat) : Prop := ∀ i, i < nn W H → 0 ≤ gi far i → i ∉ q → ∀ j ∈ nearL W H i, ok j = true → 0 ≤ gi far j
theorem rl_mono {ok : Nat → Bool} {v : Int} {far : List Int} {q : List Nat} {j i : Nat} (hv : 0 ≤ v) (h : 0 ≤ gi far i) : 0 ≤ gi (rlS ok v (far, q) j).1 i := by
  unfold rlS
  split
  · show 0 ≤ gi (far.set j v) i
    rw [gi_set]
    split <;> assumption
  · exact h
theorem rl_hit {ok : Nat → Bool} {v : Int} {far : List Int} {q : List Nat} {j : Nat} (hv : 0 ≤ v) (hj : j < far.length) (hok : ok j = true) : 0 ≤ gi (rlS ok v (far, q) j).1 j := by
  unfold rlS
  split
  · show 0 ≤ gi (far.set j v) j
    rw [gi_set, if_pos ⟨rfl, hj⟩]
    exact hv
  · rename_i hc
    rw [hok] at hc
    simp at hc
    exact hc
theorem rl_new {ok : Nat → Bool} {v : Int} {far : List Int} {q : List Nat} {j i : Nat} (h : 0 ≤ gi (rlS ok v (far, q) j).1 i) : 0 ≤ gi far i ∨ i ∈ (rlS ok v (far, q) j).2 := by
  unfold rlS at h ⊢
  split at h
  · rename_i hc
    rw [if_pos hc]
    have h' : 0 ≤ gi (far.set j v) i := h
    rw [gi_set] at h'
    split at h'
    · rename_i e
      exact .inr (by rw [e.1]; simp)
    · exact .inl h'
  · exact .inl h
theorem rl_q {ok : Nat → Bool} {v : Int} {far : List Int} {q : List Nat} {j m : Nat} (h : m ∈ q) : m ∈ (rlS ok v (far, q) j).2 := by
  unfold rlS
  split
  · exact List.mem_append_left _ h
  · exact h
theorem rl_len {ok : Nat → Bool} {v : Int} {far : List Int} {q : List Nat} {j : Nat} : (rlS ok v (far, q) j).1.length = far.length := by
  unfold rlS
  split
  · exact List.length_set
  · rfl
theorem fold_clo {ok : Nat → Bool} {W H n : Nat} {v : Int} (hv : 0 ≤ v) : ∀ (l : List Nat) {far : List Int} {q : List Nat}, far.length = nn W H → (∀ j ∈ l, j < nn W H) →
    (∀ i, i < nn W H → i ≠ n → 0 ≤ gi far i → i ∉ q → ∀ j ∈ nearL W H i, ok j = true → 0 ≤ gi far j) →
    (∀ i, i < nn W H → i ≠ n → 0 ≤ gi (l.foldl (rlS ok v) (far, q)).1 i → i ∉ (l.foldl (rlS ok v) (far, q)).2 → ∀ j ∈ nearL W H i, ok j = true → 0 ≤ gi (l.foldl (rlS ok v) (far, q)).1 j) ∧
    (∀ j ∈ l, ok j = true → 0 ≤ gi (l.foldl (rlS ok v) (far, q)).1 j) ∧ ∀ i, 0 ≤ gi far i → 0 ≤ gi (l.foldl (rlS ok v) (far, q)).1 i
  | [], _, _, _, _, hA => ⟨hA, fun j hj => (by cases hj), fun i hi => hi⟩
  | j :: l, far, q, hlen, hl, hA => by
    obtain ⟨b1, b2, b3⟩ := fold_clo (ok := ok) (n := n) hv l (far := (rlS ok v (far, q) j).1) (q := (rlS ok v (far, q) j).2) (rl_len.trans hlen) (fun i hi => hl i (List.mem_cons_of_mem _ hi)) (fun i hi hin h0 hq k hk hok => by
      rcases rl_new h0 with h | h
      · exact rl_mono hv (hA i hi hin h (fun hm => hq (rl_q hm)) k hk hok)
      · exact absurd h hq)
    rw [List.foldl_cons]
    refine ⟨b1, fun i hi hok => ?_, fun i hi => b3 i (rl_mono hv hi)⟩
    rcases List.mem_cons.1 hi with rfl | hi
    · exact b3 i (rl_hit hv (by rw [hlen]; exact hl i List.mem_cons_self) hok)
    · exact b2 i hi hok
theorem bf_clo {ok : Nat → Bool} {W H : Nat} {M v : Int} (hv : 0 ≤ v) (hM : v < M) : ∀ (f : Nat) {far : List Int} {q : List Nat}, Sk (nn W H) M far q → negs far + q.length ≤ f → Clo ok W H far q → Clo ok W H (bfS ok W H v f far q) []
  | 0, far, q, _, hf, hc => by
    obtain rfl : q = [] := List.eq_nil_of_length_eq_zero (by omega)
    exact hc
  | f + 1, far, [], _, _, hc => hc
  | f + 1, far, n :: q, h, hf, hc => by
    have hq := h.inq n List.mem_cons_self
    have h' : Sk (nn W H) M far q := ⟨h.len, fun m hm => h.inq m (List.mem_cons_of_mem _ hm), h.hi⟩
    obtain ⟨s1, s2⟩ := rlSL_ok (ok := ok) hv hM (nearL W H n) h' (nearL_lt hq)
    obtain ⟨b1, b2, b3⟩ := fold_clo (ok := ok) (n := n) (W := W) (H := H) hv (nearL W H n) (far := far) (q := q) h.len (nearL_lt hq) (fun i hi hin h0 hqi => hc i hi h0 (fun hm => by
      rcases List.mem_cons.1 hm with e | e
      · exact hin e
      · exact hqi e))
    rw [List.length_cons] at hf
    refine bf_clo hv hM f s1 (by omega) (fun i hi h0 hqi j hj hok => ?_)
    by_cases e : i = n
    · subst e
      exact b2 j hj hok
    · exact b1 i hi e h0 hqi j hj hok
/-! what is reached from a cell -/
def inR (ok : Nat → Bool) (W H s j : Nat) : Prop := 0 ≤ gi (bfS ok W H 0 (nn W H) ((List.replicate (nn W H) (-1)).set s 0) [s]) j
theorem rep_at {N j : Nat} (h : j < N) : gi (List.replicate N (-1 : Int)) j = -1 := by unfold gi; rw [List.getD_eq_getElem?_getD, List.getElem?_replicate, if_pos h]; rfl
section
variable {ok : Nat → Bool} {W H : Nat}
theorem in_start {s : Nat} (hs : s < nn W H) : Sk (nn W H) 1 ((List.replicate (nn W H) (-1)).set s 0) [s] ∧ negs ((List.replicate (nn W H) (-1 : Int)).set s 0) + 1 = nn W H := by
  obtain ⟨h1, h2⟩ := bf_start hs
  refine ⟨⟨h1.len, fun n hn => (h1.inq n hn).1, fun j hj => ?_⟩, h2⟩
  rw [gi_set]
  split
  · omega
  · rw [rep_at hj]; omega
theorem in_self {s : Nat} (hs : s < nn W H) : inR ok W H s s := by
  unfold inR
  have e : gi ((List.replicate (nn W H) (-1 : Int)).set s 0) s = 0 := by rw [gi_set, if_pos ⟨rfl, by simpa using hs⟩]
  rw [bf_mono (Int.le_refl 0) _ _ (by rw [e]; exact Int.le_refl 0), e]
  exact Int.le_refl 0
theorem in_closed {s i j : Nat} (hs : s < nn W H) (hi : i < nn W H) (h : inR ok W H s i) (hj : j ∈ nearL W H i) (hok : ok j = true) : inR ok W H s j := by
  obtain ⟨h1, h2⟩ := in_start hs
  refine bf_clo (M := 1) (Int.le_refl 0) (by decide) (nn W H) h1 (by show _ + 1 ≤ _; omega) (fun i hi h0 hq => ?_) i hi h (by simp) j hj hok
  rw [gi_set] at h0
  split at h0
  · rename_i e
    exact absurd (by rw [e.1]; simp) hq
  · rw [rep_at hi] at h0; omega
theorem in_min {s : Nat} (T : Nat → Prop) (hs : T s) (hT : ∀ i j, T i → j ∈ nearL W H i → ok j = true → T j) {j : Nat} (hj : j < nn W H) (h : inR ok W H s j) : T j := by
  unfold inR at h
  rcases ex_bf (W := W) (H := H) (far0 := (List.replicate (nn W H) (-1 : Int)).set s 0) (ok := ok) (T := T) (Int.le_refl 0) hT (nn W H) (far := (List.replicate (nn W H) (-1 : Int)).set s 0) (q := [s]) ⟨fun j => .inl rfl, fun n hn => by rw [List.mem_singleton.1 hn]; exact hs⟩ j with e | e
  · rw [e, gi_set] at h
    split at h
    · rename_i e2
      rw [e2.1]; exact hs
    · rw [rep_at hj] at h; omega
  · exact e.2.2.2
theorem in_trans {s i j : Nat} (hs : s < nn W H) (hi : i < nn W H) (hj : j < nn W H) (h1 : inR ok W H s i) (h2 : inR ok W H i j) : inR ok W H s j :=
  (in_min (ok := ok) (fun k => k < nn W H ∧ inR ok W H s k) ⟨hi, h1⟩ (fun _ b ha hb hok => ⟨nearL_lt ha.1 b hb, in_closed hs ha.1 ha.2 hb hok⟩) hj h2).2
theorem in_ok {s j : Nat} (_hs : s < nn W H) (h0 : ok s = true) (hj : j < nn W H) (h : inR ok W H s j) : ok j = true :=
  in_min (ok := ok) (W := W) (H := H) (fun k => ok k = true) h0 (fun _ _ _ _ h => h) hj h
theorem in_sym {s i : Nat} (hs : s < nn W H) (h0 : ok s = true) (hi : i < nn W H) (h : inR ok W H s i) : inR ok W H i s :=
  (in_min (ok := ok) (fun k => k < nn W H ∧ ok k = true ∧ inR ok W H k s) ⟨hs, h0, in_self hs⟩ (fun a b ha hb hok => by
    have hbl := nearL_lt ha.1 b hb
    exact ⟨hbl, hok, in_trans hbl ha.1 hs (in_closed hbl hbl (in_self hbl) (near_sym ha.1 hb) ha.2.1) ha.2.2⟩) hi h).2.2
end
/-! all pieces -/
def skTo (ok : Nat → Bool) (W H : Nat) : Nat → List Int × Nat
  | 0 => (List.replicate (nn W H) (-1), 0)
  | k + 1 => if ok k && decide (gi (skTo ok W H k).1 k < 0) then (bfS ok W H (skTo ok W H k).2 (nn W H) ((skTo ok W H k).1.set k (skTo ok W H k).2) [k], (skTo ok W H k).2 + 1) else skTo ok W H k
structure SkI (ok : Nat → Bool) (W H k : Nat) (o : List Int) (n : Nat) : Prop where
  len : o.length = nn W H
  hi : ∀ j, j < nn W H → -1 ≤ gi o j ∧ gi o j < n
  le : n ≤ k
  cls : ∀ i, i < nn W H → 0 ≤ gi o i → ok i = true ∧ ∀ j, j < nn W H → (gi o j = gi o i ↔ inR ok W H i j)
  all : ∀ i, i < k → ok i = true → 0 ≤ gi o i
  sur : ∀ v, v < n → ∃ j, j < nn W H ∧ gi o j = (v : Nat)
theorem negs_pos {o : List Int} {k : Nat} (hk : k < o.length) (h : gi o k < 0) : 1 ≤ negs o := by
  have := negs_set (far := o) (x := 0) hk h (Int.le_refl 0)
  omega
theorem sk_start {ok : Nat → Bool} {W H k : Nat} {o : List Int} {n : Nat} (h : SkI ok W H k o n) (hk : k < nn W H) (hneg : gi o k < 0) : Sk (nn W H) (n + 1) (o.set k n) [k] ∧ negs (o.set k n) + 1 ≤ nn W H := by
  have hns := negs_set (x := n) (by rw [h.len]; exact hk) hneg (Int.natCast_nonneg n)
  have := negs_le o
  rw [h.len] at this
  refine ⟨⟨by rw [List.length_set]; exact h.len, fun m hm => by rw [List.mem_singleton.1 hm]; exact hk, fun j hj => ?_⟩, by omega⟩
  rw [gi_set]
  split
  · omega
  · have := h.hi j hj
    omega
theorem sk_step {ok : Nat → Bool} {W H k : Nat} {o : List Int} {n : Nat} (h : SkI ok W H k o n) (hk : k < nn W H) (hok : ok k = true) (hneg : gi o k < 0) {j : Nat} (hj : j < nn W H) :
    (inR ok W H k j → gi o j < 0 ∧ gi (bfS ok W H n (nn W H) (o.set k n) [k]) j = n) ∧ (¬ inR ok W H k j → gi (bfS ok W H n (nn W H) (o.set k n) [k]) j = gi o j) := by
  obtain ⟨s1, s2⟩ := sk_start h hk hneg
  have hn0 : (0 : Int) ≤ n := Int.natCast_nonneg n
  have hc : Clo ok W H (bfS ok W H n (nn W H) (o.set k n) [k]) [] := bf_clo (M := (n : Int) + 1) hn0 (by omega) (nn W H) s1 (by show _ + 1 ≤ _; omega) (fun i hi h0 hq a ha hoa => by
    rw [gi_set] at h0
    split at h0
    · rename_i e
      exact absurd (by rw [e.1]; simp) hq
    · have h1 := (h.cls i hi h0).2 a (nearL_lt hi a ha)
      have h2 : inR ok W H i a := in_closed hi hi (in_self hi) ha hoa
      have h3 := h1.2 h2
      rw [gi_set]
      split
      · omega
      · omega)
  have hkk : gi (o.set k (n : Int)) k = n := by rw [gi_set, if_pos ⟨rfl, by rw [h.len]; exact hk⟩]
  have hfk : gi (bfS ok W H n (nn W H) (o.set k n) [k]) k = n := by rw [bf_mono hn0 _ _ (by rw [hkk]; exact hn0), hkk]
  have hT := ex_bf (W := W) (H := H) (far0 := o.set k (n : Int)) (ok := ok) (v := n) (T := fun i => i < nn W H ∧ inR ok W H k i) hn0 (fun a b ha hb ho => ⟨nearL_lt ha.1 b hb, in_closed hk ha.1 ha.2 hb ho⟩) (nn W H) (far := o.set k (n : Int)) (q := [k]) ⟨fun j => .inl rfl, fun m hm => by rw [List.mem_singleton.1 hm]; exact ⟨hk, in_self hk⟩⟩ j
  constructor
  · intro hR
    have hon : gi o j < 0 := by
      rcases Int.lt_or_le (gi o j) 0 with h1 | h1
      · exact h1
      · have h2 := (h.cls j hj h1).2 k hk
        have h3 := h2.2 (in_sym hk hok hj hR)
        omega
    have hvis : 0 ≤ gi (bfS ok W H n (nn W H) (o.set k n) [k]) j := (in_min (ok := ok) (fun i => i < nn W H ∧ 0 ≤ gi (bfS ok W H n (nn W H) (o.set k n) [k]) i) ⟨hk, by rw [hfk]; exact hn0⟩ (fun a b ha hb ho => ⟨nearL_lt ha.1 b hb, hc a ha.1 ha.2 (by simp) b hb ho⟩) hj hR).2
    refine ⟨hon, ?_⟩
    rcases hT with e | e
    · rw [gi_set] at e
      split at e
      · exact e
      · omega
    · exact e.2.1
  · intro hR
    have hjk : j ≠ k := fun e => hR (by rw [e]; exact in_self hk)
    rcases hT with e | e
    · rw [e, gi_set, if_neg (fun h => hjk h.1)]
    · exact absurd e.2.2.2.2 hR
theorem skTo_ok (ok : Nat → Bool) (W H : Nat) : ∀ k, k ≤ nn W H → SkI ok W H k (skTo ok W H k).1 (skTo ok W H k).2
  | 0, _ => by
    show SkI ok W H 0 (List.replicate (nn W H) (-1)) 0
    refine ⟨by simp, fun j hj => ?_, Nat.le_refl _, fun i hi h => ?_, fun i hi => absurd hi (Nat.not_lt_zero _), fun v hv => absurd hv (Nat.not_lt_zero _)⟩
    · rw [rep_at hj]; exact ⟨Int.le_refl _, by decide⟩
    · rw [rep_at hi] at h; omega
  | k + 1, hk => by
    have h := skTo_ok ok W H k (by omega)
    have hkl : k < nn W H := by omega
    unfold skTo
    obtain ⟨⟨o, n⟩, e⟩ : ∃ s, skTo ok W H k = s := ⟨_, rfl⟩
    rw [e] at h ⊢
    dsimp only at h ⊢
    split
    · rename_i hc
      rw [Bool.and_eq_true, decide_eq_true_eq] at hc
      obtain ⟨hok, hneg⟩ := hc
      have hst := fun j (hj : j < nn W H) => sk_step h hkl hok hneg hj
      obtain ⟨s1, s2⟩ := sk_start h hkl hneg
      have hs := bfS_ok rfl ok (Int.natCast_nonneg n) (by omega : (n : Int) < n + 1) (nn W H) s1
      generalize bfS ok W H n (nn W H) (o.set k n) [k] = F at hst hs
      show SkI ok W H (k + 1) F (n + 1)
      refine ⟨hs.len, fun j hj => by have := hs.hi j hj; omega, by have := h.le; omega, fun i hi h0 => ?_, fun i hi ho => ?_, fun v hv => ?_⟩
      · by_cases hR : inR ok W H k i
        · obtain ⟨h1, h2⟩ := (hst i hi).1 hR
          have hoi := in_ok hkl hok hi hR
          refine ⟨hoi, fun j hj => ?_⟩
          rw [h2]
          constructor
          · intro e
            have hRj : inR ok W H k j := by
              refine Classical.byContradiction fun hn => ?_
              rw [(hst j hj).2 hn] at e
              have := (h.hi j hj).2
              omega
            exact in_trans hi hkl hj (in_sym hkl hok hi hR) hRj
          · intro hij
            exact ((hst j hj).1 (in_trans hkl hi hj hR hij)).2
        · have e1 := (hst i hi).2 hR
          rw [e1] at h0
          obtain ⟨hoi, hcl⟩ := h.cls i hi h0
          refine ⟨hoi, fun j hj => ?_⟩
          rw [e1]
          by_cases hRj : inR ok W H k j
          · obtain ⟨h1, h2⟩ := (hst j hj).1 hRj
            rw [h2]
            constructor
            · intro e
              have := (h.hi i hi).2
              omega
            · intro hij
              exact absurd (in_trans hkl hj hi hRj (in_sym hi hoi hj hij)) hR
          · rw [(hst j hj).2 hRj]
            exact hcl j hj
      · by_cases hR : inR ok W H k i
        · rw [((hst i (by omega)).1 hR).2]
          exact Int.natCast_nonneg n
        · rw [(hst i (by omega)).2 hR]
          refine h.all i ?_ ho
          rcases Nat.lt_or_ge i k with h1 | h1
          · exact h1
          · obtain rfl : i = k := by omega
            exact absurd (in_self hkl) hR
      · rcases Nat.lt_or_ge v n with hv' | hv'
        · obtain ⟨j, hj, e⟩ := h.sur v hv'
          refine ⟨j, hj, ?_⟩
          rw [(hst j hj).2 (fun hR => by have := ((hst j hj).1 hR).1; omega)]
          exact e
        · obtain rfl : v = n := by omega
          exact ⟨k, hkl, ((hst k hkl).1 (in_self hkl)).2⟩
    · rename_i hc
      refine ⟨h.len, h.hi, by have := h.le; omega, h.cls, fun i hi ho => ?_, h.sur⟩
      rcases Nat.lt_or_ge i k with h1 | h1
      · exact h.all i h1 ho
      · obtain rfl : i = k := by omega
        rw [ho] at hc
        simp at hc
        exact hc
/-- There is one piece exactly if all is reached from one cell of it. -/
theorem one_piece {ok : Nat → Bool} {W H f : Nat} (hf : f < nn W H) (ho : ok f = true) : (skTo ok W H (nn W H)).2 = 1 ↔ ∀ j, j < nn W H → ok j = true → inR ok W H f j := by
  have h := skTo_ok ok W H (nn W H) (Nat.le_refl _)
  generalize (skTo ok W H (nn W H)).1 = o at h
  generalize (skTo ok W H (nn W H)).2 = n at h ⊢
  have f0 := h.all f hf ho
  have f1 := (h.hi f hf).2
  constructor
  · rintro rfl j hj hoj
    have j0 := h.all j hj hoj
    have j1 := (h.hi j hj).2
    exact ((h.cls f hf f0).2 j hj).1 (by omega)
  · intro hall
    rcases Nat.lt_or_ge n 2 with h2 | h2
    · omega
    · exfalso
      obtain ⟨a, ha, ea⟩ := h.sur 0 (by omega)
      obtain ⟨b, hb, eb⟩ := h.sur 1 (by omega)
      have oa := (h.cls a ha (by omega)).1
      have ob := (h.cls b hb (by omega)).1
      have e1 := ((h.cls f hf f0).2 a ha).2 (hall a ha oa)
      have e2 := ((h.cls f hf f0).2 b hb).2 (hall b hb ob)
      omega
/-! the search that measures marks the same cells -/
def Sim (N : Nat) (a b : List Int) : Prop := ∀ j, j < N → (gi a j < 0 ↔ gi b j < 0)
theorem rl_sim {N n j : Nat} {ok ok' : Nat → Bool} {v : Int} {far out : List Int} {q : List Nat} (hl : far.length = N) (hl' : out.length = N) (h0 : 0 ≤ gi far n) (hv : 0 ≤ v) (hj : j < N) (hok : ok j = ok' j) (hs : Sim N far out) :
    Sim N (rlx ok n (far, q) j).1 (rlS ok' v (out, q) j).1 ∧ (rlx ok n (far, q) j).2 = (rlS ok' v (out, q) j).2 := by
  unfold rlx rlS
  have e : (ok j && decide (gi far j < 0)) = (ok' j && decide (gi out j < 0)) := by
    rw [hok, Bool.eq_iff_iff, Bool.and_eq_true, Bool.and_eq_true, decide_eq_true_eq, decide_eq_true_eq, hs j hj]
  show Sim N (if (ok j && decide (gi far j < 0)) = true then (far.set j (gi far n + 1), q ++ [j]) else (far, q)).1 (if (ok' j && decide (gi out j < 0)) = true then (out.set j v, q ++ [j]) else (out, q)).1 ∧ (if (ok j && decide (gi far j < 0)) = true then (far.set j (gi far n + 1), q ++ [j]) else (far, q)).2 = (if (ok' j && decide (gi out j < 0)) = true then (out.set j v, q ++ [j]) else (out, q)).2
  rw [e]
  split
  · refine ⟨fun i hi => ?_, rfl⟩
    show gi (far.set j (gi far n + 1)) i < 0 ↔ gi (out.set j v) i < 0
    rw [gi_set, gi_set, hl, hl']
    by_cases hij : i = j ∧ j < N
    · rw [if_pos hij, if_pos hij]
      omega
    · rw [if_neg hij, if_neg hij]
      exact hs i hi
  · exact ⟨hs, rfl⟩
theorem fold_sim {N n : Nat} {M v : Int} {ok ok' : Nat → Bool} (hn : n < N) (hv : 0 ≤ v) (hM : v < M) (hok : ∀ j, j < N → ok j = ok' j) : ∀ (l : List Nat) {far out : List Int} {q : List Nat}, Bf N far q → Sk N M out q → 0 ≤ gi far n → (∀ j ∈ l, j < N) → Sim N far out →
    Sim N (l.foldl (rlx ok n) (far, q)).1 (l.foldl (rlS ok' v) (out, q)).1 ∧ (l.foldl (rlx ok n) (far, q)).2 = (l.foldl (rlS ok' v) (out, q)).2
  | [], _, _, _, _, _, _, _, hs => ⟨hs, rfl⟩
  | j :: l, far, out, q, hb, hk, h0, hl, hs => by
    have hj := hl j List.mem_cons_self
    obtain ⟨r1, r2⟩ := rl_sim (q := q) hb.len hk.len h0 hv hj (hok j hj) hs
    obtain ⟨a1, a2, -⟩ := rlx_ok (ok := ok) hb hn h0 hj
    obtain ⟨c1, -⟩ := rlS_ok (ok := ok') hk hv hM hj
    rw [List.foldl_cons, List.foldl_cons]
    obtain ⟨⟨f1, q1⟩, e1⟩ : ∃ s, rlx ok n (far, q) j = s := ⟨_, rfl⟩
    obtain ⟨⟨o1, p1⟩, e2⟩ : ∃ s, rlS ok' v (out, q) j = s := ⟨_, rfl⟩
    rw [e1, e2] at r1 r2
    rw [e1] at a1 a2
    rw [e2] at c1
    rw [e1, e2]
    have e3 : q1 = p1 := r2
    subst e3
    exact fold_sim hn hv hM hok l a1 c1 a2 (fun i hi => hl i (List.mem_cons_of_mem _ hi)) r1
theorem bf_sim {W H : Nat} {M v : Int} {ok ok' : Nat → Bool} (hv : 0 ≤ v) (hM : v < M) (hok : ∀ j, j < nn W H → ok j = ok' j) : ∀ (f : Nat) {far out : List Int} {q : List Nat}, Bf (nn W H) far q → Sk (nn W H) M out q → Sim (nn W H) far out → Sim (nn W H) (bfR ok W H f far q) (bfS ok' W H v f out q)
  | 0, _, _, _, _, _, hs => hs
  | f + 1, far, out, [], _, _, hs => hs
  | f + 1, far, out, n :: q, hb, hk, hs => by
    have hq := hb.inq n List.mem_cons_self
    have hb' : Bf (nn W H) far q := ⟨hb.len, fun m hm => hb.inq m (List.mem_cons_of_mem _ hm), hb.hi⟩
    have hk' : Sk (nn W H) M out q := ⟨hk.len, fun m hm => hk.inq m (List.mem_cons_of_mem _ hm), hk.hi⟩
    obtain ⟨r1, r2⟩ := fold_sim hq.1 hv hM hok (nearL W H n) hb' hk' hq.2 (nearL_lt hq.1) hs
    have a1 := (rlxL_ok (ok := ok) hq.1 (nearL W H n) hb' hq.2 (nearL_lt hq.1)).1
    have c1 := (rlSL_ok (ok := ok') hv hM (nearL W H n) hk' (nearL_lt hq.1)).1
    show Sim (nn W H) (bfR ok W H f ((nearL W H n).foldl (rlx ok n) (far, q)).1 ((nearL W H n).foldl (rlx ok n) (far, q)).2) (bfS ok' W H v f ((nearL W H n).foldl (rlS ok' v) (out, q)).1 ((nearL W H n).foldl (rlS ok' v) (out, q)).2)
    rw [← r2] at c1 ⊢
    exact bf_sim hv hM hok f a1 c1 r1
/-! balls -/
def okB (c : List UInt8) (j : Nat) : Bool := isBallB (at0 c j)
/-- The balls alone: walls in all free cells. -/
def alTo (c : List UInt8) (k : Nat) : List UInt8 := genC c.length fun i => if i < k ∧ at0 c i = 46 then 35 else at0 c i
theorem alTo_length (c : List UInt8) (k : Nat) : (alTo c k).length = c.length := genC_length _ _
theorem alTo_zero (c : List UInt8) : alTo c 0 = c := by
  refine Eq.trans (genC_congr fun i hi => ?_) (genC_self c)
  rw [if_neg (fun h => absurd h.1 (Nat.not_lt_zero _))]
theorem alTo_at (c : List UInt8) (k i : Nat) (hi : i < c.length) : at0 (alTo c k) i = if i < k ∧ at0 c i = 46 then 35 else at0 c i := by
  unfold alTo; rw [genC_at, if_pos hi]
theorem alTo_set {c : List UInt8} {k : Nat} (h : at0 c k = 46) : (alTo c k).set k 35 = alTo c (k + 1) := by
  unfold alTo
  rw [genC_set]
  refine genC_congr fun i hi => ?_
  by_cases e : i = k
  · subst e; rw [if_pos rfl, if_pos ⟨by omega, h⟩]
  · rw [if_neg e]
    by_cases h2 : i < k ∧ at0 c i = 46
    · rw [if_pos h2, if_pos ⟨by omega, h2.2⟩]
    · rw [if_neg h2, if_neg (fun h3 => h2 ⟨by omega, h3.2⟩)]
theorem alTo_skip {c : List UInt8} {k : Nat} (h : ¬ at0 c k = 46) : alTo c k = alTo c (k + 1) := by
  unfold alTo
  refine genC_congr fun i hi => ?_
  by_cases h2 : i < k ∧ at0 c i = 46
  · rw [if_pos h2, if_pos ⟨by omega, h2.2⟩]
  · rw [if_neg h2, if_neg (fun h3 => ?_)]
    by_cases e : i = k
    · subst e; exact h h3.2
    · exact h2 ⟨by omega, h3.2⟩
def alC (c : List UInt8) : List UInt8 := alTo c c.length
theorem alC_length (c : List UInt8) : (alC c).length = c.length := alTo_length _ _
theorem alC_at {c : List UInt8} {i : Nat} (hi : i < c.length) : at0 (alC c) i = if at0 c i = 46 then 35 else at0 c i := by
  unfold alC
  rw [alTo_at _ _ _ hi]
  by_cases h : at0 c i = 46
  · rw [if_pos ⟨hi, h⟩, if_pos h]
  · rw [if_neg (fun h2 => h h2.2), if_neg h]
theorem alC_ok {c : List UInt8} {i : Nat} (hi : i < c.length) (hc : isCellB (at0 c i) = true) : (at0 (alC c) i != 35) = okB c i := by
  rw [alC_at hi]
  unfold okB
  generalize at0 c i = b at hc
  by_cases h : b = 46
  · subst h; rw [if_pos rfl]; rfl
  · rw [if_neg h]
    unfold isCellB at hc
    by_cases h2 : b = 35
    · subst h2; rfl
    · have e : isBallB b = true := by simpa [h, h2] using hc
      rw [e]
      simpa using h2
/-- What is reached from a ball, measured with the balls alone. -/
theorem far_in {W H s : Nat} {c : List UInt8} (hl : c.length = nn W H) (hc : ∀ i, i < c.length → isCellB (at0 c i) = true) (hs : s < nn W H) (hb : okB c s = true) {j : Nat} (hj : j < nn W H) : 0 ≤ gi (farL W H (alC c) s) j ↔ inR (okB c) W H s j := by
  have hok : ∀ i, i < nn W H → (at0 (alC c) i != 35) = okB c i := fun i hi => alC_ok (by rw [hl]; exact hi) (hc i (by rw [hl]; exact hi))
  have h35 : ¬ at0 (alC c) s = 35 := by
    have := hok s hs
    rw [hb, bne_iff_ne] at this
    exact this
  unfold farL inR
  rw [if_neg h35]
  obtain ⟨h1, h2⟩ := in_start (W := W) (H := H) hs
  have h3 := bf_sim (M := 1) (Int.le_refl 0) (by decide) hok (nn W H) (bf_start hs).1 h1 (fun i _ => Iff.rfl) j hj
  omega
theorem mem_balls (p : UInt8 → Bool) (c : List UInt8) (n i : Nat) : (i : Int) ∈ ballsTo p c n ↔ i < n ∧ p (at0 c i) = true := by
  induction n with
  | zero => exact ⟨fun h => (by cases h), fun h => absurd h.1 (Nat.not_lt_zero _)⟩
  | succ n ih =>
    unfold ballsTo
    split
    · rename_i h0
      rw [List.mem_append, ih, List.mem_singleton]
      constructor
      · rintro (h | h)
        · exact ⟨by omega, h.2⟩
        · obtain rfl : i = n := by omega
          exact ⟨by omega, h0⟩
      · rintro ⟨h1, h2⟩
        rcases Nat.lt_or_ge i n with h | h
        · exact .inl ⟨h, h2⟩
        · exact .inr (by omega)
    · rename_i h0
      rw [ih]
      constructor
      · exact fun h => ⟨by omega, h.2⟩
      · rintro ⟨h1, h2⟩
        rcases Nat.lt_or_ge i n with h | h
        · exact ⟨h, h2⟩
        · obtain rfl : i = n := by omega
          exact absurd h2 h0
theorem nat_balls (p : UInt8 → Bool) (c : List UInt8) (n : Nat) : ∀ x ∈ ballsTo p c n, ∃ i : Nat, x = i := by
  induction n with
  | zero => intro x hx; cases hx
  | succ n ih =>
    intro x hx
    unfold ballsTo at hx
    split at hx
    · rcases List.mem_append.1 hx with h | h
      · exact ih x h
      · exact ⟨n, List.mem_singleton.1 h⟩
    · exact ih x hx
theorem ball_at {p : UInt8 → Bool} {c : List UInt8} {n k : Nat} (h : k < (ballsTo p c n).length) : ∃ i : Nat, gi (ballsTo p c n) k = i ∧ i < n ∧ p (at0 c i) = true := by
  have hm : (ballsTo p c n)[k] ∈ ballsTo p c n := List.getElem_mem h
  obtain ⟨i, e⟩ := nat_balls p c n _ hm
  rw [e] at hm
  obtain ⟨h1, h2⟩ := (mem_balls p c n i).1 hm
  refine ⟨i, ?_, h1, h2⟩
  rw [← e]
  unfold gi
  simp [List.getD, h]
theorem pos_balls {R : List Int} {p : UInt8 → Bool} {c : List UInt8} (n : Nat) (h : ∀ i, i < n → 0 ≤ gi R i → p (at0 c i) = true) :
    (posTo R n).length ≤ (ballsTo p c n).length ∧ ((posTo R n).length = (ballsTo p c n).length ↔ ∀ i, i < n → p (at0 c i) = true → 0 ≤ gi R i) := by
  induction n with
  | zero => exact ⟨Nat.le_refl _, fun _ i hi => absurd hi (Nat.not_lt_zero _), fun _ => rfl⟩
  | succ n ih =>
    obtain ⟨h1, h2⟩ := ih (fun i hi => h i (by omega))
    unfold posTo ballsTo
    by_cases h0 : 0 ≤ gi R n
    · have hp := h n (by omega) h0
      rw [if_pos h0, if_pos hp, List.length_append, List.length_append]
      refine ⟨by simpa using h1, ?_⟩
      have e : (posTo R n).length + [(n : Int)].length = (ballsTo p c n).length + [(n : Int)].length ↔ (posTo R n).length = (ballsTo p c n).length := by simp
      rw [e, h2]
      constructor
      · intro h3 i hi hpi
        rcases Nat.lt_or_ge i n with h4 | h4
        · exact h3 i h4 hpi
        · obtain rfl : i = n := by omega
          exact h0
      · exact fun h3 i hi => h3 i (by omega)
    · rw [if_neg h0]
      by_cases hp : p (at0 c n) = true
      · rw [if_pos hp, List.length_append]
        refine ⟨by simp; omega, ?_⟩
        constructor
        · intro h3
          simp at h3
          omega
        · intro h3
          exact absurd (h3 n (by omega) hp) h0
      · rw [if_neg hp]
        refine ⟨h1, ?_⟩
        rw [h2]
        constructor
        · intro h3 i hi hpi
          rcases Nat.lt_or_ge i n with h4 | h4
          · exact h3 i h4 hpi
          · obtain rfl : i = n := by omega
            exact absurd hpi hp
        · exact fun h3 i hi => h3 i (by omega)
/-! forms -/
def foB (b : UInt8) : Bool := b == 46 || b == 111
theorem foB_iff {b : UInt8} : foB b = true ↔ b = 46 ∨ b = 111 := by unfold foB; simp
theorem foB_cell {b : UInt8} (h : foB b = true) : isCellB b = true := by
  rcases foB_iff.1 h with rfl | rfl <;> rfl
/-- All of the first k cells are free or balls without names. -/
def foAll (c : List UInt8) (k : Nat) : Bool := (List.range k).all fun i => foB (at0 c i)
theorem foAll_iff {c : List UInt8} {k : Nat} : foAll c k = true ↔ ∀ i, i < k → foB (at0 c i) = true := by
  unfold foAll
  rw [List.all_eq_true]
  exact ⟨fun h i hi => h i (List.mem_range.2 hi), fun h i hi => h i (List.mem_range.1 hi)⟩
theorem cnt_two (c : List UInt8) (k : Nat) : cnt c 111 k + cnt c 46 k ≤ k ∧ (k ≤ cnt c 111 k + cnt c 46 k ↔ foAll c k = true) := by
  rw [foAll_iff]
  induction k with
  | zero => exact ⟨Nat.le_refl _, fun _ i hi => absurd hi (Nat.not_lt_zero _), fun _ => Nat.zero_le _⟩
  | succ k ih =>
    obtain ⟨h1, h2⟩ := ih
    unfold cnt
    have step : (∀ i, i < k + 1 → foB (at0 c i) = true) ↔ (∀ i, i < k → foB (at0 c i) = true) ∧ foB (at0 c k) = true :=
      ⟨fun h => ⟨fun i hi => h i (by omega), h k (by omega)⟩, fun h i hi => by
        rcases Nat.lt_or_ge i k with h4 | h4
        · exact h.1 i h4
        · obtain rfl : i = k := by omega
          exact h.2⟩
    rw [step, ← h2, foB_iff]
    by_cases ha : at0 c k = 111
    · have hb : ¬ at0 c k = 46 := by rw [ha]; decide
      rw [if_pos ha, if_neg hb]
      refine ⟨by omega, ⟨fun h => ⟨by omega, .inr ha⟩, fun h => by omega⟩⟩
    · by_cases hb : at0 c k = 46
      · rw [if_neg ha, if_pos hb]
        refine ⟨by omega, ⟨fun h => ⟨by omega, .inl hb⟩, fun h => by omega⟩⟩
      · rw [if_neg ha, if_neg hb]
        refine ⟨by omega, ⟨fun h => by omega, fun h => ?_⟩⟩
        rcases h.2 with h3 | h3
        · exact absurd h3 hb
        · exact absurd h3 ha
theorem fo_balls {c : List UInt8} {k : Nat} (h : ∀ i, i < k → foB (at0 c i) = true) : ballsTo ballB c k = ballsTo isBallB c k ∧ (ballsTo isBallB c k).length = cnt c 111 k := by
  refine ⟨ballsTo_congr k fun i hi => ball_cell (foB_cell (h i hi)), ?_⟩
  induction k with
  | zero => rfl
  | succ k ih =>
    have ih := ih (fun i hi => h i (by omega))
    unfold ballsTo cnt
    rcases foB_iff.1 (h k (by omega)) with e | e
    · rw [e, if_neg (by decide), if_neg (by decide), ih]; rfl
    · rw [e, if_pos (by decide), if_pos rfl, List.length_append, ih]; rfl
/-- How many pieces there are. -/
def pcN (W H : Nat) (c : List UInt8) : Nat := (skTo (okB c) W H (nn W H)).2
/-- The model's test of a form. -/
def isFo (W H : Nat) (c : List UInt8) : Bool := decide (1 ≤ (ballsTo isBallB c (nn W H)).length) && decide ((ballsTo isBallB c (nn W H)).length ≤ 10) && decide (pcN W H c = 1)
def foG (W H : Nat) (c : List UInt8) : Bool := foAll c (nn W H) && isFo W H c
/-- The program's. -/
def foI (W H : Nat) (c : List UInt8) : Bool :=
  decide (1 ≤ cnt c 111 (nn W H)) && decide (cnt c 111 (nn W H) ≤ 10) && decide (nn W H ≤ cnt c 111 (nn W H) + cnt c 46 (nn W H)) &&
    decide ((posTo (farL W H (alC c) (gi (ballsTo ballB c (nn W H)) 0).toNat) (nn W H)).length = cnt c 111 (nn W H))
theorem form_eq {W H : Nat} {c : List UInt8} (hl : c.length = nn W H) : foI W H c = foG W H c := by
  unfold foI foG
  cases hA : foAll c (nn W H) with
  | false =>
    have h := (cnt_two c (nn W H)).2
    rw [hA] at h
    have h2 : ¬ nn W H ≤ cnt c 111 (nn W H) + cnt c 46 (nn W H) := fun e => by have := h.1 e; cases this
    rw [decide_eq_false h2, Bool.and_false, Bool.false_and, Bool.false_and]
  | true =>
    have h2 := (cnt_two c (nn W H)).2.2 hA
    obtain ⟨e1, e2⟩ := fo_balls (foAll_iff.1 hA)
    rw [decide_eq_true h2, Bool.and_true, Bool.true_and]
    unfold isFo
    rw [e1, e2]
    rcases Nat.eq_zero_or_pos (cnt c 111 (nn W H)) with h0 | h0
    · rw [h0]; rfl
    · congr 1
      obtain ⟨f, ef, hf, hb⟩ := ball_at (p := isBallB) (c := c) (n := nn W H) (k := 0) (by rw [e2]; exact h0)
      rw [ef, Int.toNat_natCast]
      have hc : ∀ i, i < c.length → isCellB (at0 c i) = true := fun i hi => foB_cell (foAll_iff.1 hA i (by rw [← hl]; exact hi))
      have hin := fun j (hj : j < nn W H) => far_in hl hc hf hb hj
      have hp := pos_balls (R := farL W H (alC c) f) (p := isBallB) (c := c) (nn W H) (fun i hi h => in_ok (ok := okB c) hf hb hi ((hin i hi).1 h))
      rw [e2] at hp
      rw [Bool.eq_iff_iff, decide_eq_true_eq, decide_eq_true_eq, hp.2]
      unfold pcN
      rw [one_piece hf hb]
      exact ⟨fun h j hj ho => (hin j hj).1 (h j hj ho), fun h j hj ho => (hin j hj).2 (h j hj ho)⟩
end Go.Proofs.YtdebiobhmpoiiaaDoor
