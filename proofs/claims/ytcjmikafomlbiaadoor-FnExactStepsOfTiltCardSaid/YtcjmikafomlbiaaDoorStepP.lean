/-
  Plain maths of steps one after the other: behind each the slides that are left are less by one.
-/
import Derived.Test.YtcjmikafomlbiaaDoorTiltB
import Derived.Test.YtcjmikafomlbiaaDoorTiltN
namespace Go.Proofs.YtcjmikafomlbiaaDoor
open Go.RowKit
theorem at0_app (p q : List UInt8) (k : Nat) : at0 (p ++ q) k = if k < p.length then at0 p k else at0 q (k - p.length) := by
  unfold at0
  rw [List.getD_eq_getElem?_getD, List.getElem?_append]
  split <;> rw [List.getD_eq_getElem?_getD]
/-! ### What a stretch holds -/
def cont (c : List UInt8) (s : List Nat) : List UInt8 := s.map (at0 c)
theorem cont_length (c : List UInt8) (s : List Nat) : (cont c s).length = s.length := by simp [cont]
theorem cont_at {c : List UInt8} {s : List Nat} {k : Nat} (h : k < s.length) : at0 (cont c s) k = at0 c (s.getD k 0) := by
  unfold cont at0
  rw [List.getD_eq_getElem?_getD, List.getElem?_map, List.getD_eq_getElem?_getD (l := s), List.getElem?_eq_getElem h]
  rfl
theorem cont_congr {c e : List UInt8} {s : List Nat} (h : ∀ i ∈ s, at0 c i = at0 e i) : cont c s = cont e s := List.map_congr_left h
theorem cont_take {c : List UInt8} {s : List Nat} {j : Nat} (h : j < s.length) : (cont c s).take (j + 1) = (cont c s).take j ++ [at0 c (s.getD j 0)] := by
  rw [List.take_add_one]
  congr 1
  unfold cont
  rw [List.getElem?_map, List.getD_eq_getElem?_getD, List.getElem?_eq_getElem h]
  rfl
theorem cont_drop {c : List UInt8} {s : List Nat} {j : Nat} (h : j < s.length) : (cont c s).drop j = at0 c (s.getD j 0) :: (cont c s).drop (j + 1) := by
  have hl : j < (cont c s).length := by rw [cont_length]; exact h
  rw [List.drop_eq_getElem_cons hl]
  congr 1
  have h1 : (cont c s)[j]? = some (at0 c (s.getD j 0)) := by
    unfold cont
    rw [List.getElem?_map, List.getD_eq_getElem?_getD, List.getElem?_eq_getElem h]
    rfl
  rw [List.getElem?_eq_getElem hl] at h1
  exact Option.some.inj h1
def dropF : List UInt8 → List UInt8
  | [] => []
  | b :: r => if isBallB b = true then b :: dropF r else r
def stc (x : List UInt8) : List UInt8 := if x.all isBallB = true then x else dropF x ++ [46]
def tic (x : List UInt8) : List UInt8 := x.filter isBallB ++ List.replicate (x.length - (x.filter isBallB).length) 46
def mvC : Nat → List UInt8 → List Nat
  | _, [] => []
  | a, b :: r => if isBallB b = true then a :: mvC a r else mvC (a + 1) r
theorem dropF_length {x : List UInt8} (h : ¬ x.all isBallB = true) : (dropF x).length + 1 = x.length := by
  induction x with
  | nil => exact absurd rfl h
  | cons b r ih =>
    unfold dropF
    by_cases hb : isBallB b = true
    · rw [if_pos hb, List.length_cons, List.length_cons, ih (fun hr => h (by rw [List.all_cons, hb, hr]; rfl))]
    · rw [if_neg hb, List.length_cons]
theorem stc_length (x : List UInt8) : (stc x).length = x.length := by
  unfold stc
  split
  · rfl
  · rename_i h
    rw [List.length_append, List.length_singleton]; exact dropF_length h
theorem dropF_snoc {l : List UInt8} (b : UInt8) (h : ¬ l.all isBallB = true) : dropF (l ++ [b]) = dropF l ++ [b] := by
  induction l with
  | nil => exact absurd rfl h
  | cons a r ih =>
    rw [List.cons_append]
    unfold dropF
    by_cases ha : isBallB a = true
    · rw [if_pos ha, if_pos ha, ih (fun hr => h (by rw [List.all_cons, ha, hr]; rfl))]; rfl
    · rw [if_neg ha, if_neg ha]
theorem dropF_all {l : List UInt8} {b : UInt8} (h : l.all isBallB = true) (hb : ¬ isBallB b = true) : dropF (l ++ [b]) = l := by
  induction l with
  | nil => unfold dropF; simp [hb]
  | cons a r ih =>
    rw [List.all_cons, Bool.and_eq_true] at h
    rw [List.cons_append]
    unfold dropF
    rw [if_pos h.1, ih h.2]
theorem stc_snoc {l : List UInt8} {b : UInt8} (hb : b = 46 ∨ isBallB b = true) : stc (l ++ [b]) = if l.all isBallB = true then l ++ [b] else dropF l ++ [b, 46] := by
  unfold stc
  by_cases h : l.all isBallB = true
  · rw [if_pos h]
    by_cases h2 : isBallB b = true
    · rw [if_pos (by rw [List.all_append, h]; simp [h2])]
    · have e : b = 46 := hb.resolve_right h2
      rw [if_neg (by rw [List.all_append, h]; simp [h2]), dropF_all h h2, e]
  · rw [if_neg h, if_neg (by rw [List.all_append]; simp at h ⊢; intro k; obtain ⟨x, hx, hxb⟩ := h; exact absurd (k x hx) (by simp [hxb])), dropF_snoc b h, List.append_assoc]
    rfl
theorem filter_dropF (x : List UInt8) : (dropF x).filter isBallB = x.filter isBallB := by
  induction x with
  | nil => rfl
  | cons b r ih =>
    unfold dropF
    by_cases hb : isBallB b = true
    · rw [if_pos hb, List.filter_cons_of_pos hb, List.filter_cons_of_pos hb, ih]
    · rw [if_neg hb, List.filter_cons_of_neg hb]
theorem filter_stc (x : List UInt8) : (stc x).filter isBallB = x.filter isBallB := by
  unfold stc
  split
  · rfl
  · rw [List.filter_append, filter_dropF]
    have : [(46 : UInt8)].filter isBallB = [] := by decide
    rw [this, List.append_nil]
theorem tic_stc (x : List UInt8) : tic (stc x) = tic x := by unfold tic; rw [filter_stc, stc_length]
theorem mem_dropF {x : List UInt8} {b : UInt8} (h : b ∈ dropF x) : b ∈ x := by
  induction x with
  | nil => exact h
  | cons a r ih =>
    unfold dropF at h
    split at h
    · rcases List.mem_cons.1 h with rfl | h
      · simp
      · exact List.mem_cons_of_mem _ (ih h)
    · exact List.mem_cons_of_mem _ h
theorem mem_stc {x : List UInt8} {b : UInt8} (h : b ∈ stc x) : b ∈ x ∨ b = 46 := by
  unfold stc at h
  split at h
  · exact .inl h
  · rcases List.mem_append.1 h with h | h
    · exact .inl (mem_dropF h)
    · exact .inr (by simpa using h)
theorem mvC_ball (a : Nat) {b : UInt8} (r : List UInt8) (h : isBallB b = true) : mvC a (b :: r) = a :: mvC a r := by rw [mvC, if_pos h]
theorem mvC_free (a : Nat) {b : UInt8} (r : List UInt8) (h : ¬ isBallB b = true) : mvC a (b :: r) = mvC (a + 1) r := by rw [mvC, if_neg h]
theorem mvC_shift (a : Nat) (x : List UInt8) : mvC (a + 1) x = (mvC a x).map (· + 1) := by
  induction x generalizing a with
  | nil => rfl
  | cons b r ih =>
    unfold mvC
    by_cases hb : isBallB b = true
    · rw [if_pos hb, if_pos hb, List.map_cons, ih]
    · rw [if_neg hb, if_neg hb, ih]
theorem mvC_snoc (a : Nat) (x : List UInt8) (b : UInt8) : mvC a (x ++ [b]) = if isBallB b = true then mvC a x ++ [a + (x.length - (x.filter isBallB).length)] else mvC a x := by
  induction x generalizing a with
  | nil =>
    rw [List.nil_append]
    unfold mvC
    by_cases hb : isBallB b = true
    · rw [if_pos hb, if_pos hb]; rfl
    · rw [if_neg hb, if_neg hb]; rfl
  | cons c r ih =>
    rw [List.cons_append]
    unfold mvC
    have hle : (r.filter isBallB).length ≤ r.length := List.length_filter_le _ _
    by_cases hc : isBallB c = true
    · rw [if_pos hc, if_pos hc, ih, List.filter_cons_of_pos hc]
      by_cases hb : isBallB b = true
      · rw [if_pos hb, if_pos hb, List.cons_append]
        congr 3
        simp only [List.length_cons]
        omega
      · rw [if_neg hb, if_neg hb]
    · rw [if_neg hc, if_neg hc, ih, List.filter_cons_of_neg hc]
      by_cases hb : isBallB b = true
      · rw [if_pos hb, if_pos hb]
        congr 2
        simp only [List.length_cons]
        omega
      · rw [if_neg hb, if_neg hb]
theorem mvC_dropF (x : List UInt8) (h : ¬ x.all isBallB = true) : mvC 0 (dropF x) = (mvC 0 x).map (· - 1) := by
  induction x with
  | nil => exact absurd rfl h
  | cons b r ih =>
    by_cases hb : isBallB b = true
    · rw [dropF, if_pos hb, mvC_ball 0 _ hb, mvC_ball 0 _ hb, List.map_cons, ih (fun hr => h (by rw [List.all_cons, hb, hr]; rfl))]
    · rw [dropF, if_neg hb, mvC_free 0 _ hb, mvC_shift, List.map_map]
      have : ((fun x : Nat => x - 1) ∘ fun x => x + 1) = id := by funext x; simp
      rw [this, List.map_id]
theorem mvC_no {x : List UInt8} (a : Nat) (h : x.filter isBallB = []) : mvC a x = [] := by
  induction x generalizing a with
  | nil => rfl
  | cons b r ih =>
    by_cases hb : isBallB b = true
    · rw [List.filter_cons_of_pos hb] at h; cases h
    · rw [mvC_free a _ hb]
      rw [List.filter_cons_of_neg hb] at h
      exact ih _ h
theorem mvC_all {x : List UInt8} (h : x.all isBallB = true) : mvC 0 x = List.replicate x.length 0 := by
  induction x with
  | nil => rfl
  | cons b r ih =>
    rw [List.all_cons, Bool.and_eq_true] at h
    unfold mvC
    rw [if_pos h.1, ih h.2]; rfl
theorem mvC_stc (x : List UInt8) : mvC 0 (stc x) = (mvC 0 x).map (· - 1) := by
  unfold stc
  by_cases h : x.all isBallB = true
  · rw [if_pos h, mvC_all h]; simp
  · rw [if_neg h, mvC_snoc, if_neg (by decide), mvC_dropF x h]
theorem mvC_le (x : List UInt8) (a : Nat) : ∀ y ∈ mvC a x, y ≤ a + x.length := by
  induction x generalizing a with
  | nil => intro y hy; cases hy
  | cons b r ih =>
    intro y hy
    unfold mvC at hy
    rw [List.length_cons]
    split at hy
    · rcases List.mem_cons.1 hy with rfl | hy
      · omega
      · have := ih a y hy; omega
    · have := ih (a + 1) y hy; omega
theorem mvC_ge (x : List UInt8) (a : Nat) : ∀ y ∈ mvC a x, a ≤ y := by
  induction x generalizing a with
  | nil => intro y hy; cases hy
  | cons b r ih =>
    intro y hy
    unfold mvC at hy
    split at hy
    · rcases List.mem_cons.1 hy with rfl | hy
      · omega
      · exact ih a y hy
    · have := ih (a + 1) y hy; omega
theorem mvC_none {x : List UInt8} (a : Nat) (h : mvC a x = []) : x.filter isBallB = [] := by
  induction x generalizing a with
  | nil => rfl
  | cons b r ih =>
    unfold mvC at h
    split at h
    · cases h
    · rename_i hb
      rw [List.filter_cons_of_neg hb]
      exact ih _ h
theorem all_free {x : List UInt8} (ok : ∀ b ∈ x, b = 46 ∨ isBallB b = true) (h : x.filter isBallB = []) : x = List.replicate x.length 46 := by
  apply List.eq_replicate_iff.2
  refine ⟨rfl, fun b hb => ?_⟩
  rcases ok b hb with e | e
  · exact e
  · have : b ∈ x.filter isBallB := List.mem_filter.2 ⟨hb, e⟩
    rw [h] at this; cases this
theorem mvC_zero (x : List UInt8) (ok : ∀ b ∈ x, b = 46 ∨ isBallB b = true) : (∀ y ∈ mvC 0 x, y = 0) ↔ x = tic x := by
  induction x with
  | nil => exact ⟨fun _ => rfl, fun _ y hy => by cases hy⟩
  | cons b r ih =>
    have okr : ∀ b ∈ r, b = 46 ∨ isBallB b = true := fun x hx => ok x (List.mem_cons_of_mem _ hx)
    have ih := ih okr
    have hle : (r.filter isBallB).length ≤ r.length := List.length_filter_le _ _
    by_cases hb : isBallB b = true
    · have e1 : mvC 0 (b :: r) = 0 :: mvC 0 r := by rw [mvC, if_pos hb]
      have e2 : tic (b :: r) = b :: tic r := by
        unfold tic
        rw [List.filter_cons_of_pos hb, List.cons_append]
        congr 3
        simp only [List.length_cons]
        omega
      rw [e1, e2]
      constructor
      · intro h
        rw [← ih.1 fun y hy => h y (List.mem_cons_of_mem _ hy)]
      · intro h y hy
        rcases List.mem_cons.1 hy with rfl | hy
        · rfl
        · exact ih.2 (List.cons.inj h).2 y hy
    · have e1 : mvC 0 (b :: r) = mvC 1 r := by rw [mvC, if_neg hb]
      have hb46 : b = 46 := (ok b (by simp)).resolve_right hb
      rw [e1]
      constructor
      · intro h
        have hn : mvC 1 r = [] := by
          rcases hm : mvC 1 r with _ | ⟨y, l⟩
          · rfl
          · have h1 := mvC_ge r 1 y (by rw [hm]; simp)
            have h2 := h y (by rw [hm]; simp)
            omega
        have hf := mvC_none 1 hn
        unfold tic
        rw [List.filter_cons_of_neg hb, hf, List.nil_append, List.length_nil, Nat.sub_zero, List.length_cons, List.replicate_succ, hb46, ← all_free okr hf]
      · intro h
        unfold tic at h
        rw [List.filter_cons_of_neg hb] at h
        rcases hf : r.filter isBallB with _ | ⟨z, l⟩
        · intro y hy
          exfalso
          have : mvC 1 r = [] := mvC_no 1 hf
          rw [this] at hy; cases hy
        · rw [hf, List.cons_append] at h
          have hz : z ∈ r.filter isBallB := by rw [hf]; simp
          have := (List.mem_filter.1 hz).2
          rw [← (List.cons.inj h).1] at this
          exact absurd this hb
/-! ### The greatest of numbers -/
def mxN (l : List Nat) : Nat := l.foldl max 0
theorem foldl_pred (l : List Nat) (a : Nat) : (l.map (· - 1)).foldl max (a - 1) = l.foldl max a - 1 := by
  induction l generalizing a with
  | nil => rfl
  | cons b r ih =>
    rw [List.map_cons, List.foldl_cons, List.foldl_cons, ← ih]
    congr 1
    omega
theorem mxN_pred (l : List Nat) : mxN (l.map (· - 1)) = mxN l - 1 := foldl_pred l 0
theorem foldl_ge (l : List Nat) (a : Nat) : a ≤ l.foldl max a ∧ ∀ y ∈ l, y ≤ l.foldl max a := by
  induction l generalizing a with
  | nil => exact ⟨Nat.le_refl _, fun y hy => by cases hy⟩
  | cons b r ih =>
    rw [List.foldl_cons]
    obtain ⟨h1, h2⟩ := ih (max a b)
    refine ⟨by omega, fun y hy => ?_⟩
    rcases List.mem_cons.1 hy with rfl | hy
    · omega
    · exact h2 y hy
theorem foldl_le (l : List Nat) (a m : Nat) (ha : a ≤ m) (h : ∀ y ∈ l, y ≤ m) : l.foldl max a ≤ m := by
  induction l generalizing a with
  | nil => exact ha
  | cons b r ih =>
    rw [List.foldl_cons]
    have := h b (by simp)
    exact ih _ (by omega) fun y hy => h y (by simp [hy])
theorem mxN_zero (l : List Nat) : mxN l = 0 ↔ ∀ y ∈ l, y = 0 := by
  constructor
  · intro h y hy
    have := (foldl_ge l 0).2 y hy
    unfold mxN at h
    omega
  · intro h
    have := foldl_le l 0 0 (Nat.le_refl _) (fun y hy => by rw [h y hy]; exact Nat.le_refl _)
    unfold mxN; omega
/-! ### Steps and tilts along a stretch, and of a tray -/
theorem bsTo_cont {c : List UInt8} {s : List Nat} (j : Nat) (hj : j ≤ s.length) : bsTo c s j = ((cont c s).take j).filter isBallB := by
  induction j with
  | zero => rfl
  | succ j ih =>
    rw [cont_take (by omega), List.filter_append, bsTo, ih (by omega)]
    split
    · rename_i h; rw [List.filter_cons_of_pos h]; rfl
    · rename_i h; rw [List.filter_cons_of_neg h, List.filter_nil, List.append_nil]
theorem nbTo_cont {c : List UInt8} {s : List Nat} (j : Nat) (hj : j ≤ s.length) : nbTo c s j = (((cont c s).take j).filter isBallB).length := by rw [← bsTo_cont j hj, bsTo_length]
theorem tic_length (x : List UInt8) : (tic x).length = x.length := by
  unfold tic
  have : (x.filter isBallB).length ≤ x.length := List.length_filter_le _ _
  rw [List.length_append, List.length_replicate]; omega
theorem tic_fin {c : List UInt8} {s : List Nat} {k : Nat} (hk : k < s.length) : at0 (tic (cont c s)) k = fin c s k := by
  have e1 : bsTo c s s.length = (cont c s).filter isBallB := by rw [bsTo_cont _ (Nat.le_refl _), List.take_of_length_le (by rw [cont_length]; exact Nat.le_refl _)]
  have e2 : nbTo c s s.length = ((cont c s).filter isBallB).length := by rw [← bsTo_length, e1]
  unfold fin tic
  rw [at0_app, ← e2, ← e1]
  split
  · rfl
  · rename_i h
    have h2 := nbTo_le c s s.length
    unfold at0
    rw [List.getD_eq_getElem?_getD, List.getElem?_replicate, if_pos (by rw [cont_length]; omega)]
    rfl
theorem mvTo_cont {c : List UInt8} {s : List Nat} (j : Nat) (hj : j ≤ s.length) : mvTo c s j = (mvC 0 ((cont c s).take j)).map (fun n : Nat => (n : Int)) := by
  induction j with
  | zero => rfl
  | succ j ih =>
    rw [cont_take (by omega), mvC_snoc]
    unfold mvTo
    split
    · rw [ih (by omega), List.map_append, nbTo_cont j (by omega), List.length_take, cont_length, Nat.min_eq_left (by omega), Nat.zero_add]; rfl
    · exact ih (by omega)
theorem st_cont {o : List UInt8} {s : List Nat} (hs : Str o s) (j : Nat) (hj : j ≤ s.length) : cont (stTo o s j) s = stc ((cont o s).take j) ++ (cont o s).drop j := by
  induction j with
  | zero => rfl
  | succ j ih =>
    have ih := ih (by omega)
    have hjl : j < s.length := by omega
    have hb := hs.ok _ (getD_mem hjl)
    rw [cont_take hjl, stc_snoc hb]
    rw [cont_drop hjl] at ih
    obtain ⟨A, hA⟩ : ∃ A, A = (cont o s).take j := ⟨_, rfl⟩
    obtain ⟨D, hD⟩ : ∃ D, D = (cont o s).drop (j + 1) := ⟨_, rfl⟩
    obtain ⟨b, hbe⟩ : ∃ b, b = at0 o (s.getD j 0) := ⟨_, rfl⟩
    have hAl : A.length = j := by rw [hA, List.length_take, cont_length]; omega
    rw [← hA, ← hbe, ← hD] at ih
    rw [← hA, ← hbe, ← hD]
    have hlen : (stTo o s j).length = o.length := stTo_length o s j
    by_cases h : A.all isBallB = true
    · rw [if_pos h]
      have hst : stc A = A := by unfold stc; rw [if_pos h]
      rw [hst] at ih
      have hno : ¬ (0 < j ∧ at0 (stTo o s j) (s.getD (j - 1) 0) = 46) := fun ⟨h0, he⟩ => by
        rw [← cont_at (c := stTo o s j) (show j - 1 < s.length by omega), ih, at0_app, if_pos (by omega)] at he
        have hm : at0 A (j - 1) ∈ A := by
          unfold at0
          rw [List.getD_eq_getElem?_getD, List.getElem?_eq_getElem (show j - 1 < A.length by omega)]
          exact List.getElem_mem _
        have := List.all_eq_true.1 h _ hm
        rw [he] at this
        exact absurd this (by decide)
      rw [stTo, if_neg hno, ih, List.append_assoc]
      rfl
    · rw [if_neg h]
      have hdl := dropF_length h
      have h0 : 0 < j := by omega
      have hst : stc A = dropF A ++ [46] := by unfold stc; rw [if_neg h]
      rw [hst] at ih
      have hat : ∀ k, k < s.length → at0 (stTo o s j) (s.getD k 0) = at0 (dropF A ++ [46] ++ b :: D) k := fun k hk => by rw [← cont_at hk, ih]
      have hj1 := hat (j - 1) (by omega)
      have hj0 := hat j hjl
      have hjd : j - (dropF A ++ [46]).length = 0 := by rw [List.length_append, List.length_singleton]; omega
      rw [at0_app, at0_app, if_pos (by rw [List.length_append, List.length_singleton]; omega), if_neg (by omega), show j - 1 - (dropF A).length = 0 by omega] at hj1
      rw [at0_app, if_neg (by rw [List.length_append, List.length_singleton]; omega), hjd] at hj0
      have hj1 : at0 (stTo o s j) (s.getD (j - 1) 0) = 46 := hj1
      have hj0 : at0 (stTo o s j) (s.getD j 0) = b := hj0
      rw [stTo, if_pos ⟨h0, hj1⟩]
      have hbl := hs.lt _ (getD_mem hjl)
      have hal := hs.lt _ (getD_mem (show j - 1 < s.length by omega))
      have hDl : D.length + (j + 1) = s.length := by rw [hD, List.length_drop, cont_length]; omega
      apply list_ext
      · rw [cont_length, List.length_append, List.length_append]; simp; omega
      · intro k hk
        rw [cont_length] at hk
        rw [cont_at hk, swC_at (by rw [hlen]; exact hbl) (by rw [hlen]; exact hal), hj0, hj1, hat k hk]
        by_cases k1 : k = j - 1
        · subst k1
          rw [if_pos rfl, at0_app, at0_app, if_pos (by simp; omega), if_neg (by omega), show j - 1 - (dropF A).length = 0 by omega]
          rfl
        · rw [if_neg (fun e => k1 (getD_inj hs.nd (by omega) hk e).symm)]
          by_cases k2 : k = j
          · subst k2
            rw [if_pos rfl, at0_app, at0_app, if_pos (by simp; omega), if_neg (by omega), show k - (dropF A).length = 1 by omega]
            rfl
          · rw [if_neg (fun e => k2 (getD_inj hs.nd hjl hk e).symm)]
            rw [at0_app, at0_app, at0_app (dropF A ++ [b, 46]), at0_app (dropF A)]
            simp only [List.length_append, List.length_cons, List.length_nil]
            by_cases k3 : k < (dropF A).length
            · rw [if_pos (by omega), if_pos k3, if_pos (by omega), if_pos k3]
            · rw [if_neg (by omega), if_neg (by omega)]
              unfold at0
              rw [show k - ((dropF A).length + (0 + 1)) = (k - ((dropF A).length + (0 + 1 + 1))) + 1 by omega]
              rfl
end Go.Proofs.YtcjmikafomlbiaaDoor
