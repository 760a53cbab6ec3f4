/-
  The search for all trays that are reached, as plain mathematics: states in the order in which they are found, over any kind of thing and any four moves.
-/
import Derived.Test.YtpdmfbhjneodeaaGreatDoorBKit
namespace Go.Proofs.YtpdmfbhjneodeaaGreatDoor
open Go.RowKit
/-- A state: the thing, its distance, how many shortest words lead to it (as the machine counts), the first one's way, and where its own moves lead. -/
structure Sta (α : Type) where
  t : α
  far : Nat
  words : Int
  from_ : Nat
  dir : Nat
  next : List Nat
section
variable {α : Type} [Inhabited α]
instance : Inhabited (Sta α) := ⟨⟨default, 0, 0, 0, 0, []⟩⟩
def sta (S : List (Sta α)) (n : Nat) : Sta α := S.getD n default
/-- Where state k is one step behind state n, n's words lead to it, too. -/
def addS (S : List (Sta α)) (n k : Nat) : List (Sta α) :=
  if (sta S k).far = (sta S n).far + 1 then S.set k { sta S k with words := wrap64 ((sta S k).words + (sta S n).words) } else S
/-- State n's next move leads to state k. -/
def pushS (S : List (Sta α)) (n k : Nat) : List (Sta α) := S.set n { sta S n with next := (sta S n).next ++ [k] }
def linkS (S : List (Sta α)) (n k : Nat) : List (Sta α) := pushS (addS S n k) n k
def growS (S : List (Sta α)) (x : α) (n d : Nat) : List (Sta α) := S ++ [⟨x, (sta S n).far + 1, 0, n, d, []⟩]
theorem sta_get (S : List (Sta α)) (i : Nat) (h : i < S.length) : S[i]? = some (sta S i) := by
  unfold sta
  rw [List.getD_eq_getElem?_getD, List.getElem?_eq_getElem h]
  rfl
theorem sta_set (S : List (Sta α)) (i j : Nat) (s : Sta α) (h : i < S.length) : sta (S.set i s) j = if j = i then s else sta S j := by
  unfold sta
  simp only [List.getD_eq_getElem?_getD, List.getElem?_set]
  by_cases e : j = i
  · subst e; rw [if_pos rfl, if_pos rfl, if_pos h]; rfl
  · rw [if_neg (fun h => e h.symm), if_neg e]
theorem addS_length (S : List (Sta α)) (n k : Nat) : (addS S n k).length = S.length := by
  unfold addS
  split <;> simp
theorem pushS_length (S : List (Sta α)) (n k : Nat) : (pushS S n k).length = S.length := by simp [pushS]
theorem linkS_length (S : List (Sta α)) (n k : Nat) : (linkS S n k).length = S.length := by rw [linkS, pushS_length, addS_length]
theorem growS_length (S : List (Sta α)) (x : α) (n d : Nat) : (growS S x n d).length = S.length + 1 := by simp [growS]
/-- What stays of a state while others are linked to it. -/
structure Alike (s u : Sta α) : Prop where
  t : s.t = u.t
  far : s.far = u.far
  from_ : s.from_ = u.from_
  dir : s.dir = u.dir
theorem Alike.refl {α : Type} (s : Sta α) : Alike s s := ⟨rfl, rfl, rfl, rfl⟩
theorem Alike.trans {α : Type} {s t u : Sta α} (h : Alike s t) (k : Alike t u) : Alike s u := ⟨h.1.trans k.1, h.2.trans k.2, h.3.trans k.3, h.4.trans k.4⟩
theorem sta_add (S : List (Sta α)) (n k j : Nat) (hk : k < S.length) : Alike (sta (addS S n k) j) (sta S j) ∧ (sta (addS S n k) j).next = (sta S j).next := by
  unfold addS
  split
  · rw [sta_set _ _ _ _ hk]
    by_cases e : j = k
    · rw [if_pos e, e]; exact ⟨⟨rfl, rfl, rfl, rfl⟩, rfl⟩
    · rw [if_neg e]; exact ⟨.refl _, rfl⟩
  · exact ⟨.refl _, rfl⟩
theorem sta_push (S : List (Sta α)) (n k j : Nat) (hn : n < S.length) : Alike (sta (pushS S n k) j) (sta S j) ∧ (sta (pushS S n k) j).next = if j = n then (sta S n).next ++ [k] else (sta S j).next := by
  unfold pushS
  rw [sta_set _ _ _ _ hn]
  by_cases e : j = n
  · rw [if_pos e, if_pos e, e]; exact ⟨⟨rfl, rfl, rfl, rfl⟩, rfl⟩
  · rw [if_neg e, if_neg e]; exact ⟨.refl _, rfl⟩
theorem sta_link (S : List (Sta α)) (n k j : Nat) (hn : n < S.length) (hk : k < S.length) : Alike (sta (linkS S n k) j) (sta S j) ∧ (sta (linkS S n k) j).next = if j = n then (sta S n).next ++ [k] else (sta S j).next := by
  have h1 := sta_add S n k j hk
  have h1n := sta_add S n k n hk
  have h2 := sta_push (addS S n k) n k j (by rw [addS_length]; exact hn)
  refine ⟨h2.1.trans h1.1, ?_⟩
  show (sta (pushS (addS S n k) n k) j).next = _
  rw [h2.2, h1.2, h1n.2]
theorem sta_app (S : List (Sta α)) (s : Sta α) (j : Nat) (h : j < S.length) : sta (S ++ [s]) j = sta S j := by
  unfold sta
  simp only [List.getD_eq_getElem?_getD, List.getElem?_append_left h]
theorem sta_new (S : List (Sta α)) (s : Sta α) : sta (S ++ [s]) S.length = s := by
  unfold sta
  simp [List.getD_eq_getElem?_getD]
end
section
variable {α : Type} [Inhabited α]
def startS (x : α) : List (Sta α) := [⟨x, 0, 1, 0, 0, []⟩]
/-- What holds of the states behind d moves of state n. -/
structure InvS (P : α → Prop) (nxt : Nat → α → α) (x : α) (n d : Nat) (S : List (Sta α)) : Prop where
  pos : 0 < S.length
  le : S.length ≤ 300
  fst : (sta S 0).t = x ∧ (sta S 0).far = 0
  ne : ∀ i j, i < j → j < S.length → (sta S i).t ≠ (sta S j).t
  good : ∀ j, j < S.length → P (sta S j).t
  nl : ∀ j, j < S.length → (sta S j).next.length = if j < n then 4 else if j = n then d else 0
  nx : ∀ j e, j < S.length → e < (sta S j).next.length → (sta S j).next.getD e 0 < S.length ∧ (sta S ((sta S j).next.getD e 0)).t = nxt e (sta S j).t
  par : ∀ j, 0 < j → j < S.length → (sta S j).from_ < j ∧ (sta S j).dir < 4 ∧ (sta S j).t = nxt (sta S j).dir (sta S (sta S j).from_).t ∧ (sta S j).far = (sta S (sta S j).from_).far + 1
  mono : ∀ i j, i ≤ j → j < S.length → (sta S i).far ≤ (sta S j).far
  top : ∀ j, n < S.length → j < S.length → (sta S j).far ≤ (sta S n).far + 1
variable {P : α → Prop} {nxt : Nat → α → α} {x : α} {n d : Nat} {S : List (Sta α)}
theorem InvS.start (hx : P x) : InvS P nxt x 0 0 (startS x) where
  pos := by simp [startS]
  le := by simp [startS]
  fst := ⟨rfl, rfl⟩
  ne i j hij hj := by simp [startS] at hj; omega
  good j hj := by simp [startS] at hj; subst hj; exact hx
  nl j hj := by simp [startS] at hj; subst hj; rfl
  nx j e hj he := by simp [startS] at hj; subst hj; simp [startS, sta] at he
  par j h0 hj := by simp [startS] at hj; omega
  mono i j hij hj := by simp [startS] at hj; subst hj; obtain rfl : i = 0 := by omega
                        exact Nat.le_refl _
  top j _ hj := by simp [startS] at hj; subst hj; exact Nat.le_succ _
theorem InvS.far_le (h : InvS P nxt x n d S) : ∀ j, j < S.length → (sta S j).far ≤ j := by
  intro j
  induction j using Nat.strongRecOn with
  | ind j ih =>
    intro hj
    rcases Nat.eq_zero_or_pos j with rfl | h0
    · rw [h.fst.2]; exact Nat.le_refl _
    · obtain ⟨h1, -, -, h4⟩ := h.par j h0 hj
      have := ih _ h1 (by omega)
      omega
theorem InvS.link (h : InvS P nxt x n d S) (hn : n < S.length) {k : Nat} (hk : k < S.length) (ht : (sta S k).t = nxt d (sta S n).t) : InvS P nxt x n (d + 1) (linkS S n k) := by
  have A : ∀ j, Alike (sta (linkS S n k) j) (sta S j) := fun j => (sta_link S n k j hn hk).1
  have N : ∀ j, (sta (linkS S n k) j).next = if j = n then (sta S n).next ++ [k] else (sta S j).next := fun j => (sta_link S n k j hn hk).2
  have hlen := linkS_length S n k
  refine ⟨by rw [hlen]; exact h.pos, by rw [hlen]; exact h.le, by rw [(A 0).t, (A 0).far]; exact h.fst, ?_, ?_, ?_, ?_, ?_, ?_, ?_⟩
  · intro i j hij hj
    rw [(A i).t, (A j).t]; rw [hlen] at hj; exact h.ne i j hij hj
  · intro j hj
    rw [(A j).t]; rw [hlen] at hj; exact h.good j hj
  · intro j hj
    rw [hlen] at hj
    rw [N]
    by_cases e : j = n
    · subst e
      rw [if_pos rfl, if_neg (Nat.lt_irrefl _), if_pos rfl, List.length_append, h.nl j hj, if_neg (Nat.lt_irrefl _), if_pos rfl]
      rfl
    · rw [if_neg e, h.nl j hj, if_neg e, if_neg e]
  · intro j e hj he
    rw [hlen] at hj ⊢
    rw [N] at he ⊢
    by_cases e' : j = n
    · subst e'
      rw [if_pos rfl] at he ⊢
      have hnl := h.nl j hj
      rw [if_neg (Nat.lt_irrefl _), if_pos rfl] at hnl
      rw [List.length_append] at he
      simp only [List.length_cons, List.length_nil] at he
      rcases Nat.lt_or_ge e (sta S j).next.length with hlt | hge
      · obtain ⟨h1, h2⟩ := h.nx j e hj hlt
        have : ((sta S j).next ++ [k]).getD e 0 = (sta S j).next.getD e 0 := by
          simp only [List.getD_eq_getElem?_getD, List.getElem?_append_left hlt]
        rw [this, (A _).t, (A _).t]
        exact ⟨h1, h2⟩
      · obtain rfl : e = (sta S j).next.length := by omega
        have : ((sta S j).next ++ [k]).getD (sta S j).next.length 0 = k := by simp [List.getD_eq_getElem?_getD]
        rw [this, (A _).t, (A _).t, hnl]
        exact ⟨hk, ht⟩
    · rw [if_neg e'] at he ⊢
      rw [(A _).t, (A _).t]
      exact h.nx j e hj he
  · intro j h0 hj
    rw [hlen] at hj
    rw [(A j).from_, (A j).dir, (A j).t, (A j).far, (A _).t, (A _).far]
    exact h.par j h0 hj
  · intro i j hij hj
    rw [hlen] at hj
    rw [(A i).far, (A j).far]; exact h.mono i j hij hj
  · intro j hn' hj
    rw [hlen] at hj hn'
    rw [(A j).far, (A n).far]; exact h.top j hn' hj
theorem InvS.next (h : InvS P nxt x n 4 S) (hn : n < S.length) : InvS P nxt x (n + 1) 0 S := by
  refine ⟨h.pos, h.le, h.fst, h.ne, h.good, fun j hj => ?_, h.nx, h.par, h.mono, fun j hn1 hj => ?_⟩
  · rw [h.nl j hj]
    rcases Nat.lt_trichotomy j n with h' | h' | h'
    · rw [if_pos h', if_pos (by omega)]
    · rw [if_neg (by omega), if_pos h', if_pos (by omega)]
    · rw [if_neg (by omega), if_neg (by omega), if_neg (by omega)]
      split <;> rfl
  · have h1 := h.top j hn hj
    have h2 := h.mono n (n + 1) (by omega) hn1
    omega
/-- It is reached by moves. -/
inductive ReachI (nxt : Nat → α → α) (x : α) : α → Prop where
  | refl : ReachI nxt x x
  | step {y : α} (d : Nat) : ReachI nxt x y → d < 4 → ReachI nxt x (nxt d y)
theorem InvS.reached (h : InvS P nxt x n d S) : ∀ j, j < S.length → ReachI nxt x (sta S j).t := by
  intro j
  induction j using Nat.strongRecOn with
  | ind j ih =>
    intro hj
    rcases Nat.eq_zero_or_pos j with rfl | h0
    · rw [h.fst.1]; exact .refl
    · obtain ⟨h1, h2, h3, -⟩ := h.par j h0 hj
      rw [h3]
      exact .step _ (ih _ h1 (by omega)) h2
/-- All that is reached is there. -/
theorem InvS.all (h : InvS P nxt x S.length 0 S) {y : α} (hy : ReachI nxt x y) : ∃ j, j < S.length ∧ (sta S j).t = y := by
  induction hy with
  | refl => exact ⟨0, h.pos, h.fst.1⟩
  | step e _ he ih =>
    obtain ⟨j, hj, rfl⟩ := ih
    have hl := h.nl j hj
    rw [if_pos hj] at hl
    obtain ⟨h1, h2⟩ := h.nx j e hj (by omega)
    exact ⟨_, h1, h2⟩
end
section
variable {α : Type} [DecidableEq α] [Inhabited α]
/-- The number of the state of a thing. -/
def findS : List (Sta α) → α → Option Nat
  | [], _ => none
  | s :: S, x => if s.t = x then some 0 else (findS S x).map (· + 1)
theorem findS_some : ∀ {S : List (Sta α)} {x : α} {k : Nat}, findS S x = some k → k < S.length ∧ (sta S k).t = x ∧ ∀ j, j < k → (sta S j).t ≠ x
  | [], x, k, h => by simp [findS] at h
  | s :: S, x, k, h => by
    unfold findS at h
    by_cases e : s.t = x
    · rw [if_pos e] at h
      cases h
      exact ⟨by simp, e, fun j hj => absurd hj (Nat.not_lt_zero _)⟩
    · rw [if_neg e] at h
      cases hf : findS S x with
      | none => rw [hf] at h; cases h
      | some m =>
        rw [hf] at h
        simp only [Option.map_some, Option.some.injEq] at h
        subst h
        obtain ⟨h1, h2, h3⟩ := findS_some hf
        refine ⟨Nat.succ_lt_succ h1, by unfold sta at h2 ⊢; simpa using h2, fun i hi => ?_⟩
        cases i with
        | zero => unfold sta; simpa using e
        | succ i => have := h3 i (by omega); unfold sta at this ⊢; simpa using this
theorem findS_none : ∀ {S : List (Sta α)} {x : α}, findS S x = none → ∀ j, j < S.length → (sta S j).t ≠ x
  | [], x, _, j, hj => absurd hj (Nat.not_lt_zero _)
  | s :: S, x, h, j, hj => by
    unfold findS at h
    by_cases e : s.t = x
    · rw [if_pos e] at h; cases h
    · rw [if_neg e] at h
      cases hf : findS S x with
      | some m => rw [hf] at h; cases h
      | none =>
        cases j with
        | zero => unfold sta; simpa using e
        | succ j => have := findS_none hf j (by simpa using hj); unfold sta at this ⊢; simpa using this
/-- Found where it stands first. -/
theorem findS_first {S : List (Sta α)} {x : α} {k : Nat} (hk : k < S.length) (h : (sta S k).t = x) (hne : ∀ j, j < k → (sta S j).t ≠ x) : findS S x = some k := by
  cases hf : findS S x with
  | none => exact absurd h (findS_none hf k hk)
  | some m =>
    obtain ⟨h1, h2, h3⟩ := findS_some hf
    rcases Nat.lt_trichotomy m k with h' | h' | h'
    · exact absurd h2 (hne m h')
    · rw [h']
    · exact absurd h (h3 k h')
/-- One move of state n. -/
def moveS (nxt : Nat → α → α) (S : List (Sta α)) (n d : Nat) : Option (List (Sta α)) :=
  match findS S (nxt d (sta S n).t) with
  | some k => some (linkS S n k)
  | none => if S.length = 300 then none else some (linkS (growS S (nxt d (sta S n).t) n d) n S.length)
def movesS (nxt : Nat → α → α) (n : Nat) : Nat → Nat → List (Sta α) → Option (List (Sta α))
  | _, 0, S => some S
  | d, f + 1, S => (moveS nxt S n d).bind (movesS nxt n (d + 1) f)
def runS (nxt : Nat → α → α) : Nat → Nat → List (Sta α) → Option (List (Sta α))
  | 0, _, S => some S
  | f + 1, n, S => if n < S.length then (movesS nxt n 0 4 S).bind (runS nxt f (n + 1)) else some S
/-- All states that are reached, or none where there are too many. -/
def reachS (nxt : Nat → α → α) (x : α) : Option (List (Sta α)) := runS nxt 301 0 (startS x)
/-- What is left to do behind d moves of state n. -/
def restS (nxt : Nat → α → α) (f n d : Nat) (S : List (Sta α)) : Option (List (Sta α)) := (movesS nxt n d (4 - d) S).bind (runS nxt f (n + 1))
theorem restS_step (nxt : Nat → α → α) (f n d : Nat) (S : List (Sta α)) (hd : d < 4) : restS nxt f n d S = (moveS nxt S n d).bind (restS nxt f n (d + 1)) := by
  unfold restS
  obtain ⟨e, he⟩ : ∃ e, 4 - d = e + 1 := ⟨3 - d, by omega⟩
  rw [he, show 4 - (d + 1) = e by omega]
  show ((moveS nxt S n d).bind (movesS nxt n (d + 1) e)).bind _ = _
  rw [Option.bind_assoc]
theorem restS_end (nxt : Nat → α → α) (f n : Nat) (S : List (Sta α)) : restS nxt f n 4 S = runS nxt f (n + 1) S := rfl
theorem runS_start (nxt : Nat → α → α) (f n : Nat) (S : List (Sta α)) (h : n < S.length) : runS nxt (f + 1) n S = restS nxt f n 0 S := by
  show (if n < S.length then _ else _) = _
  rw [if_pos h]; rfl
theorem runS_done (nxt : Nat → α → α) (f n : Nat) (S : List (Sta α)) (h : ¬ n < S.length) : runS nxt f n S = some S := by
  cases f with
  | zero => rfl
  | succ f => show (if n < S.length then _ else _) = _; rw [if_neg h]
variable {P : α → Prop} {nxt : Nat → α → α} {x : α} {n d : Nat} {S : List (Sta α)}
theorem InvS.find (h : InvS P nxt x n d S) {k : Nat} (hk : k < S.length) : findS S (sta S k).t = some k := findS_first hk rfl fun j hj => h.ne j k hj hk
theorem InvS.grow (h : InvS P nxt x n d S) (hP : ∀ e y, e < 4 → P y → P (nxt e y)) (hn : n < S.length) (hd : d < 4) (hl : S.length ≠ 300) (hf : findS S (nxt d (sta S n).t) = none) : InvS P nxt x n d (growS S (nxt d (sta S n).t) n d) := by
  have hle := h.le
  have old : ∀ j, j < S.length → sta (growS S (nxt d (sta S n).t) n d) j = sta S j := fun j hj => sta_app S _ j hj
  have new : sta (growS S (nxt d (sta S n).t) n d) S.length = ⟨nxt d (sta S n).t, (sta S n).far + 1, 0, n, d, []⟩ := sta_new S _
  have hlen := growS_length S (nxt d (sta S n).t) n d
  have cas : ∀ j, j < (growS S (nxt d (sta S n).t) n d).length → j < S.length ∨ j = S.length := fun j hj => by omega
  refine ⟨by omega, by omega, by rw [old 0 h.pos]; exact h.fst, ?_, ?_, ?_, ?_, ?_, ?_, ?_⟩
  · intro i j hij hj
    rcases cas j hj with hj | rfl
    · rw [old i (by omega), old j hj]; exact h.ne i j hij hj
    · rw [old i hij, new]; exact findS_none hf i hij
  · intro j hj
    rcases cas j hj with hj | rfl
    · rw [old j hj]; exact h.good j hj
    · rw [new]; exact hP d _ hd (h.good n hn)
  · intro j hj
    rcases cas j hj with hj | rfl
    · rw [old j hj]; exact h.nl j hj
    · rw [new, if_neg (by omega), if_neg (by omega)]; rfl
  · intro j e hj he
    rcases cas j hj with hj | rfl
    · rw [old j hj] at he ⊢
      obtain ⟨h1, h2⟩ := h.nx j e hj he
      exact ⟨by omega, by rw [old _ h1]; exact h2⟩
    · rw [new] at he; exact absurd he (Nat.not_lt_zero _)
  · intro j h0 hj
    rcases cas j hj with hj | rfl
    · rw [old j hj]
      obtain ⟨h1, h2, h3, h4⟩ := h.par j h0 hj
      rw [old _ (show (sta S j).from_ < S.length by omega)]
      exact ⟨h1, h2, h3, h4⟩
    · rw [new]
      refine ⟨hn, hd, ?_, ?_⟩
      · show nxt d (sta S n).t = nxt d (sta (growS S (nxt d (sta S n).t) n d) n).t
        rw [old n hn]
      · show (sta S n).far + 1 = (sta (growS S (nxt d (sta S n).t) n d) n).far + 1
        rw [old n hn]
  · intro i j hij hj
    rcases cas j hj with hj | rfl
    · rw [old i (by omega), old j hj]; exact h.mono i j hij hj
    · rw [new]
      rcases Nat.lt_or_ge i S.length with hi | hi
      · rw [old i hi]; exact h.top i hn hi
      · obtain rfl : i = S.length := by omega
        rw [new]; exact Nat.le_refl _
  · intro j _ hj
    rw [old n hn]
    rcases cas j hj with hj | rfl
    · rw [old j hj]; exact h.top j hn hj
    · rw [new]; exact Nat.le_refl _
theorem InvS.found (h : InvS P nxt x n d S) (hn : n < S.length) {k : Nat} (hf : findS S (nxt d (sta S n).t) = some k) : InvS P nxt x n (d + 1) (linkS S n k) :=
  h.link hn (findS_some hf).1 (findS_some hf).2.1
theorem InvS.fresh (h : InvS P nxt x n d S) (hP : ∀ e y, e < 4 → P y → P (nxt e y)) (hn : n < S.length) (hd : d < 4) (hl : S.length ≠ 300) (hf : findS S (nxt d (sta S n).t) = none) : InvS P nxt x n (d + 1) (linkS (growS S (nxt d (sta S n).t) n d) n S.length) := by
  refine (h.grow hP hn hd hl hf).link (by rw [growS_length]; omega) (by rw [growS_length]; omega) ?_
  show (sta (S ++ [_]) S.length).t = nxt d (sta (S ++ [_]) n).t
  rw [sta_new, sta_app _ _ _ hn]
theorem movesS_inv (hP : ∀ e y, e < 4 → P y → P (nxt e y)) : ∀ (f d : Nat) (S T : List (Sta α)), d + f = 4 → n < S.length → InvS P nxt x n d S → movesS nxt n d f S = some T → InvS P nxt x n 4 T ∧ n < T.length
  | 0, d, S, T, hdf, hn, h, hm => by
    obtain rfl : d = 4 := by omega
    cases hm
    exact ⟨h, hn⟩
  | f + 1, d, S, T, hdf, hn, h, hm => by
    have hd : d < 4 := by omega
    unfold movesS at hm
    unfold moveS at hm
    cases hf : findS S (nxt d (sta S n).t) with
    | some k =>
      rw [hf] at hm
      exact movesS_inv hP f (d + 1) _ T (by omega) (by rw [linkS_length]; exact hn) (h.found hn hf) hm
    | none =>
      rw [hf] at hm
      simp only [] at hm
      by_cases hl : S.length = 300
      · rw [if_pos hl] at hm; cases hm
      · rw [if_neg hl] at hm
        exact movesS_inv hP f (d + 1) _ T (by omega) (by rw [linkS_length, growS_length]; omega) (h.fresh hP hn hd hl hf) hm
theorem runS_inv (hP : ∀ e y, e < 4 → P y → P (nxt e y)) : ∀ (f n : Nat) (S T : List (Sta α)), n + f = 301 → n ≤ S.length → InvS P nxt x n 0 S → runS nxt f n S = some T → InvS P nxt x T.length 0 T
  | 0, n, S, T, hnf, hn, h, hr => by
    have := h.le
    omega
  | f + 1, n, S, T, hnf, hn, h, hr => by
    unfold runS at hr
    by_cases hlt : n < S.length
    · rw [if_pos hlt] at hr
      cases hm : movesS nxt n 0 4 S with
      | none => rw [hm] at hr; cases hr
      | some U =>
        rw [hm] at hr
        obtain ⟨h1, h2⟩ := movesS_inv hP 4 0 S U rfl hlt h hm
        exact runS_inv hP f (n + 1) U T (by omega) (by omega) (h1.next h2) hr
    · rw [if_neg hlt] at hr
      cases hr
      obtain rfl : n = S.length := by omega
      exact h
theorem reachS_inv (hP : ∀ e y, e < 4 → P y → P (nxt e y)) (hx : P x) {T : List (Sta α)} (h : reachS nxt x = some T) : InvS P nxt x T.length 0 T :=
  runS_inv hP 301 0 _ T rfl (Nat.zero_le _) (InvS.start hx) h
theorem InvS.find_iff (h : InvS P nxt x S.length 0 S) (y : α) : (findS S y).isSome = true ↔ ReachI nxt x y := by
  constructor
  · intro hs
    obtain ⟨k, hk⟩ := Option.isSome_iff_exists.1 hs
    obtain ⟨h1, h2, -⟩ := findS_some hk
    rw [← h2]
    exact h.reached k h1
  · intro hy
    obtain ⟨j, hj, rfl⟩ := h.all hy
    rw [h.find hj]; rfl
end
end Go.Proofs.YtpdmfbhjneodeaaGreatDoor
