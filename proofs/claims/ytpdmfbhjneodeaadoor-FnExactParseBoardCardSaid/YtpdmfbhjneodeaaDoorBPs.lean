/-
  The text of a puzzle, read, as plain mathematics: pieces between a byte, numbers below a hundred as texts, what a text must be.
  The text of a puzzle read by the model: pieces, numbers, and the puzzle.
  A number read by the model, and the text of a puzzle.
  A text read as a puzzle by the model.
  A text read as a puzzle by the program.
-/
import Derived.Test.YtpdmfbhjneodeaaDoorPuzX
import Derived.Lib.SplitLaws
import Derived.Lib.AtoiAllCases
import Derived.Test.YtpdmfbhjneodeaaDoorListsT
import Derived.Test.YtpdmfbhjneodeaaDoorPuzM
import Derived.Test.YtpdmfbhjneodeaaDoorPuzT
namespace Go.Proofs.YtpdmfbhjneodeaaDoor
open Go.RowKit
/-- The pieces of a text between the bytes c. -/
def piB (c : UInt8) : List UInt8 → List (List UInt8)
  | [] => [[]]
  | x :: r => if x = c then [] :: piB c r else (x :: (piB c r).headD []) :: (piB c r).tail
theorem piB_ne (c : UInt8) (l : List UInt8) : piB c l ≠ [] := by
  cases l <;> simp [piB]; split <;> simp
theorem splitKB_ne (c b : UInt8) (hb : b ≠ c) (l : List UInt8) (k : Nat) : Lib.splitK [c] 0 k (b :: l) = (b :: (Lib.splitK [c] 0 k l).headD []) :: (Lib.splitK [c] 0 k l).tail := by
  cases k with
  | zero => rfl
  | succ k =>
    have e : Lib.index (b :: l) [c] = if Lib.index l [c] == -1 then -1 else Lib.index l [c] + 1 := by
      rw [Lib.index_one, Lib.index_one]
      rw [Lib.indexByte, if_neg (by simpa using hb)]
    have hge : -1 ≤ Lib.index l [c] := by rw [Lib.index_one]; exact Lib.indexByte_ge _ _
    unfold Lib.splitK
    rw [e]
    by_cases h : Lib.index l [c] = -1
    · simp [h]
    · have h1 : ¬ (Lib.index l [c] == -1) = true := by simpa using h
      rw [if_neg h1, if_neg h1]
      have h2 : ¬ (Lib.index l [c] + 1 == -1) = true := by simp; omega
      rw [if_neg h2]
      obtain ⟨i, hi⟩ : ∃ i : Nat, Lib.index l [c] = i := ⟨(Lib.index l [c]).toNat, by omega⟩
      rw [hi]
      have e3 : ((i : Int) + 1).toNat = i + 1 := by omega
      rw [e3]
      simp
theorem splitK_piB (c : UInt8) (l : List UInt8) : Lib.splitK [c] 0 (Lib.count l [c]) l = piB c l := by
  induction l with
  | nil => rfl
  | cons b l ih =>
    by_cases hb : b = c
    · subst hb
      rw [Lib.count_cons_eq, Nat.add_comm, piB, if_pos rfl]
      have e : Lib.index (b :: l) [b] = 0 := by rw [Lib.index_one, Lib.indexByte, if_pos (beq_self_eq_true b)]
      unfold Lib.splitK
      rw [e, if_neg (by decide)]
      rw [show (b :: l).drop ((0 : Int).toNat + [b].length) = l from rfl, ih]
      rfl
    · rw [Lib.count_cons_ne b c l hb, splitKB_ne c b hb, ih, piB, if_neg hb]
theorem piB_count (c : UInt8) (s : ByteArray) : (piB c s.data.toList).length = Lib.countB s ⟨#[c]⟩ + 1 := by
  show _ = Lib.count s.data.toList [c] + 1
  rw [Lib.count_one]
  induction s.data.toList with
  | nil => rfl
  | cons b l ih =>
    have hp := piB_ne c l
    rw [piB, List.count_cons]
    split
    · rename_i hb; simp [hb, ih]
    · rename_i hb
      rw [if_neg (by simpa using hb)]
      cases h : piB c l with
      | nil => exact absurd h hp
      | cons p q => rw [h] at ih; simpa using ih
/-- Pieces joined again. -/
def joL (c : UInt8) : List (List UInt8) → List UInt8
  | [] => []
  | [x] => x
  | x :: y :: r => x ++ c :: joL c (y :: r)
theorem piB_join (c : UInt8) (l : List UInt8) : joL c (piB c l) = l := by
  induction l with
  | nil => rfl
  | cons x r ih =>
    have hp := piB_ne c r
    unfold piB
    cases h : piB c r with
    | nil => exact absurd h hp
    | cons p q =>
      rw [h] at ih
      split
      · rename_i hx
        subst hx
        show [] ++ x :: joL x (p :: q) = x :: r
        rw [ih]; rfl
      · show joL c ((x :: p) :: q) = x :: r
        cases q with
        | nil => rw [show p = r from ih]; rfl
        | cons y t =>
          show x :: p ++ c :: joL c (y :: t) = x :: r
          rw [← ih]
          rfl
theorem piB_len (c : UInt8) : ∀ l : List UInt8, ∀ p ∈ piB c l, p.length ≤ l.length
  | [], p, h => by simp [piB] at h; subst h; exact Nat.le_refl _
  | x :: r, p, h => by
    have ih := piB_len c r
    unfold piB at h
    split at h
    · rcases List.mem_cons.1 h with rfl | h
      · exact Nat.zero_le _
      · have := ih p h; simp; omega
    · cases hq : piB c r with
      | nil => exact absurd hq (piB_ne c r)
      | cons y t =>
        rw [hq] at h ih
        rcases List.mem_cons.1 h with rfl | h
        · have := ih y List.mem_cons_self; simpa using this
        · have := ih p (List.mem_cons_of_mem _ h); simp; omega
/-! numbers below a hundred -/
def nm2 : List UInt8 → Option Nat
  | [a] => if 48 ≤ a.toNat ∧ a.toNat ≤ 57 then some (a.toNat - 48) else none
  | [a, b] => if 49 ≤ a.toNat ∧ a.toNat ≤ 57 ∧ 48 ≤ b.toNat ∧ b.toNat ≤ 57 then some (10 * (a.toNat - 48) + (b.toNat - 48)) else none
  | _ => none
theorem nm2_1 {a : UInt8} {k : Nat} (h : nm2 [a] = some k) : (48 ≤ a.toNat ∧ a.toNat ≤ 57) ∧ k = a.toNat - 48 := by
  have h' : (if 48 ≤ a.toNat ∧ a.toNat ≤ 57 then some (a.toNat - 48) else none) = some k := h
  by_cases hh : 48 ≤ a.toNat ∧ a.toNat ≤ 57
  · rw [if_pos hh] at h'
    exact ⟨hh, (Option.some.inj h').symm⟩
  · rw [if_neg hh] at h'
    cases h'
theorem nm2_2 {a b : UInt8} {k : Nat} (h : nm2 [a, b] = some k) : (49 ≤ a.toNat ∧ a.toNat ≤ 57 ∧ 48 ≤ b.toNat ∧ b.toNat ≤ 57) ∧ k = 10 * (a.toNat - 48) + (b.toNat - 48) := by
  have h' : (if 49 ≤ a.toNat ∧ a.toNat ≤ 57 ∧ 48 ≤ b.toNat ∧ b.toNat ≤ 57 then some (10 * (a.toNat - 48) + (b.toNat - 48)) else none) = some k := h
  by_cases hh : 49 ≤ a.toNat ∧ a.toNat ≤ 57 ∧ 48 ≤ b.toNat ∧ b.toNat ≤ 57
  · rw [if_pos hh] at h'
    exact ⟨hh, (Option.some.inj h').symm⟩
  · rw [if_neg hh] at h'
    cases h'
theorem nm2_n1 {a : UInt8} (h : nm2 [a] = none) : ¬ (48 ≤ a.toNat ∧ a.toNat ≤ 57) := fun hh => by
  have h' : (if 48 ≤ a.toNat ∧ a.toNat ≤ 57 then some (a.toNat - 48) else none) = none := h
  rw [if_pos hh] at h'
  cases h'
theorem nm2_n2 {a b : UInt8} (h : nm2 [a, b] = none) : ¬ (49 ≤ a.toNat ∧ a.toNat ≤ 57 ∧ 48 ≤ b.toNat ∧ b.toNat ≤ 57) := fun hh => by
  have h' : (if 49 ≤ a.toNat ∧ a.toNat ≤ 57 ∧ 48 ≤ b.toNat ∧ b.toNat ≤ 57 then some (10 * (a.toNat - 48) + (b.toNat - 48)) else none) = none := h
  rw [if_pos hh] at h'
  cases h'
theorem nm2_dec {d : List UInt8} {k : Nat} (h : nm2 d = some k) : k < 100 ∧ d = Lib.decDigits k := by
  match d, h with
  | [a], h =>
    obtain ⟨hh, rfl⟩ := nm2_1 h
    refine ⟨by omega, ?_⟩
    rw [Lib.decDigits_one (by omega), show 48 + (a.toNat - 48) = a.toNat by omega, UInt8.ofNat_toNat]
  | [a, b], h =>
    obtain ⟨hh, rfl⟩ := nm2_2 h
    refine ⟨by omega, ?_⟩
    rw [Lib.decDigits_two (by omega) (by omega), show 48 + (10 * (a.toNat - 48) + (b.toNat - 48)) / 10 = a.toNat by omega, show 48 + (10 * (a.toNat - 48) + (b.toNat - 48)) % 10 = b.toNat by omega, UInt8.ofNat_toNat, UInt8.ofNat_toNat]
theorem dec_nm2 {k : Nat} (h : k < 100) : nm2 (Lib.decDigits k) = some k := by
  by_cases h1 : k < 10
  · rw [Lib.decDigits_one h1]
    exact (by decide : ∀ k, k < 10 → nm2 [UInt8.ofNat (48 + k)] = some k) k h1
  · rw [Lib.decDigits_two h1 h]
    exact (by decide +kernel : ∀ k, k < 100 → ¬ k < 10 → nm2 [UInt8.ofNat (48 + k / 10), UInt8.ofNat (48 + k % 10)] = some k) k h h1
theorem atoi_dec {k : Nat} (h : k < 100) : Lib.atoiAll (Lib.decDigits k) = .ok (k : Int) := by
  have one : ∀ k, k < 10 → Lib.atoiAll [UInt8.ofNat (48 + k)] = .ok (k : Int) := by decide +kernel
  have two : ∀ k, k < 100 → ¬ k < 10 → Lib.atoiAll [UInt8.ofNat (48 + k / 10), UInt8.ofNat (48 + k % 10)] = .ok (k : Int) := by decide +kernel
  by_cases h1 : k < 10
  · rw [Lib.decDigits_one h1]
    exact one k h1
  · rw [Lib.decDigits_two h1 h]
    exact two k h h1
/-! numbers of one to six digits, as the model reads them -/
def dgB (b : UInt8) : Bool := decide (48 ≤ b.toNat) && decide (b.toNat ≤ 57)
def vl (l : List UInt8) : Nat := l.foldl (fun n b => 10 * n + (b.toNat - 48)) 0
theorem vl_snoc (l : List UInt8) (b : UInt8) : vl (l ++ [b]) = 10 * vl l + (b.toNat - 48) := by unfold vl; rw [List.foldl_append]; rfl
def rdOkZ (d : List UInt8) : Bool := decide (1 ≤ d.length) && decide (d.length ≤ 6) && !(decide (d.headD 0 = 48) && decide (1 < d.length)) && d.all dgB
def rdZ (d : List UInt8) : Int := if rdOkZ d then vl d else -1
theorem vl_lead (l : List UInt8) : ∀ n, l.foldl (fun n (b : UInt8) => 10 * n + (b.toNat - 48)) n ≥ n * 10 ^ l.length := by
  induction l with
  | nil => intro n; simp
  | cons b l ih =>
    intro n
    rw [List.foldl_cons, List.length_cons, Nat.pow_succ]
    refine Nat.le_trans ?_ (ih _)
    rw [show n * (10 ^ l.length * 10) = 10 * n * 10 ^ l.length by rw [Nat.mul_comm (10 ^ l.length) 10, ← Nat.mul_assoc, Nat.mul_comm n 10]]
    exact Nat.mul_le_mul_right _ (Nat.le_add_right _ _)
theorem rdZ_nm2 (d : List UInt8) : (∀ k, nm2 d = some k → rdZ d = k) ∧ (nm2 d = none → rdZ d = -1 ∨ 100 ≤ rdZ d) := by
  match d with
  | [] => exact ⟨fun k h => (by cases h), fun _ => .inl rfl⟩
  | [a] =>
    have e : rdOkZ [a] = (decide (48 ≤ a.toNat) && decide (a.toNat ≤ 57)) := by simp [rdOkZ, dgB]
    constructor
    · intro k h
      obtain ⟨hh, rfl⟩ := nm2_1 h
      unfold rdZ
      rw [e, if_pos (by simp; exact hh)]
      simp [vl]
    · intro h
      have hh := nm2_n1 h
      left
      unfold rdZ
      rw [e, if_neg (by simpa using hh)]
  | [a, b] =>
    have e : rdOkZ [a, b] = (!decide (a = 48) && (decide (48 ≤ a.toNat) && decide (a.toNat ≤ 57) && (decide (48 ≤ b.toNat) && decide (b.toNat ≤ 57)))) := by simp [rdOkZ, dgB]
    have ha : a = 48 ↔ a.toNat = 48 := ⟨fun h => by rw [h]; rfl, fun h => UInt8.toNat_inj.1 (by rw [h]; rfl)⟩
    constructor
    · intro k h
      obtain ⟨hh, rfl⟩ := nm2_2 h
      unfold rdZ
      rw [e, if_pos (by simp [ha]; omega)]
      simp [vl]
    · intro h
      have hh := nm2_n2 h
      left
      unfold rdZ
      rw [e, if_neg (by simp [ha]; omega)]
  | a :: b :: c :: r =>
    refine ⟨fun k h => (by cases h), fun _ => ?_⟩
    unfold rdZ
    by_cases ho : rdOkZ (a :: b :: c :: r) = true
    · right
      rw [if_pos ho]
      unfold rdOkZ at ho
      simp only [Bool.and_eq_true, Bool.not_eq_true', List.all_cons, List.headD_cons] at ho
      obtain ⟨⟨-, h0⟩, hd, -⟩ := ho
      have h48 : a.toNat ≠ 48 := fun e => by
        have : a = 48 := UInt8.toNat_inj.1 (by rw [e]; rfl)
        simp [this] at h0
      unfold dgB at hd
      simp only [Bool.and_eq_true, decide_eq_true_eq] at hd
      have := vl_lead (b :: c :: r) (10 * 0 + (a.toNat - 48))
      have h1 : (10 * 0 + (a.toNat - 48)) * 10 ^ (b :: c :: r).length ≥ 1 * 10 ^ 2 := Nat.mul_le_mul (by omega) (Nat.pow_le_pow_right (by decide) (by simp))
      have : vl (a :: b :: c :: r) ≥ 100 := by
        unfold vl
        rw [List.foldl_cons]
        omega
      omega
    · left
      rw [if_neg ho]
/-! what a text is -/
def ppL (l : List UInt8) : Option (List UInt8 × List UInt8 × Nat) := match piB 58 l with
  | [p, n, d] => match nm2 d with
    | none => none
    | some k => if (pzS p ⟨n.toArray⟩ k).isSome then some (p, n, k) else none
  | _ => none
theorem ppL_len {l : List UInt8} (h : (piB 58 l).length ≠ 3) : ppL l = none := by
  unfold ppL
  split
  · rename_i e; rw [e] at h; exact absurd rfl h
  · rfl
theorem pz_lt {l : List UInt8} {n : ByteArray} {z : Int} (h : (pzS l n z).isSome = true) : ∃ k : Nat, z = k ∧ k < 36 ∧ n.size = 1 ∧ l.length ≤ 42 := by
  cases hp : pzS l n z with
  | none => rw [hp] at h; cases h
  | some x =>
    obtain ⟨g, b, k⟩ := x
    have hz := pz_some hp
    obtain ⟨hc, -, -, -⟩ := pz_tray hz
    have h1 := hc.len
    have h2 := hc.n36
    have h3 := hz.kl
    exact ⟨k, hz.ze, by omega, by rw [hz.n1]; rfl, parse_len hz.pr⟩
/-- The three pieces of a text. -/
theorem pp3 {l p n d : List UInt8} (h : piB 58 l = [p, n, d]) : l = p ++ 58 :: (n ++ 58 :: d) := by
  have := piB_join 58 l
  rw [h] at this
  exact this.symm
/-- By the model's reading. -/
theorem ppL_model {l p n d : List UInt8} (h : piB 58 l = [p, n, d]) : ppL l = if (pzS p ⟨n.toArray⟩ (rdZ d)).isSome then some (p, n, (rdZ d).toNat) else none := by
  obtain ⟨h1, h2⟩ := rdZ_nm2 d
  unfold ppL
  rw [h]
  dsimp only
  cases hn : nm2 d with
  | some k => rw [h1 k hn]; rfl
  | none =>
    dsimp only
    rw [if_neg]
    intro hs
    obtain ⟨k, hk, h36, -⟩ := pz_lt hs
    rcases h2 hn with e | e <;> omega
theorem ppL_long {l : List UInt8} (h : 60 < l.length) : ppL l = none := by
  by_cases h3 : (piB 58 l).length = 3
  · match hp : piB 58 l, h3 with
    | [p, n, d], _ =>
      have hl := pp3 hp
      rw [ppL_model hp]
      rw [if_neg]
      intro hs
      obtain ⟨k, hk, h36, hn, hl42⟩ := pz_lt hs
      have hn1 : n.length = 1 := by rw [← List.size_toArray]; exact hn
      have hd : d.length ≤ 6 := by
        have : rdZ d ≠ -1 := by omega
        unfold rdZ at this
        split at this
        · rename_i ho
          unfold rdOkZ at ho
          simp only [Bool.and_eq_true, decide_eq_true_eq] at ho
          exact ho.1.1.2
        · exact absurd rfl this
      rw [hl] at h
      simp at h
      omega
  · exact ppL_len h3
/-- The text of what is read is the text exactly for the last piece's own digits. -/
theorem pt_same {l p n d : List UInt8} (h : piB 58 l = [p, n, d]) (k : Nat) : (ptB ⟨p.toArray⟩ ⟨n.toArray⟩ k = ⟨l.toArray⟩) ↔ d = Lib.decDigits k := by
  have hl := pp3 h
  have e : ptB ⟨p.toArray⟩ ⟨n.toArray⟩ k = ⟨(p ++ 58 :: (n ++ 58 :: Lib.decDigits k)).toArray⟩ := by
    apply ByteArray.ext
    unfold ptB itB cln
    simp only [ByteArray.data_append]
    apply Array.toList_inj.1
    simp
  rw [e, hl]
  constructor
  · intro h
    have h' : p ++ 58 :: (n ++ 58 :: Lib.decDigits k) = p ++ 58 :: (n ++ 58 :: d) := by
      have := congrArg (fun s : ByteArray => s.data.toList) h
      simpa using this
    have h2 := List.append_cancel_left h'
    injection h2 with _ h2
    have h3 := List.append_cancel_left h2
    injection h3 with _ h3
    exact h3.symm
  · rintro rfl
    rfl
/-- By the program's reading, whatever number it takes for what is none. -/
theorem ppL_prog {l p n d : List UInt8} {x : Int} (h : piB 58 l = [p, n, d]) (hx : ∀ v, Lib.atoiAll d = .ok v → x = v) :
    ppL l = if (pzS p ⟨n.toArray⟩ x).isSome ∧ ptB ⟨p.toArray⟩ ⟨n.toArray⟩ x.toNat = ⟨l.toArray⟩ then some (p, n, x.toNat) else none := by
  unfold ppL
  rw [h]
  dsimp only
  cases hn : nm2 d with
  | some k =>
    obtain ⟨hk, hd⟩ := nm2_dec hn
    have ex : x = k := hx _ (by rw [hd]; exact atoi_dec hk)
    subst ex
    dsimp only
    have e2 : ptB ⟨p.toArray⟩ ⟨n.toArray⟩ ((k : Int).toNat) = ⟨l.toArray⟩ := (pt_same h k).2 hd
    by_cases hs : (pzS p ⟨n.toArray⟩ k).isSome = true
    · rw [if_pos hs, if_pos ⟨hs, e2⟩]; rfl
    · rw [if_neg hs, if_neg (fun hh => hs hh.1)]
  | none =>
    dsimp only
    rw [if_neg]
    rintro ⟨hs, ht⟩
    obtain ⟨k, rfl, h36, -⟩ := pz_lt hs
    have hd := (pt_same h k).1 ht
    rw [hd, dec_nm2 (by omega)] at hn
    cases hn
end Go.Proofs.YtpdmfbhjneodeaaDoor
namespace Go.Proofs.YtpdmfbhjneodeaaDoor
open Go.RowKit
/-- A piece's text. -/
theorem piB_snoc (c : UInt8) (l : List UInt8) (x : UInt8) : piB c (l ++ [x]) = if x = c then piB c l ++ [[]] else (piB c l).dropLast ++ [(piB c l).getLastD [] ++ [x]] := by
  induction l with
  | nil => simp [piB]
  | cons d r ih =>
    have hp := piB_ne c r
    rw [List.cons_append, piB]
    conv => rhs; unfold piB
    rw [ih]
    cases h : piB c r with
    | nil => exact absurd h hp
    | cons p q =>
      by_cases hc : x = c <;> by_cases hd : d = c <;> simp [hc, hd]
      · cases q <;> simp
/-- What the model has behind i bytes: the pieces that are whole, and where the last one begins. -/
structure SpI (c : UInt8) (l : List UInt8) (i f : Nat) (M : List (List UInt8)) : Prop where
  le : f ≤ i
  il : i ≤ l.length
  pi : piB c (l.take i) = M ++ [(l.take i).drop f]
theorem SpI.start (c : UInt8) (l : List UInt8) : SpI c l 0 0 [] := ⟨Nat.le_refl _, Nat.zero_le _, rfl⟩
theorem take_at0 {l : List UInt8} {i : Nat} (h : i < l.length) : l.take (i + 1) = l.take i ++ [l[i]] := List.take_succ_eq_append_getElem h
theorem SpI.cut {c : UInt8} {l : List UInt8} {i f : Nat} {M : List (List UInt8)} (h : SpI c l i f M) (hi : i < l.length) (hc : l[i] = c) : SpI c l (i + 1) (i + 1) (M ++ [(l.take i).drop f]) :=
  ⟨Nat.le_refl _, hi, by
    have e : (l.take i ++ [l[i]]).drop (i + 1) = [] := List.drop_of_length_le (by rw [List.length_append, List.length_take]; simp; omega)
    rw [take_at0 hi, piB_snoc, if_pos hc, h.pi, e]⟩
theorem SpI.on {c : UInt8} {l : List UInt8} {i f : Nat} {M : List (List UInt8)} (h : SpI c l i f M) (hi : i < l.length) (hc : ¬ l[i] = c) : SpI c l (i + 1) f M :=
  ⟨by have := h.le; omega, hi, by
    rw [take_at0 hi, piB_snoc, if_neg hc, h.pi, List.dropLast_concat, List.drop_append_of_le_length (by rw [List.length_take]; have := h.le; omega)]
    rw [List.getLastD_eq_getLast?, List.getLast?_concat]
    rfl⟩
theorem SpI.done {c : UInt8} {l : List UInt8} {f : Nat} {M : List (List UInt8)} (h : SpI c l l.length f M) : piB c l = M ++ [l.drop f] := by
  have := h.pi
  rwa [List.take_length] at this
theorem mk_extract (l : List UInt8) (f i : Nat) : (⟨l.toArray⟩ : ByteArray).extract f i = ⟨((l.take i).drop f).toArray⟩ := by
  apply ByteArray.ext
  rw [ByteArray.data_extract]
  apply Array.toList_inj.1
  simp [List.extract, List.drop_take]
theorem SpI.len {c : UInt8} {l : List UInt8} {i f : Nat} {M : List (List UInt8)} (h : SpI c l i f M) : M.length ≤ i := by
  have : ∀ (l : List UInt8), (piB c l).length ≤ l.length + 1 := by
    intro l
    induction l with
    | nil => exact Nat.le_refl _
    | cons x r ih =>
      unfold piB
      split
      · rw [List.length_cons, List.length_cons]; omega
      · cases hq : piB c r with
        | nil => exact absurd hq (piB_ne c r)
        | cons y t => rw [hq] at ih; simp at ih ⊢; omega
  have h2 := this (l.take i)
  rw [h.pi, List.length_append, List.length_singleton, List.length_take] at h2
  omega
theorem Tryd.strIP : ElemInfo Tryd.prog 35 9 (.string ⟨#[]⟩) 1 16 := ⟨Tryd.underlying35, by kernel_rfl, rfl, by decide⟩
theorem Tryd.bstrP (s : ByteArray) (w : World) : (Instr.buildSlice 35 1 #[(0, .string s)]).run Tryd.prog w = .ok (.slice (some ⟨w.heap.size, 0, none⟩) 1 1) (w.alloc (.cells #[.string s] 9)) := by kernel_rfl
theorem Tryd.subP (s : ByteArray) (f i : Nat) (h1 : f ≤ i) (h2 : i ≤ s.size) (w : World) : (Instr.sliceAt 9 (.string s) (some (.int .i64 f)) (some (.int .i64 i)) none).run Tryd.prog w = .ok (.string (s.extract f i)) w := by
  rw [run_sliceAt_string (P := Tryd.prog) w 9 _ _ _ _ Tryd.underlying9, run_slice_string_if (P := Tryd.prog) w 9 s .i64 .i64 f i Tryd.underlying9, if_pos (by omega), if_pos (by omega)]
  simp
theorem Tryd.fromP (s : ByteArray) (f : Nat) (h1 : f ≤ s.size) (w : World) : (Instr.sliceAt 9 (.string s) (some (.int .i64 f)) none none).run Tryd.prog w = .ok (.string (s.extract f s.size)) w := by
  rw [run_sliceAt_string (P := Tryd.prog) w 9 _ _ _ _ Tryd.underlying9, run_slice_string_from_if (P := Tryd.prog) w 9 s .i64 f Tryd.underlying9, if_pos (by omega)]
  simp
theorem idxP {P : Program} {t : TypeId} (ht : P.underlying t = some (.string)) (l : List UInt8) (i : Nat) (h : i < l.length) (w : World) : (Instr.index t (.string ⟨l.toArray⟩) (.int .i64 i)).run P w = .ok (.int .u8 (l[i]).toNat) w := by
  have := run_index_string (P := P) w t (⟨l.toArray⟩ : ByteArray) .i64 i ht
  rw [this, dif_pos ⟨Int.natCast_nonneg _, by show (i : Int) < ((l.toArray.size : Nat) : Int); simp; omega⟩]
  rfl
theorem e_eqB {P : Program} {w : World} {a : Act} {dst : Option Tmp} {ty T yt : TypeId} {pos : String} {aft : Array Edge} {gd : Option (Nat × Bool)} {k : IntKind} (x y : Operand) (m n : Int) (v : Bool) (hx : a.eval x = .int k m) (hy : a.eval y = .int k n) (hv : decide (m = n) = v) :
    (execOp a.eval ⟨dst, .binOp .eql T x y yt, ty, pos, aft, gd⟩).run P w = .ok (.value (.bool v)) w := by
  subst hv
  unfold execOp
  have e : (m == n) = decide (m = n) := by rw [Bool.eq_iff_iff, beq_iff_eq, decide_eq_true_eq]
  simp [hx, hy, eqGuard, binOp, Op.intCmp, e]
def intN : Value → Nat
  | .int _ n => n.toNat
  | _ => 0
set_option maxHeartbeats 2000000 in
set_option maxRecDepth 100000 in
theorem l1Split_any (l : List UInt8) (c : UInt8) (w : World) (hl : l.length ≤ 60) : Calls Tryd.prog 19 #[.string ⟨l.toArray⟩, .int .u8 c.toNat] w fun e w' => Gr w w' ∧ ∃ v, e = .returned v ∧ w'.ownsRow w.heap.size 9 1 v (piB c l).length (strV (piB c l)) := by
  have gg := Gr.refl w
  obtain ⟨n, hn⟩ : ∃ n, n = l.length := ⟨_, rfl⟩
  have HN := hidI hn
  obtain ⟨s, hs⟩ : ∃ s : ByteArray, s = ⟨l.toArray⟩ := ⟨_, rfl⟩
  have hsz : s.size = n := by rw [hs, hn]; exact List.size_toArray
  have HS := hidI hs
  have HIX := hidI (fun i (hi : i < n) w => show (Instr.index 9 (.string s) (.int .i64 i)).run Tryd.prog w = .ok (.int .u8 ((l.getD i 0).toNat)) w from by
    rw [hs]
    have := idxP (P := Tryd.prog) Tryd.underlying9 l i (by rw [← hn]; exact hi) w
    rw [this, List.getD_eq_getElem?_getD, List.getElem?_eq_getElem (by rw [← hn]; exact hi)]
    rfl)
  have HSB := hidI (fun f i (h1 : f ≤ i) (h2 : i ≤ n) w => show (Instr.sliceAt 9 (.string s) (some (.int .i64 f)) (some (.int .i64 i)) none).run Tryd.prog w = .ok (tx ((l.take i).drop f)) w from by
    rw [Tryd.subP s f i h1 (by rw [hsz]; exact h2), hs, mk_extract]
    rfl)
  have HSF := hidI (fun f (h1 : f ≤ n) w => show (Instr.sliceAt 9 (.string s) (some (.int .i64 f)) none none).run Tryd.prog w = .ok (tx (l.drop f)) w from by
    rw [Tryd.fromP s f (by rw [hsz]; exact h1), hsz, hs, mk_extract, hn, List.take_length]
    rfl)
  have HGE := hidI (fun i (hi : i < n) => show ∀ h : i < l.length, l[i] = l.getD i 0 from fun h => by rw [List.getD_eq_getElem?_getD, List.getElem?_eq_getElem h]; rfl)
  rw [← hs]
  rw [← hn] at hl
  clear hn hs
  go_enter Tryd.func19, Tryd.ntmps19
  go_wp2
  have own0 : w.ownsRow w.heap.size 9 1 (.slice none 0 0) ([] : List (List UInt8)).length (strV []) := World.ownsRow_nil _ _ _ _
  go_loopw [5, 6, 7] (fun ov fv iv wr => ∃ (i f : Nat) (M : List (List UInt8)), fv = .int .i64 f ∧ iv = .int .i64 i ∧ Hid (SpI c l i f M) ∧ f ≤ i ∧ i ≤ n ∧ M.length ≤ i ∧ wr.ownsRow w.heap.size 9 1 ov M.length (strV M) ∧ Gr w wr) (fun _ _ iv _ => n - intN iv)
  case atStart => exact ⟨0, 0, [], rfl, rfl, hidI (SpI.start c l), Nat.le_refl _, Nat.zero_le _, Nat.zero_le _, own0, gg⟩
  case round =>
    clear own0 gg
    obtain ⟨i, f, M, rfl, rfl, HI, hfi, hin, hMi, own, gg⟩ := hrel
    have zr := gg.size
    by_cases hlt : i < n
    · have hix := HIX.out i hlt
      have hge := HGE.out i hlt (by rw [← HN.out]; exact hlt)
      have HCU := hidI (fun (h : l.getD i 0 = c) => HI.out.cut (by rw [← HN.out]; exact hlt) (hge.trans h))
      have HON := hidI (fun (h : ¬ l.getD i 0 = c) => HI.out.on (by rw [← HN.out]; exact hlt) (fun e => h (hge.symm.trans e)))
      obtain ⟨x, hx⟩ : ∃ x, x = l.getD i 0 := ⟨_, rfl⟩
      rw [← hx] at hix HCU HON
      have HSS := hidI (HSB.out f i hfi hin)
      obtain ⟨pc, hpc⟩ : ∃ pc, pc = (l.take i).drop f := ⟨_, rfl⟩
      rw [← hpc] at HSS HCU
      clear hx hge hpc
      by_cases hc : x = c
      · have HC2 := hidI (HCU.out hc)
        have hd : decide ((x.toNat : Int) = (c.toNat : Int)) = true := decide_eq_true (by rw [hc])
        clear hc HCU HON
        go_wp2_with (first | (refine r_val (.int .u8 x.toNat) (e_val _ _ (hix _)) rfl ?_) | (refine r_val (.bool true) (e_eqB _ _ _ _ true rfl rfl hd) rfl ?_) | (refine r_val (tx pc) (e_val _ _ (HSS.out _)) rfl ?_) | (refine r_slice1 35 9 (.tmp 23) (tx pc) rfl (Tryd.bstrP _ _) rfl ?_; intro w3 B3 N3; have g3 := N3.gr; have own := g3.row own; have gg := gg.trans g3; have z3 := g3.size) | (refine r_append (.tmp 19) (.tmp 24) 35 9 _ 1 16 w.heap.size Tryd.strIP _ M.length (strV M) rfl own ⟨B3, 0, none⟩ 1 1 [tx pc] rfl rfl N3.cell1 (by intro u hu; simp at hu; subst hu; rfl) (by omega) (by decide) (by omega) rfl ?_; intro v4 w4 own4 g4))
        have own5 : w4.ownsRow w.heap.size 9 1 v4 (M ++ [pc]).length (strV (M ++ [pc])) := by
          rw [List.length_append, ← strV_append]
          exact own4
        go_roundw
        case rel => exact ⟨i + 1, i + 1, M ++ [pc], by go_num, by go_num, HC2, Nat.le_refl _, hlt, by rw [List.length_append]; simp; omega, own5, g4.gr gg (own_gr own (Nat.le_refl _))⟩
        case measure => simp [intN]; omega
      · have HC2 := hidI (HON.out hc)
        have hd : decide ((x.toNat : Int) = (c.toNat : Int)) = false := decide_eq_false (fun e => hc (UInt8.toNat_inj.1 (by omega)))
        clear hc HCU HON
        go_wp2_with (first | (refine r_val (.int .u8 x.toNat) (e_val _ _ (hix _)) rfl ?_) | (refine r_val (.bool false) (e_eqB _ _ _ _ false rfl rfl hd) rfl ?_))
        go_roundw
        case rel => exact ⟨i + 1, f, M, rfl, by go_num, HC2, by omega, hlt, by omega, own, gg⟩
        case measure => simp [intN]; omega
    · obtain rfl : i = n := by omega
      have HV := hidI (show piB c l = M ++ [l.drop f] from by have := HI.out; rw [HN.out] at this; exact this.done)
      have HSS := hidI (HSF.out f hfi)
      obtain ⟨pc, hpc⟩ : ∃ pc, pc = l.drop f := ⟨_, rfl⟩
      rw [← hpc] at HSS HV
      clear hlt hpc
      go_wp2_with (first | (refine r_val (tx pc) (e_val _ _ (HSS.out _)) rfl ?_) | (refine r_slice1 35 9 (.tmp 31) (tx pc) rfl (Tryd.bstrP _ _) rfl ?_; intro w3 B3 N3; have g3 := N3.gr; have own := g3.row own; have gg := gg.trans g3; have z3 := g3.size) | (refine r_append (.tmp 28) (.tmp 32) 35 9 _ 1 16 w.heap.size Tryd.strIP _ M.length (strV M) rfl own ⟨B3, 0, none⟩ 1 1 [tx pc] rfl rfl N3.cell1 (by intro u hu; simp at hu; subst hu; rfl) (by omega) (by decide) (by omega) rfl ?_; intro v4 w4 own4 g4))
      go_ret
      refine ⟨g4.gr gg (own_gr own (Nat.le_refl _)), _, rfl, ?_⟩
      rw [HV.out, List.length_append, ← strV_append]
      exact own4
end Go.Proofs.YtpdmfbhjneodeaaDoor
namespace Go.Proofs.YtpdmfbhjneodeaaDoor
open Go.RowKit
theorem vl_lt (l : List UInt8) (h : ∀ b ∈ l, dgB b = true) : vl l < 10 ^ l.length := by
  have key : ∀ (l : List UInt8) (n m : Nat), (∀ b ∈ l, dgB b = true) → n < 10 ^ m → l.foldl (fun n (b : UInt8) => 10 * n + (b.toNat - 48)) n < 10 ^ (m + l.length) := by
    intro l
    induction l with
    | nil => intro n m _ h; simpa using h
    | cons b r ih =>
      intro n m hb hn
      rw [List.foldl_cons, List.length_cons, show m + (r.length + 1) = (m + 1) + r.length by omega]
      refine ih _ (m + 1) (fun x hx => hb x (List.mem_cons_of_mem _ hx)) ?_
      have := hb b List.mem_cons_self
      unfold dgB at this
      rw [Bool.and_eq_true, decide_eq_true_eq, decide_eq_true_eq] at this
      rw [Nat.pow_succ]
      omega
  have := key l 0 0 h (by decide)
  rwa [Nat.zero_add] at this
theorem rd_no1 {d : List UInt8} (h : ¬ (1 ≤ d.length ∧ d.length ≤ 6)) : rdZ d = -1 := by
  unfold rdZ rdOkZ
  rw [if_neg]
  intro hh
  simp only [Bool.and_eq_true, decide_eq_true_eq] at hh
  exact h hh.1.1
theorem rd_no2 {d : List UInt8} (h : d.headD 0 = 48) (h2 : 1 < d.length) : rdZ d = -1 := by
  unfold rdZ rdOkZ
  rw [if_neg]
  intro hh
  rw [decide_eq_true h, decide_eq_true h2] at hh
  simp at hh
theorem rd_no3 {d : List UInt8} {i : Nat} (hi : i < d.length) (h : dgB (d.getD i 0) = false) : rdZ d = -1 := by
  unfold rdZ rdOkZ
  rw [if_neg]
  intro hh
  rw [Bool.and_eq_true, List.all_eq_true] at hh
  have := hh.2 (d.getD i 0) (by rw [List.getD_eq_getElem?_getD, List.getElem?_eq_getElem hi]; exact List.getElem_mem hi)
  rw [h] at this
  cases this
theorem rd_yes {d : List UInt8} (h1 : 1 ≤ d.length ∧ d.length ≤ 6) (h2 : ¬ (d.headD 0 = 48 ∧ 1 < d.length)) (h3 : ∀ i, i < d.length → dgB (d.getD i 0) = true) : rdZ d = vl d := by
  unfold rdZ
  rw [if_pos]
  unfold rdOkZ
  simp only [Bool.and_eq_true, decide_eq_true_eq, Bool.not_eq_true', Bool.and_eq_false_iff, decide_eq_false_iff_not, List.all_eq_true]
  refine ⟨⟨h1, Decidable.not_and_iff_or_not.1 h2⟩, fun b hb => ?_⟩
  obtain ⟨j, hj, e⟩ := List.getElem_of_mem hb
  have := h3 j hj
  rw [List.getD_eq_getElem?_getD, List.getElem?_eq_getElem hj] at this
  rw [← e]
  exact this
theorem vl_take {d : List UInt8} {i : Nat} (h : i < d.length) : vl (d.take (i + 1)) = 10 * vl (d.take i) + ((d.getD i 0).toNat - 48) := by
  rw [List.take_succ_eq_append_getElem h, vl_snoc, List.getD_eq_getElem?_getD, List.getElem?_eq_getElem h]
  rfl
theorem vl_bound {d : List UInt8} {i : Nat} (hi : i ≤ d.length) (h6 : d.length ≤ 6) (h : ∀ j, j < i → dgB (d.getD j 0) = true) : vl (d.take i) < 1000000 := by
  have h1 := vl_lt (d.take i) (fun b hb => by
    obtain ⟨j, hj, e⟩ := List.getElem_of_mem hb
    rw [List.length_take] at hj
    have := h j (by omega)
    rw [List.getD_eq_getElem?_getD, List.getElem?_eq_getElem (by omega)] at this
    rw [← e, List.getElem_take]
    exact this)
  rw [List.length_take] at h1
  have h2 : 10 ^ min i d.length ≤ 10 ^ 6 := Nat.pow_le_pow_right (by decide) (by omega)
  omega
theorem dg_yes {b : UInt8} (h : dgB b = true) : 48 ≤ b.toNat ∧ b.toNat ≤ 57 := by
  unfold dgB at h
  rwa [Bool.and_eq_true, decide_eq_true_eq, decide_eq_true_eq] at h
theorem dg_no {b : UInt8} (h : dgB b = false) : b.toNat < 48 ∨ 57 < b.toNat := by
  unfold dgB at h
  rw [Bool.and_eq_false_iff, decide_eq_false_iff_not, decide_eq_false_iff_not] at h
  omega
theorem e_lenT {P : Program} {w : World} {a : Act} {dst : Option Tmp} {ty : TypeId} {pos : String} {aft : Array Edge} {gd : Option (Nat × Bool)} (T : TypeId) (x : Operand) (s : ByteArray) (hx : a.eval x = .string s) (hu : P.underlying T = some .string) :
    (execOp a.eval ⟨dst, .call { callee := .builtin .len, args := #[x], argTypes := #[T] }, ty, pos, aft, gd⟩).run P w = .ok (.value (.int .i64 s.size)) w := by
  unfold execOp
  simp only [resolve, invoke, builtin, Sem.run_bind, Sem.run_pure, Result.andThen_ok, List.map_toArray, List.map_cons, List.map_nil, hx, run_len_string (P := P) w T ty s hu]
  rfl
theorem e_gtrR {P : Program} {w : World} {a : Act} {dst : Option Tmp} {ty T yt : TypeId} {pos : String} {aft : Array Edge} {gd : Option (Nat × Bool)} {k : IntKind} (x y : Operand) (m n : Int) (v : Bool) (hx : a.eval x = .int k m) (hy : a.eval y = .int k n) (hv : decide (n < m) = v) :
    (execOp a.eval ⟨dst, .binOp .gtr T x y yt, ty, pos, aft, gd⟩).run P w = .ok (.value (.bool v)) w := by
  subst hv
  unfold execOp
  simp [hx, hy, eqGuard, binOp, Op.intCmp]
theorem e_lssR {P : Program} {w : World} {a : Act} {dst : Option Tmp} {ty T yt : TypeId} {pos : String} {aft : Array Edge} {gd : Option (Nat × Bool)} {k : IntKind} (x y : Operand) (m n : Int) (v : Bool) (hx : a.eval x = .int k m) (hy : a.eval y = .int k n) (hv : decide (m < n) = v) :
    (execOp a.eval ⟨dst, .binOp .lss T x y yt, ty, pos, aft, gd⟩).run P w = .ok (.value (.bool v)) w := by
  subst hv
  unfold execOp
  simp [hx, hy, eqGuard, binOp, Op.intCmp]
def natR : Value → Nat
  | .int _ n => n.toNat
  | _ => 0
set_option maxHeartbeats 2000000 in
set_option maxRecDepth 100000 in
theorem l1Read_any (d : List UInt8) (w : World) (hd : d.length ≤ 60) : Calls Tryd.prog 20 #[.string ⟨d.toArray⟩] w (Ret (.int .i64 (rdZ d)) w) := by
  have gg := Gr.refl w
  obtain ⟨n, hn⟩ : ∃ n, n = d.length := ⟨_, rfl⟩
  have HN := hidI hn
  obtain ⟨s, hs⟩ : ∃ s : ByteArray, s = ⟨d.toArray⟩ := ⟨_, rfl⟩
  have hsz : s.size = n := by rw [hs, hn]; exact List.size_toArray
  have HIX := hidI (fun i (hi : i < n) w => show (Instr.index 9 (.string s) (.int .i64 i)).run Tryd.prog w = .ok (.int .u8 ((d.getD i 0).toNat)) w from by
    rw [hs]
    have := idxP (P := Tryd.prog) Tryd.underlying9 d i (by rw [← hn]; exact hi) w
    rw [this, List.getD_eq_getElem?_getD, List.getElem?_eq_getElem (by rw [← hn]; exact hi)]
    rfl)
  have HNO1 := hidI (fun h => rd_no1 (d := d) (by rw [← hn]; exact h))
  have HNO2 := hidI (fun h h2 => rd_no2 (d := d) h (by rw [← hn]; exact h2))
  have HNO3 := hidI (fun i (hi : i < n) h => rd_no3 (d := d) (i := i) (by rw [← hn]; exact hi) h)
  have HYES := hidI (fun h1 h2 h3 => rd_yes (d := d) (by rw [← hn]; exact h1) (by rw [← hn]; exact h2) (by rw [← hn]; exact h3))
  have HVT := hidI (fun i (hi : i < n) => vl_take (d := d) (i := i) (by rw [← hn]; exact hi))
  have HVB := hidI (fun i (hi : i ≤ n) (h6 : n ≤ 6) h => vl_bound (d := d) (i := i) (by rw [← hn]; exact hi) (by rw [← hn]; exact h6) h)
  have HVA := hidI (show vl (d.take n) = vl d from by rw [hn, List.take_length])
  have HH := hidI (show 0 < n → d.headD 0 = d.getD 0 0 from fun _ => by cases d <;> rfl)
  have HL1 := hidI (fun w' => l1In_any (s.size : Int) 1 6 w')
  have hL1 : btw (s.size : Int) 1 6 = (decide (1 ≤ n) && decide (n ≤ 6)) := by
    unfold btw
    rw [hsz, Bool.eq_iff_iff]
    simp
    omega
  have HLB := hidI (fun (b : Bool) (hb : (decide (1 ≤ n) && decide (n ≤ 6)) = b) w' => show Calls Tryd.prog 38 #[.int .i64 (s.size : Int), .int .i64 1, .int .i64 6] w' (fun e w'' => e = .returned (.bool b) ∧ w' = w'') from by rw [← hb, ← hL1]; exact HL1.out w')
  clear HL1
  rw [← hs]
  rw [← hn] at hd
  have HSZ := hidI hsz
  clear hn hs hL1
  by_cases hr : 1 ≤ n ∧ n ≤ 6
  · obtain ⟨h1, h6⟩ := hr
    have HL1 := hidI (HLB.out true (by rw [decide_eq_true h1, decide_eq_true h6]; rfl))
    have hix0 := HIX.out 0 (by omega)
    obtain ⟨x0, hx0⟩ : ∃ x0, x0 = d.getD 0 0 := ⟨_, rfl⟩
    have HX0 := hidI hx0
    rw [← hx0] at hix0
    clear hx0
    by_cases hb : x0 = 48 ∧ 1 < n
    · have HV := hidI (HNO2.out (by rw [HH.out (by omega), ← HX0.out]; exact hb.1) hb.2)
      have hd0 : decide ((x0.toNat : Int) = 48) = true := by rw [hb.1]; rfl
      have hgt : decide ((1 : Int) < (s.size : Int)) = true := decide_eq_true (by rw [hsz]; omega)
      have hn1 : 1 < s.size := by rw [hsz]; exact hb.2
      clear hb
      go_enter Tryd.func20, Tryd.ntmps20
      go_upto_region 1 with (fail)
      go_step
      refine r_val (.string s) rfl rfl ?_
      simp only [Act.put, List.setIfInBounds_toArray, List.set_cons_succ, List.set_cons_zero]
      refine r_val (.int .i64 s.size) (e_lenT _ _ s rfl Tryd.underlying9) rfl ?_
      simp only [Act.put, List.setIfInBounds_toArray, List.set_cons_succ, List.set_cons_zero]
      refine r_call 38 [.tmp 6, .const (.int .i64 1), .const (.int .i64 6)] _ [.int .i64 s.size, .int .i64 1, .int .i64 6] (.bool true) (fun w' => w = w') Tryd.call38 rfl rfl (HL1.out _) ?_
      rintro _ rfl
      simp only [Act.put, List.setIfInBounds_toArray, List.set_cons_succ, List.set_cons_zero]
      refine r_val (.bool false) rfl rfl ?_
      simp only [Act.put, List.setIfInBounds_toArray, List.set_cons_succ, List.set_cons_zero]
      refine r_val (.bool false) rfl rfl ?_
      simp only [Act.put, List.setIfInBounds_toArray, List.set_cons_succ, List.set_cons_zero]
      refine r_val (.string s) rfl rfl ?_
      simp only [Act.put, List.setIfInBounds_toArray, List.set_cons_succ, List.set_cons_zero]
      refine r_val (.int .u8 x0.toNat) (e_val _ _ (hix0 _)) rfl ?_
      simp only [Act.put, List.setIfInBounds_toArray, List.set_cons_succ, List.set_cons_zero]
      refine r_val (.bool true) (e_eqB _ _ _ _ true rfl rfl hd0) rfl ?_
      simp only [Act.put, List.setIfInBounds_toArray, List.set_cons_succ, List.set_cons_zero]
      refine r_val (.bool true) rfl rfl ?_
      simp only [Act.put, List.setIfInBounds_toArray, List.set_cons_succ, List.set_cons_zero]
      refine r_val (.string s) rfl rfl ?_
      simp only [Act.put, List.setIfInBounds_toArray, List.set_cons_succ, List.set_cons_zero]
      refine r_val (.int .i64 s.size) (e_lenT _ _ s rfl Tryd.underlying9) rfl ?_
      simp only [Act.put, List.setIfInBounds_toArray, List.set_cons_succ, List.set_cons_zero]
      refine r_val (.bool true) (e_gtrR _ _ _ _ true rfl rfl hgt) rfl ?_
      simp only [Act.put, List.setIfInBounds_toArray, List.set_cons_succ, List.set_cons_zero]
      refine r_val (.bool true) rfl rfl ?_
      simp only [Act.put, List.setIfInBounds_toArray, List.set_cons_succ, List.set_cons_zero]
      refine r_val (.bool true) rfl rfl ?_
      simp only [Act.put, List.setIfInBounds_toArray, List.set_cons_succ, List.set_cons_zero]
      go_wp2
      go_ret
      exact ⟨ret_int HV.out.symm, gg⟩
    · have HB := hidI (show ¬ (d.headD 0 = 48 ∧ 1 < n) from by rw [HH.out (by omega), ← HX0.out]; exact hb)
      by_cases hz : x0 = 48
      · have hd0 : decide ((x0.toNat : Int) = 48) = true := by rw [hz]; rfl
        have hgt : decide ((1 : Int) < (s.size : Int)) = false := decide_eq_false (fun h => hb ⟨hz, by rw [hsz] at h; omega⟩)
        clear hb hz
        go_enter Tryd.func20, Tryd.ntmps20
        go_upto_region 1 with (fail)
        go_step
        refine r_val (.string s) rfl rfl ?_
        simp only [Act.put, List.setIfInBounds_toArray, List.set_cons_succ, List.set_cons_zero]
        refine r_val (.int .i64 s.size) (e_lenT _ _ s rfl Tryd.underlying9) rfl ?_
        simp only [Act.put, List.setIfInBounds_toArray, List.set_cons_succ, List.set_cons_zero]
        refine r_call 38 [.tmp 6, .const (.int .i64 1), .const (.int .i64 6)] _ [.int .i64 s.size, .int .i64 1, .int .i64 6] (.bool true) (fun w' => w = w') Tryd.call38 rfl rfl (HL1.out _) ?_
        rintro _ rfl
        simp only [Act.put, List.setIfInBounds_toArray, List.set_cons_succ, List.set_cons_zero]
        refine r_val (.bool false) rfl rfl ?_
        simp only [Act.put, List.setIfInBounds_toArray, List.set_cons_succ, List.set_cons_zero]
        refine r_val (.bool false) rfl rfl ?_
        simp only [Act.put, List.setIfInBounds_toArray, List.set_cons_succ, List.set_cons_zero]
        refine r_val (.string s) rfl rfl ?_
        simp only [Act.put, List.setIfInBounds_toArray, List.set_cons_succ, List.set_cons_zero]
        refine r_val (.int .u8 x0.toNat) (e_val _ _ (hix0 _)) rfl ?_
        simp only [Act.put, List.setIfInBounds_toArray, List.set_cons_succ, List.set_cons_zero]
        refine r_val (.bool true) (e_eqB _ _ _ _ true rfl rfl hd0) rfl ?_
        simp only [Act.put, List.setIfInBounds_toArray, List.set_cons_succ, List.set_cons_zero]
        refine r_val (.bool true) rfl rfl ?_
        simp only [Act.put, List.setIfInBounds_toArray, List.set_cons_succ, List.set_cons_zero]
        refine r_val (.string s) rfl rfl ?_
        simp only [Act.put, List.setIfInBounds_toArray, List.set_cons_succ, List.set_cons_zero]
        refine r_val (.int .i64 s.size) (e_lenT _ _ s rfl Tryd.underlying9) rfl ?_
        simp only [Act.put, List.setIfInBounds_toArray, List.set_cons_succ, List.set_cons_zero]
        refine r_val (.bool false) (e_gtrR _ _ _ _ false rfl rfl hgt) rfl ?_
        simp only [Act.put, List.setIfInBounds_toArray, List.set_cons_succ, List.set_cons_zero]
        refine r_val (.bool false) rfl rfl ?_
        simp only [Act.put, List.setIfInBounds_toArray, List.set_cons_succ, List.set_cons_zero]
        refine r_val (.bool false) rfl rfl ?_
        simp only [Act.put, List.setIfInBounds_toArray, List.set_cons_succ, List.set_cons_zero]
        subst hsz
        go_wp2
        go_loopw [3, 4] (fun xv iv wr => ∃ i V : Nat, iv = .int .i64 i ∧ xv = .int .i64 V ∧ i ≤ s.size ∧ Hid (vl (d.take i) = V) ∧ Hid (∀ j, j < i → dgB (d.getD j 0) = true) ∧ Gr w wr) (fun _ iv _ => s.size - natR iv)
        case atStart => exact ⟨0, 0, rfl, rfl, Nat.zero_le _, hidI rfl, hidI (fun j hj => absurd hj (Nat.not_lt_zero _)), gg⟩
        case round =>
          clear gg
          obtain ⟨i, V, rfl, rfl, hin, HVV, HD, gg⟩ := hrel
          by_cases hlt : i < s.size
          · have hixi := HIX.out i hlt
            have hvb : V < 1000000 := by rw [← HVV.out]; exact HVB.out i hin h6 HD.out
            have HVN := hidI (HVT.out i hlt)
            have HN := hidI (HNO3.out i hlt)
            have HDN := hidI (show dgB (d.getD i 0) = true → ∀ j, j < i + 1 → dgB (d.getD j 0) = true from fun h j hj => by
              by_cases e : j = i
              · rw [e]; exact h
              · exact HD.out j (by omega))
            obtain ⟨x, hx⟩ : ∃ x, x = d.getD i 0 := ⟨_, rfl⟩
            rw [← hx] at hixi HVN HN HDN
            clear hx
            by_cases hlo : x.toNat < 48
            · have hd1 : decide ((x.toNat : Int) < 48) = true := decide_eq_true (by omega)
              have HV := hidI (HN.out (by unfold dgB; rw [decide_eq_false (by omega : ¬ 48 ≤ x.toNat)]; rfl))
              clear hlo
              go_upto_region 7 with (fail)
              go_step
              refine r_val (.string s) rfl rfl ?_
              simp only [Act.put, List.setIfInBounds_toArray, List.set_cons_succ, List.set_cons_zero]
              refine r_val (.int .i64 i) rfl rfl ?_
              simp only [Act.put, List.setIfInBounds_toArray, List.set_cons_succ, List.set_cons_zero]
              refine r_val (.int .u8 x.toNat) (e_val _ _ (hixi _)) rfl ?_
              simp only [Act.put, List.setIfInBounds_toArray, List.set_cons_succ, List.set_cons_zero]
              refine r_val (.bool true) (e_lssR _ _ _ _ true rfl rfl hd1) rfl ?_
              simp only [Act.put, List.setIfInBounds_toArray, List.set_cons_succ, List.set_cons_zero]
              refine r_val (.bool true) rfl rfl ?_
              simp only [Act.put, List.setIfInBounds_toArray, List.set_cons_succ, List.set_cons_zero]
              go_wp2
              go_ret
              exact ⟨ret_int HV.out.symm, gg⟩
            · have hd1 : decide ((x.toNat : Int) < 48) = false := decide_eq_false (by omega)
              by_cases hhi : 57 < x.toNat
              · have hd2 : decide ((57 : Int) < (x.toNat : Int)) = true := decide_eq_true (by omega)
                have HV := hidI (HN.out (by unfold dgB; rw [decide_eq_false (by omega : ¬ x.toNat ≤ 57)]; exact Bool.and_false _))
                clear hlo hhi
                go_upto_region 7 with (fail)
                go_step
                refine r_val (.string s) rfl rfl ?_
                simp only [Act.put, List.setIfInBounds_toArray, List.set_cons_succ, List.set_cons_zero]
                refine r_val (.int .i64 i) rfl rfl ?_
                simp only [Act.put, List.setIfInBounds_toArray, List.set_cons_succ, List.set_cons_zero]
                refine r_val (.int .u8 x.toNat) (e_val _ _ (hixi _)) rfl ?_
                simp only [Act.put, List.setIfInBounds_toArray, List.set_cons_succ, List.set_cons_zero]
                refine r_val (.bool false) (e_lssR _ _ _ _ false rfl rfl hd1) rfl ?_
                simp only [Act.put, List.setIfInBounds_toArray, List.set_cons_succ, List.set_cons_zero]
                refine r_val (.bool false) rfl rfl ?_
                simp only [Act.put, List.setIfInBounds_toArray, List.set_cons_succ, List.set_cons_zero]
                refine r_val (.string s) rfl rfl ?_
                simp only [Act.put, List.setIfInBounds_toArray, List.set_cons_succ, List.set_cons_zero]
                refine r_val (.int .i64 i) rfl rfl ?_
                simp only [Act.put, List.setIfInBounds_toArray, List.set_cons_succ, List.set_cons_zero]
                refine r_val (.int .u8 x.toNat) (e_val _ _ (hixi _)) rfl ?_
                simp only [Act.put, List.setIfInBounds_toArray, List.set_cons_succ, List.set_cons_zero]
                refine r_val (.bool true) (e_gtrR _ _ _ _ true rfl rfl hd2) rfl ?_
                simp only [Act.put, List.setIfInBounds_toArray, List.set_cons_succ, List.set_cons_zero]
                refine r_val (.bool true) rfl rfl ?_
                simp only [Act.put, List.setIfInBounds_toArray, List.set_cons_succ, List.set_cons_zero]
                go_wp2
                go_ret
                exact ⟨ret_int HV.out.symm, gg⟩
              · have hd2 : decide ((57 : Int) < (x.toNat : Int)) = false := decide_eq_false (by omega)
                have HD2 := hidI (HDN.out (by unfold dgB; rw [decide_eq_true (by omega : 48 ≤ x.toNat), decide_eq_true (by omega : x.toNat ≤ 57)]; rfl))
                have HV := hidI (show vl (d.take (i + 1)) = 10 * V + (x.toNat - 48) from by rw [HVN.out, HVV.out])
                go_upto_region 7 with (fail)
                go_step
                refine r_val (.string s) rfl rfl ?_
                simp only [Act.put, List.setIfInBounds_toArray, List.set_cons_succ, List.set_cons_zero]
                refine r_val (.int .i64 i) rfl rfl ?_
                simp only [Act.put, List.setIfInBounds_toArray, List.set_cons_succ, List.set_cons_zero]
                refine r_val (.int .u8 x.toNat) (e_val _ _ (hixi _)) rfl ?_
                simp only [Act.put, List.setIfInBounds_toArray, List.set_cons_succ, List.set_cons_zero]
                refine r_val (.bool false) (e_lssR _ _ _ _ false rfl rfl hd1) rfl ?_
                simp only [Act.put, List.setIfInBounds_toArray, List.set_cons_succ, List.set_cons_zero]
                refine r_val (.bool false) rfl rfl ?_
                simp only [Act.put, List.setIfInBounds_toArray, List.set_cons_succ, List.set_cons_zero]
                refine r_val (.string s) rfl rfl ?_
                simp only [Act.put, List.setIfInBounds_toArray, List.set_cons_succ, List.set_cons_zero]
                refine r_val (.int .i64 i) rfl rfl ?_
                simp only [Act.put, List.setIfInBounds_toArray, List.set_cons_succ, List.set_cons_zero]
                refine r_val (.int .u8 x.toNat) (e_val _ _ (hixi _)) rfl ?_
                simp only [Act.put, List.setIfInBounds_toArray, List.set_cons_succ, List.set_cons_zero]
                refine r_val (.bool false) (e_gtrR _ _ _ _ false rfl rfl hd2) rfl ?_
                simp only [Act.put, List.setIfInBounds_toArray, List.set_cons_succ, List.set_cons_zero]
                refine r_val (.bool false) rfl rfl ?_
                simp only [Act.put, List.setIfInBounds_toArray, List.set_cons_succ, List.set_cons_zero]
                go_wp2_with (first | (refine r_val (.int .u8 x.toNat) (e_val _ _ (hixi _)) rfl ?_))
                go_roundw
                case rel => exact ⟨i + 1, 10 * V + (x.toNat - 48), by go_num, by go_num, hlt, HV, HD2, gg⟩
                case measure => simp [natR]; omega
          · obtain rfl : i = s.size := by omega
            have HV := hidI (show rdZ d = (V : Int) from by rw [HYES.out ⟨h1, h6⟩ HB.out HD.out, ← HVA.out, HVV.out])
            clear hlt
            go_wp2
            go_ret
            exact ⟨ret_int HV.out.symm, gg⟩
      · have hd0 : decide ((x0.toNat : Int) = 48) = false := decide_eq_false (fun e => hz (UInt8.toNat_inj.1 (by show _ = 48; omega)))
        clear hb hz
        go_enter Tryd.func20, Tryd.ntmps20
        go_upto_region 1 with (fail)
        go_step
        refine r_val (.string s) rfl rfl ?_
        simp only [Act.put, List.setIfInBounds_toArray, List.set_cons_succ, List.set_cons_zero]
        refine r_val (.int .i64 s.size) (e_lenT _ _ s rfl Tryd.underlying9) rfl ?_
        simp only [Act.put, List.setIfInBounds_toArray, List.set_cons_succ, List.set_cons_zero]
        refine r_call 38 [.tmp 6, .const (.int .i64 1), .const (.int .i64 6)] _ [.int .i64 s.size, .int .i64 1, .int .i64 6] (.bool true) (fun w' => w = w') Tryd.call38 rfl rfl (HL1.out _) ?_
        rintro _ rfl
        simp only [Act.put, List.setIfInBounds_toArray, List.set_cons_succ, List.set_cons_zero]
        refine r_val (.bool false) rfl rfl ?_
        simp only [Act.put, List.setIfInBounds_toArray, List.set_cons_succ, List.set_cons_zero]
        refine r_val (.bool false) rfl rfl ?_
        simp only [Act.put, List.setIfInBounds_toArray, List.set_cons_succ, List.set_cons_zero]
        refine r_val (.string s) rfl rfl ?_
        simp only [Act.put, List.setIfInBounds_toArray, List.set_cons_succ, List.set_cons_zero]
        refine r_val (.int .u8 x0.toNat) (e_val _ _ (hix0 _)) rfl ?_
        simp only [Act.put, List.setIfInBounds_toArray, List.set_cons_succ, List.set_cons_zero]
        refine r_val (.bool false) (e_eqB _ _ _ _ false rfl rfl hd0) rfl ?_
        simp only [Act.put, List.setIfInBounds_toArray, List.set_cons_succ, List.set_cons_zero]
        refine r_val (.bool false) rfl rfl ?_
        simp only [Act.put, List.setIfInBounds_toArray, List.set_cons_succ, List.set_cons_zero]
        subst hsz
        go_wp2
        go_loopw [3, 4] (fun xv iv wr => ∃ i V : Nat, iv = .int .i64 i ∧ xv = .int .i64 V ∧ i ≤ s.size ∧ Hid (vl (d.take i) = V) ∧ Hid (∀ j, j < i → dgB (d.getD j 0) = true) ∧ Gr w wr) (fun _ iv _ => s.size - natR iv)
        case atStart => exact ⟨0, 0, rfl, rfl, Nat.zero_le _, hidI rfl, hidI (fun j hj => absurd hj (Nat.not_lt_zero _)), gg⟩
        case round =>
          clear gg
          obtain ⟨i, V, rfl, rfl, hin, HVV, HD, gg⟩ := hrel
          by_cases hlt : i < s.size
          · have hixi := HIX.out i hlt
            have hvb : V < 1000000 := by rw [← HVV.out]; exact HVB.out i hin h6 HD.out
            have HVN := hidI (HVT.out i hlt)
            have HN := hidI (HNO3.out i hlt)
            have HDN := hidI (show dgB (d.getD i 0) = true → ∀ j, j < i + 1 → dgB (d.getD j 0) = true from fun h j hj => by
              by_cases e : j = i
              · rw [e]; exact h
              · exact HD.out j (by omega))
            obtain ⟨x, hx⟩ : ∃ x, x = d.getD i 0 := ⟨_, rfl⟩
            rw [← hx] at hixi HVN HN HDN
            clear hx
            by_cases hlo : x.toNat < 48
            · have hd1 : decide ((x.toNat : Int) < 48) = true := decide_eq_true (by omega)
              have HV := hidI (HN.out (by unfold dgB; rw [decide_eq_false (by omega : ¬ 48 ≤ x.toNat)]; rfl))
              clear hlo
              go_upto_region 7 with (fail)
              go_step
              refine r_val (.string s) rfl rfl ?_
              simp only [Act.put, List.setIfInBounds_toArray, List.set_cons_succ, List.set_cons_zero]
              refine r_val (.int .i64 i) rfl rfl ?_
              simp only [Act.put, List.setIfInBounds_toArray, List.set_cons_succ, List.set_cons_zero]
              refine r_val (.int .u8 x.toNat) (e_val _ _ (hixi _)) rfl ?_
              simp only [Act.put, List.setIfInBounds_toArray, List.set_cons_succ, List.set_cons_zero]
              refine r_val (.bool true) (e_lssR _ _ _ _ true rfl rfl hd1) rfl ?_
              simp only [Act.put, List.setIfInBounds_toArray, List.set_cons_succ, List.set_cons_zero]
              refine r_val (.bool true) rfl rfl ?_
              simp only [Act.put, List.setIfInBounds_toArray, List.set_cons_succ, List.set_cons_zero]
              go_wp2
              go_ret
              exact ⟨ret_int HV.out.symm, gg⟩
            · have hd1 : decide ((x.toNat : Int) < 48) = false := decide_eq_false (by omega)
              by_cases hhi : 57 < x.toNat
              · have hd2 : decide ((57 : Int) < (x.toNat : Int)) = true := decide_eq_true (by omega)
                have HV := hidI (HN.out (by unfold dgB; rw [decide_eq_false (by omega : ¬ x.toNat ≤ 57)]; exact Bool.and_false _))
                clear hlo hhi
                go_upto_region 7 with (fail)
                go_step
                refine r_val (.string s) rfl rfl ?_
                simp only [Act.put, List.setIfInBounds_toArray, List.set_cons_succ, List.set_cons_zero]
                refine r_val (.int .i64 i) rfl rfl ?_
                simp only [Act.put, List.setIfInBounds_toArray, List.set_cons_succ, List.set_cons_zero]
                refine r_val (.int .u8 x.toNat) (e_val _ _ (hixi _)) rfl ?_
                simp only [Act.put, List.setIfInBounds_toArray, List.set_cons_succ, List.set_cons_zero]
                refine r_val (.bool false) (e_lssR _ _ _ _ false rfl rfl hd1) rfl ?_
                simp only [Act.put, List.setIfInBounds_toArray, List.set_cons_succ, List.set_cons_zero]
                refine r_val (.bool false) rfl rfl ?_
                simp only [Act.put, List.setIfInBounds_toArray, List.set_cons_succ, List.set_cons_zero]
                refine r_val (.string s) rfl rfl ?_
                simp only [Act.put, List.setIfInBounds_toArray, List.set_cons_succ, List.set_cons_zero]
                refine r_val (.int .i64 i) rfl rfl ?_
                simp only [Act.put, List.setIfInBounds_toArray, List.set_cons_succ, List.set_cons_zero]
                refine r_val (.int .u8 x.toNat) (e_val _ _ (hixi _)) rfl ?_
                simp only [Act.put, List.setIfInBounds_toArray, List.set_cons_succ, List.set_cons_zero]
                refine r_val (.bool true) (e_gtrR _ _ _ _ true rfl rfl hd2) rfl ?_
                simp only [Act.put, List.setIfInBounds_toArray, List.set_cons_succ, List.set_cons_zero]
                refine r_val (.bool true) rfl rfl ?_
                simp only [Act.put, List.setIfInBounds_toArray, List.set_cons_succ, List.set_cons_zero]
                go_wp2
                go_ret
                exact ⟨ret_int HV.out.symm, gg⟩
              · have hd2 : decide ((57 : Int) < (x.toNat : Int)) = false := decide_eq_false (by omega)
                have HD2 := hidI (HDN.out (by unfold dgB; rw [decide_eq_true (by omega : 48 ≤ x.toNat), decide_eq_true (by omega : x.toNat ≤ 57)]; rfl))
                have HV := hidI (show vl (d.take (i + 1)) = 10 * V + (x.toNat - 48) from by rw [HVN.out, HVV.out])
                go_upto_region 7 with (fail)
                go_step
                refine r_val (.string s) rfl rfl ?_
                simp only [Act.put, List.setIfInBounds_toArray, List.set_cons_succ, List.set_cons_zero]
                refine r_val (.int .i64 i) rfl rfl ?_
                simp only [Act.put, List.setIfInBounds_toArray, List.set_cons_succ, List.set_cons_zero]
                refine r_val (.int .u8 x.toNat) (e_val _ _ (hixi _)) rfl ?_
                simp only [Act.put, List.setIfInBounds_toArray, List.set_cons_succ, List.set_cons_zero]
                refine r_val (.bool false) (e_lssR _ _ _ _ false rfl rfl hd1) rfl ?_
                simp only [Act.put, List.setIfInBounds_toArray, List.set_cons_succ, List.set_cons_zero]
                refine r_val (.bool false) rfl rfl ?_
                simp only [Act.put, List.setIfInBounds_toArray, List.set_cons_succ, List.set_cons_zero]
                refine r_val (.string s) rfl rfl ?_
                simp only [Act.put, List.setIfInBounds_toArray, List.set_cons_succ, List.set_cons_zero]
                refine r_val (.int .i64 i) rfl rfl ?_
                simp only [Act.put, List.setIfInBounds_toArray, List.set_cons_succ, List.set_cons_zero]
                refine r_val (.int .u8 x.toNat) (e_val _ _ (hixi _)) rfl ?_
                simp only [Act.put, List.setIfInBounds_toArray, List.set_cons_succ, List.set_cons_zero]
                refine r_val (.bool false) (e_gtrR _ _ _ _ false rfl rfl hd2) rfl ?_
                simp only [Act.put, List.setIfInBounds_toArray, List.set_cons_succ, List.set_cons_zero]
                refine r_val (.bool false) rfl rfl ?_
                simp only [Act.put, List.setIfInBounds_toArray, List.set_cons_succ, List.set_cons_zero]
                go_wp2_with (first | (refine r_val (.int .u8 x.toNat) (e_val _ _ (hixi _)) rfl ?_))
                go_roundw
                case rel => exact ⟨i + 1, 10 * V + (x.toNat - 48), by go_num, by go_num, hlt, HV, HD2, gg⟩
                case measure => simp [natR]; omega
          · obtain rfl : i = s.size := by omega
            have HV := hidI (show rdZ d = (V : Int) from by rw [HYES.out ⟨h1, h6⟩ HB.out HD.out, ← HVA.out, HVV.out])
            clear hlt
            go_wp2
            go_ret
            exact ⟨ret_int HV.out.symm, gg⟩
  · have HV := hidI (HNO1.out hr)
    have e0 : (decide (1 ≤ n) && decide (n ≤ 6)) = false := by
      rw [Bool.and_eq_false_iff, decide_eq_false_iff_not, decide_eq_false_iff_not]
      omega
    have HL1 := hidI (HLB.out false e0)
    clear hr e0
    go_enter Tryd.func20, Tryd.ntmps20
    go_upto_region 1 with (fail)
    go_step
    refine r_val (.string s) rfl rfl ?_
    simp only [Act.put, List.setIfInBounds_toArray, List.set_cons_succ, List.set_cons_zero]
    refine r_val (.int .i64 s.size) (e_lenT _ _ s rfl Tryd.underlying9) rfl ?_
    simp only [Act.put, List.setIfInBounds_toArray, List.set_cons_succ, List.set_cons_zero]
    refine r_call 38 [.tmp 6, .const (.int .i64 1), .const (.int .i64 6)] _ [.int .i64 s.size, .int .i64 1, .int .i64 6] (.bool false) (fun w' => w = w') Tryd.call38 rfl rfl (HL1.out _) ?_
    rintro _ rfl
    simp only [Act.put, List.setIfInBounds_toArray, List.set_cons_succ, List.set_cons_zero]
    refine r_val (.bool true) rfl rfl ?_
    simp only [Act.put, List.setIfInBounds_toArray, List.set_cons_succ, List.set_cons_zero]
    refine r_val (.bool true) rfl rfl ?_
    simp only [Act.put, List.setIfInBounds_toArray, List.set_cons_succ, List.set_cons_zero]
    go_wp2
    go_ret
    exact ⟨ret_int HV.out.symm, gg⟩
end Go.Proofs.YtpdmfbhjneodeaaDoor
namespace Go.Proofs.YtpdmfbhjneodeaaDoor
open Go.RowKit
def ppA (l : List UInt8) : Array Value := match ppL l with
  | none => pv ByteArray.empty ByteArray.empty 0
  | some (p, n, k) => pv ⟨p.toArray⟩ ⟨n.toArray⟩ k
theorem ppA_no {l : List UInt8} (h : ppL l = none) : pv ByteArray.empty ByteArray.empty 0 = ppA l ∧ false = (ppL l).isSome := by unfold ppA; rw [h]; exact ⟨rfl, rfl⟩
theorem ppA_yes {l p n : List UInt8} {k : Nat} (h : ppL l = some (p, n, k)) : pv ⟨p.toArray⟩ ⟨n.toArray⟩ k = ppA l ∧ true = (ppL l).isSome := by unfold ppA; rw [h]; exact ⟨rfl, rfl⟩
theorem ppA_mod {l p n d : List UInt8} (h : piB 58 l = [p, n, d]) (b : Bool) (hb : (pzS p ⟨n.toArray⟩ (rdZ d)).isSome = b) : (if b = true then pv ⟨p.toArray⟩ ⟨n.toArray⟩ (rdZ d) else pv ByteArray.empty ByteArray.empty 0) = ppA l ∧ b = (ppL l).isSome := by
  have hm := ppL_model h
  cases b with
  | false =>
    rw [hb] at hm
    exact ppA_no hm
  | true =>
    obtain ⟨k, hk, -⟩ := pz_lt hb
    rw [hb, hk] at hm
    rw [hk]
    exact ppA_yes hm
theorem piB3 {l : List (List UInt8)} (h : l.length = 3) : ∃ p n d, l = [p, n, d] := by
  match l, h with
  | [p, n, d], _ => exact ⟨p, n, d, rfl⟩
theorem txt_l (s : ByteArray) : (⟨s.data.toList.toArray⟩ : ByteArray) = s := by
  apply ByteArray.ext
  simp
theorem own_three {w : World} {base : Nat} {e : TypeId} {v : Value} {p n d : List UInt8} (h : w.ownsRow base e 1 v 3 (strV [p, n, d])) : ∃ G cap, v = .slice (some ⟨G, 0, none⟩) 3 cap ∧ base ≤ G ∧ w.cell? ⟨G, 0, none⟩ = some (tx p) ∧ w.cell? ⟨G, 1, none⟩ = some (tx n) ∧ w.cell? ⟨G, 2, none⟩ = some (tx d) := by
  obtain ⟨G, cap, rfl, hb, -⟩ := own_shape h (by decide)
  exact ⟨G, cap, rfl, hb, own_val h 0 _ (by decide) rfl, own_val h 1 _ (by decide) rfl, own_val h 2 _ (by decide) rfl⟩
theorem own_slS {w : World} {base n : Nat} {e : TypeId} {v : Value} {xs : List Value} (h : w.ownsRow base e 1 v n xs) : ∃ p k, v = .slice p n k := by
  obtain ⟨p, m, k, rfl⟩ := own_slice h
  obtain rfl : m = n := own_len h
  exact ⟨p, k, rfl⟩
theorem e_idxS {P : Program} {w : World} {a : Act} {dst : Option Tmp} {ty T : TypeId} {pos : String} {aft : Array Edge} {gd : Option (Nat × Bool)} (x y : Operand) (v i u : Value) (hx : a.eval x = v) (hy : a.eval y = i) (hr : (Instr.indexAt T v i).run P w = .ok u w) :
    (execOp a.eval ⟨dst, .indexAddr T x y, ty, pos, aft, gd⟩).run P w = .ok (.value u) w := by
  unfold execOp
  simp only [hx, hy, Sem.run_bind, hr, Result.andThen_ok, Sem.run_pure]
theorem Tryd.stxS (B n cap x : Nat) (hx : x < n) (w : World) : (Instr.indexAt 35 (.slice (some ⟨B, 0, none⟩) n cap) (.int .i64 x)).run Tryd.prog w = .ok (.pointer (some ⟨B, x, none⟩)) w := by
  have hu : Tryd.prog.underlying 35 = some (.slice (Tryd.prog.elem 35)) := by kernel_rfl
  have he : Tryd.prog.elem 35 = 9 := by kernel_rfl
  rw [run_indexAt_slice w 35 ⟨B, 0, none⟩ n cap .i64 x hu, if_pos (by omega), he]
  simp [Tryd.sizeOf9, Result.andThen, Addr.add]
  exact fun h => h.symm
theorem ret_hp {a a' : Array Value} {b b' : Bool} (h : a = a') (h2 : b = b') : Ending.returned (.tuple #[.agg a, .bool b]) = .returned (.tuple #[.agg a', .bool b']) := by rw [h, h2]
set_option maxHeartbeats 2000000 in
set_option maxRecDepth 100000 in
theorem puParse_any (s : ByteArray) (w : World) : Calls Tryd.prog 13 #[.string s] w (Ret (.tuple #[.agg (ppA s.data.toList), .bool (ppL s.data.toList).isSome]) w) := by
  have gg := Gr.refl w
  obtain ⟨l, hl⟩ : ∃ l, l = s.data.toList := ⟨_, rfl⟩
  have hsz : s.size = l.length := by rw [hl]; simp
  have hst : (⟨l.toArray⟩ : ByteArray) = s := hl ▸ txt_l s
  rw [← hl]
  by_cases h60 : 60 < s.size
  · have HV := hidI (ppA_no (ppL_long (by rw [← hsz]; exact h60)))
    clear hst hsz hl
    go_enter Tryd.func13, Tryd.ntmps13
    go_wp2_with (first | (refine r_alloc (dst := some 2) 23 _ Tryd.ipzero rfl ?_; intro w1 B1 N1; have g1 := N1.gr; have b1 : Blk w1 B1 (pv ByteArray.empty ByteArray.empty 0) 23 := N1.blk; have l1 := N1.lo; have t1 := N1.hi; have z1 := g1.size; have gg := gg.trans g1; clear N1; obtain ⟨b1_0, b1_1, b1_2⟩ := pcells b1) | (refine r_build 23 [] [] _ (Tryd.ipbuild0 _) rfl rfl ?_) | (refine r_store_row 23 23 _ _ _ rfl (pv (_) (_) (_)) _ rfl b1 Tryd.ipsize rfl (pv_one _ _ _) rfl ?_; intro w2 u2 b1'; have z2 := u2.size; have gg := u2.gr gg (by omega); clear b1; have b1 := b1'; clear b1'; obtain ⟨b1_0, b1_1, b1_2⟩ := pcells b1))
    refine bodyPost_ret (results_row_bool rfl _ _ _ _ _ _ rfl b1 Tryd.underlying23 rfl Tryd.ipinfo) rfl ?_
    exact ⟨ret_hp HV.out.1 HV.out.2, gg⟩
  · have HS := hidI (fun w' => show Calls Tryd.prog 19 #[.string s, .int .u8 58] w' _ from hst ▸ l1Split_any l 58 w' (by omega))
    have h60' : s.size ≤ 60 := by omega
    by_cases h3 : (piB 58 l).length = 3
    · obtain ⟨p, n, d, h⟩ := piB3 h3
      have hpl : p.length ≤ 60 := by have := piB_len 58 l p (by rw [h]; simp); omega
      have hdl : d.length ≤ 60 := by have := piB_len 58 l d (by rw [h]; simp); omega
      obtain ⟨OK, hOK⟩ : ∃ OK, (pzS p ⟨n.toArray⟩ (rdZ d)).isSome = OK := ⟨_, rfl⟩
      have HV := hidI (ppA_mod h OK hOK)
      have HRD := hidI (fun w' => l1Read_any d w' hdl)
      have HG := hidI (fun w' => show Calls Tryd.prog 27 #[.agg (pv ⟨p.toArray⟩ ⟨n.toArray⟩ (rdZ d))] w' (Ret (.bool OK) w') from hOK ▸ puGood_any ⟨p.toArray⟩ ⟨n.toArray⟩ (rdZ d) w' (by show p.toArray.size ≤ _; rw [List.size_toArray]; omega))
      have HO3 := hidI (fun (w' : World) (b : Nat) (v : Value) (ho : w'.ownsRow b 9 1 v (piB 58 l).length (strV (piB 58 l))) => own_three (w := w') (base := b) (v := v) (p := p) (n := n) (d := d) (e := 9) (by rw [h] at ho; exact ho))
      obtain ⟨z, hz⟩ : ∃ z, z = rdZ d := ⟨_, rfl⟩
      obtain ⟨P, hP⟩ : ∃ P : ByteArray, P = ⟨p.toArray⟩ := ⟨_, rfl⟩
      obtain ⟨N, hN⟩ : ∃ N : ByteArray, N = ⟨n.toArray⟩ := ⟨_, rfl⟩
      obtain ⟨D, hD⟩ : ∃ D : ByteArray, D = ⟨d.toArray⟩ := ⟨_, rfl⟩
      unfold tx at HO3
      rw [← hP, ← hN, ← hD] at HO3
      rw [← hz, ← hP, ← hN] at HV HG
      rw [← hz, ← hD] at HRD
      clear hst hsz hl h3 h hOK hz hP hN hD h60 hpl hdl
      go_enter Tryd.func13, Tryd.ntmps13
      go_wp2_with (first | (refine r_alloc (dst := some 2) 23 _ Tryd.ipzero rfl ?_; intro w1 B1 N1; have g1 := N1.gr; have b1 : Blk w1 B1 (pv ByteArray.empty ByteArray.empty 0) 23 := N1.blk; have l1 := N1.lo; have t1 := N1.hi; have z1 := g1.size; have gg := gg.trans g1; clear N1; obtain ⟨b1_0, b1_1, b1_2⟩ := pcells b1) | (go_at_call 19; refine (HS.out _).mono ?_; rintro e w2 ⟨g2, v, rfl, hown⟩; have b1 := g2.blk b1; have z2 := g2.size; have gg := gg.trans g2; obtain ⟨G, cap, rfl, hbG, c0, c1, c2⟩ := HO3.out _ _ _ hown))
      have gd := (Gr.refl w2).drew
      have zd := gd.size
      have b1 := gd.blk b1
      have c0 := gd.cell c0
      have c1 := gd.cell c1
      have c2 := gd.cell c2
      have gg := gg.trans gd
      refine F_begin (fun w => (w.cell? ⟨G, 0, none⟩ = some (.string P) ∧ w.cell? ⟨G, 1, none⟩ = some (.string N) ∧ w.cell? ⟨G, 2, none⟩ = some (.string D))) 12 13 #[false, false, false, false, false, false, false, false, false, false, false, false, false] rfl (by kernel_rfl) (by kernel_rfl) ?_
      generalize w2.drew = wd at *
      refine F_free (v := .slice (some ⟨G, 0, Option.none⟩) 3 cap) 0 #[true, false, false, false, false, false, false, false, false, false, false, false, false] rfl (by kernel_rfl) (fun _ _ _ h => h) rfl (fun _ => rfl) (⟨c0, c1, c2⟩) ?_; simp only [Act.put, List.setIfInBounds_toArray, List.set_cons_succ, List.set_cons_zero]
      refine F_free (v := .pointer (some ⟨G, 0, Option.none⟩)) 1 #[true, true, false, false, false, false, false, false, false, false, false, false, false] rfl (by kernel_rfl) (fun _ _ _ h => h) rfl (fun _ => e_idxS _ _ _ _ _ rfl rfl (Tryd.stxS G 3 cap 0 (by decide) _)) (⟨c0, c1, c2⟩) ?_; simp only [Act.put, List.setIfInBounds_toArray, List.set_cons_succ, List.set_cons_zero]
      refine F_take (v := .string P) 2 #[true, true, true, false, false, false, false, false, false, false, false, false, false] rfl (by kernel_rfl) (fun _ _ _ h => h) rfl (fun w hF => e_load 9 (.tmp 17) _ _ rfl (Tryd.isAgg9 _) hF.1) (⟨c0, c1, c2⟩) ?_; simp only [Act.put, List.setIfInBounds_toArray, List.set_cons_succ, List.set_cons_zero]
      refine F_free (v := .slice (some ⟨G, 0, Option.none⟩) 3 cap) 3 #[true, true, true, true, false, false, false, false, false, false, false, false, false] rfl (by kernel_rfl) (fun _ _ _ h => h) rfl (fun _ => rfl) (⟨c0, c1, c2⟩) ?_; simp only [Act.put, List.setIfInBounds_toArray, List.set_cons_succ, List.set_cons_zero]
      refine F_free (v := .pointer (some ⟨G, 1, Option.none⟩)) 4 #[true, true, true, true, true, false, false, false, false, false, false, false, false] rfl (by kernel_rfl) (fun _ _ _ h => h) rfl (fun _ => e_idxS _ _ _ _ _ rfl rfl (Tryd.stxS G 3 cap 1 (by decide) _)) (⟨c0, c1, c2⟩) ?_; simp only [Act.put, List.setIfInBounds_toArray, List.set_cons_succ, List.set_cons_zero]
      refine F_take (v := .string N) 5 #[true, true, true, true, true, true, false, false, false, false, false, false, false] rfl (by kernel_rfl) (fun _ _ _ h => h) rfl (fun w hF => e_load 9 (.tmp 20) _ _ rfl (Tryd.isAgg9 _) hF.2.1) (⟨c0, c1, c2⟩) ?_; simp only [Act.put, List.setIfInBounds_toArray, List.set_cons_succ, List.set_cons_zero]
      refine F_free (v := .slice (some ⟨G, 0, Option.none⟩) 3 cap) 6 #[true, true, true, true, true, true, true, false, false, false, false, false, false] rfl (by kernel_rfl) (fun _ _ _ h => h) rfl (fun _ => rfl) (⟨c0, c1, c2⟩) ?_; simp only [Act.put, List.setIfInBounds_toArray, List.set_cons_succ, List.set_cons_zero]
      refine F_free (v := .pointer (some ⟨G, 2, Option.none⟩)) 7 #[true, true, true, true, true, true, true, true, false, false, false, false, false] rfl (by kernel_rfl) (fun _ _ _ h => h) rfl (fun _ => e_idxS _ _ _ _ _ rfl rfl (Tryd.stxS G 3 cap 2 (by decide) _)) (⟨c0, c1, c2⟩) ?_; simp only [Act.put, List.setIfInBounds_toArray, List.set_cons_succ, List.set_cons_zero]
      refine F_take (v := .string D) 8 #[true, true, true, true, true, true, true, true, true, false, false, false, false] rfl (by kernel_rfl) (fun _ _ _ h => h) rfl (fun w hF => e_load 9 (.tmp 23) _ _ rfl (Tryd.isAgg9 _) hF.2.2) (⟨c0, c1, c2⟩) ?_; simp only [Act.put, List.setIfInBounds_toArray, List.set_cons_succ, List.set_cons_zero]
      refine F_two 9 11 #[true, true, true, true, true, true, true, true, true, true, false, false, false] #[true, true, true, true, true, true, true, true, true, false, false, true, false] rfl rfl (by kernel_rfl) ?_ ?_
      · skip
        refine r_call 20 [.tmp 24] _ [.string D] (.int .i64 z) (fun w' => Gr wd w') Tryd.call20 rfl rfl (HRD.out wd) ?_
        intro wc gc
        have b1 := gc.blk b1
        have c0 := gc.cell c0
        have c1 := gc.cell c1
        have c2 := gc.cell c2
        have gg := gg.trans gc
        have zc := gc.size
        refine ⟨fun _ => ⟨c0, c1, c2⟩, ?_⟩
        simp only [Act.put, List.setIfInBounds_toArray, List.set_cons_succ, List.set_cons_zero]
        refine F_free (v := .agg (pv P N z)) 10 #[true, true, true, true, true, true, true, true, true, true, true, false, false] rfl (by kernel_rfl) (fun _ _ _ h => h) rfl (fun _ => e_buildP 23 [(0, .tmp 18), (1, .tmp 21), (2, .tmp 25)] [(0, .string P), (1, .string N), (2, .int .i64 z)] _ (Tryd.ipbuild _ _ _ _) rfl) (⟨c0, c1, c2⟩) ?_
        simp only [Act.put, List.setIfInBounds_toArray, List.set_cons_succ, List.set_cons_zero]
        refine F_one 11 #[true, true, true, true, true, true, true, true, true, true, true, true, false] rfl (by kernel_rfl) ?_
        (refine r_alloc (dst := some 5) 23 _ Tryd.ipzero rfl ?_; intro w5 B5 N5; have g5 := N5.gr; have b5 : Blk w5 B5 (pv ByteArray.empty ByteArray.empty 0) 23 := N5.blk; have l5 := N5.lo; have t5 := N5.hi; have z5 := g5.size; have b1 := g5.blk b1; have gg := gg.trans g5; clear N5; obtain ⟨b5_0, b5_1, b5_2⟩ := pcells b5)
        have c0 := g5.cell c0
        have c1 := g5.cell c1
        have c2 := g5.cell c2
        refine ⟨fun _ => ⟨c0, c1, c2⟩, ?_⟩
        simp only [Act.put, List.setIfInBounds_toArray, List.set_cons_succ, List.set_cons_zero]
        refine F_one 12 #[true, true, true, true, true, true, true, true, true, true, true, true, true] rfl (by kernel_rfl) ?_
        (refine r_store_row 23 23 _ _ _ rfl (pv (P) (N) (z)) _ rfl b5 Tryd.ipsize rfl (pv_one _ _ _) rfl ?_; intro w6 u6 b5'; have z6 := u6.size; have gg := u6.gr gg (by omega); have b1 := u6.blk b1 (by omega); clear b5; have b5 := b5'; clear b5'; obtain ⟨b5_0, b5_1, b5_2⟩ := pcells b5)
        refine ⟨fun h => (by cases h), ?_⟩
        simp only [Act.put]
        refine F_done (by kernel_rfl) ?_
        cases OK with
        | false =>
          go_wp2_with (first | (refine r_load_row 23 _ _ rfl _ _ _ b5 Tryd.underlying23 rfl Tryd.ipinfo rfl ?_) | (go_at_call 27; refine (HG.out _).mono ?_; rintro e w7 ⟨rfl, g7⟩; have z7 := g7.size; have b1 := g7.blk b1; have gg := gg.trans g7) | (refine r_build 23 [] [] _ (Tryd.ipbuild0 _) rfl rfl ?_) | (refine r_store_row 23 23 _ _ _ rfl (pv (_) (_) (_)) _ rfl b1 Tryd.ipsize rfl (pv_one _ _ _) rfl ?_; intro w8 u8 b1'; have z8 := u8.size; have gg := u8.gr gg (by omega); clear b1; have b1 := b1'; clear b1'; obtain ⟨b1_0, b1_1, b1_2⟩ := pcells b1))
          refine bodyPost_ret (results_row_bool rfl _ _ _ _ _ _ rfl b1 Tryd.underlying23 rfl Tryd.ipinfo) rfl ?_
          exact ⟨ret_hp HV.out.1 HV.out.2, gg⟩
        | true =>
          go_wp2_with (first | (refine r_load_row 23 _ _ rfl _ _ _ b5 Tryd.underlying23 rfl Tryd.ipinfo rfl ?_) | (go_at_call 27; refine (HG.out _).mono ?_; rintro e w7 ⟨rfl, g7⟩; have z7 := g7.size; have b1 := g7.blk b1; have b5 := g7.blk b5; have gg := gg.trans g7) | (refine r_store_row 23 23 _ _ _ rfl (pv (P) (N) (z)) _ rfl b1 Tryd.ipsize rfl (pv_one _ _ _) rfl ?_; intro w8 u8 b1'; have z8 := u8.size; have gg := u8.gr gg (by omega); clear b1; have b1 := b1'; clear b1'; obtain ⟨b1_0, b1_1, b1_2⟩ := pcells b1))
          refine bodyPost_ret (results_row_bool rfl _ _ _ _ _ _ rfl b1 Tryd.underlying23 rfl Tryd.ipinfo) rfl ?_
          exact ⟨ret_hp HV.out.1 HV.out.2, gg⟩
      · skip
        (refine r_alloc (dst := some 5) 23 _ Tryd.ipzero rfl ?_; intro w5 B5 N5; have g5 := N5.gr; have b5 : Blk w5 B5 (pv ByteArray.empty ByteArray.empty 0) 23 := N5.blk; have l5 := N5.lo; have t5 := N5.hi; have z5 := g5.size; have b1 := g5.blk b1; have gg := gg.trans g5; clear N5; obtain ⟨b5_0, b5_1, b5_2⟩ := pcells b5)
        have c0 := g5.cell c0
        have c1 := g5.cell c1
        have c2 := g5.cell c2
        refine ⟨fun _ => ⟨c0, c1, c2⟩, ?_⟩
        simp only [Act.put, List.setIfInBounds_toArray, List.set_cons_succ, List.set_cons_zero]
        refine F_one 9 #[true, true, true, true, true, true, true, true, true, true, false, true, false] rfl (by kernel_rfl) ?_
        refine r_call 20 [.tmp 24] _ [.string D] (.int .i64 z) (fun w' => Gr w5 w') Tryd.call20 rfl rfl (HRD.out w5) ?_
        intro wc gc
        have b1 := gc.blk b1
        have c0 := gc.cell c0
        have c1 := gc.cell c1
        have c2 := gc.cell c2
        have gg := gg.trans gc
        have zc := gc.size
        refine ⟨fun _ => ⟨c0, c1, c2⟩, ?_⟩
        simp only [Act.put, List.setIfInBounds_toArray, List.set_cons_succ, List.set_cons_zero]
        have b5 := gc.blk b5
        refine F_free (v := .agg (pv P N z)) 10 #[true, true, true, true, true, true, true, true, true, true, true, true, false] rfl (by kernel_rfl) (fun _ _ _ h => h) rfl (fun _ => e_buildP 23 [(0, .tmp 18), (1, .tmp 21), (2, .tmp 25)] [(0, .string P), (1, .string N), (2, .int .i64 z)] _ (Tryd.ipbuild _ _ _ _) rfl) (⟨c0, c1, c2⟩) ?_
        simp only [Act.put, List.setIfInBounds_toArray, List.set_cons_succ, List.set_cons_zero]
        refine F_one 12 #[true, true, true, true, true, true, true, true, true, true, true, true, true] rfl (by kernel_rfl) ?_
        (refine r_store_row 23 23 _ _ _ rfl (pv (P) (N) (z)) _ rfl b5 Tryd.ipsize rfl (pv_one _ _ _) rfl ?_; intro w6 u6 b5'; have z6 := u6.size; have gg := u6.gr gg (by omega); have b1 := u6.blk b1 (by omega); clear b5; have b5 := b5'; clear b5'; obtain ⟨b5_0, b5_1, b5_2⟩ := pcells b5)
        refine ⟨fun h => (by cases h), ?_⟩
        simp only [Act.put]
        refine F_done (by kernel_rfl) ?_
        cases OK with
        | false =>
          go_wp2_with (first | (refine r_load_row 23 _ _ rfl _ _ _ b5 Tryd.underlying23 rfl Tryd.ipinfo rfl ?_) | (go_at_call 27; refine (HG.out _).mono ?_; rintro e w7 ⟨rfl, g7⟩; have z7 := g7.size; have b1 := g7.blk b1; have gg := gg.trans g7) | (refine r_build 23 [] [] _ (Tryd.ipbuild0 _) rfl rfl ?_) | (refine r_store_row 23 23 _ _ _ rfl (pv (_) (_) (_)) _ rfl b1 Tryd.ipsize rfl (pv_one _ _ _) rfl ?_; intro w8 u8 b1'; have z8 := u8.size; have gg := u8.gr gg (by omega); clear b1; have b1 := b1'; clear b1'; obtain ⟨b1_0, b1_1, b1_2⟩ := pcells b1))
          refine bodyPost_ret (results_row_bool rfl _ _ _ _ _ _ rfl b1 Tryd.underlying23 rfl Tryd.ipinfo) rfl ?_
          exact ⟨ret_hp HV.out.1 HV.out.2, gg⟩
        | true =>
          go_wp2_with (first | (refine r_load_row 23 _ _ rfl _ _ _ b5 Tryd.underlying23 rfl Tryd.ipinfo rfl ?_) | (go_at_call 27; refine (HG.out _).mono ?_; rintro e w7 ⟨rfl, g7⟩; have z7 := g7.size; have b1 := g7.blk b1; have b5 := g7.blk b5; have gg := gg.trans g7) | (refine r_store_row 23 23 _ _ _ rfl (pv (P) (N) (z)) _ rfl b1 Tryd.ipsize rfl (pv_one _ _ _) rfl ?_; intro w8 u8 b1'; have z8 := u8.size; have gg := u8.gr gg (by omega); clear b1; have b1 := b1'; clear b1'; obtain ⟨b1_0, b1_1, b1_2⟩ := pcells b1))
          refine bodyPost_ret (results_row_bool rfl _ _ _ _ _ _ rfl b1 Tryd.underlying23 rfl Tryd.ipinfo) rfl ?_
          exact ⟨ret_hp HV.out.1 HV.out.2, gg⟩
    · have HV := hidI (ppA_no (ppL_len h3))
      obtain ⟨m, hm⟩ : ∃ m, m = (piB 58 l).length := ⟨_, rfl⟩
      rw [← hm] at HS h3
      clear hst hsz hl hm
      go_enter Tryd.func13, Tryd.ntmps13
      go_wp2_with (first | (refine r_alloc (dst := some 2) 23 _ Tryd.ipzero rfl ?_; intro w1 B1 N1; have g1 := N1.gr; have b1 : Blk w1 B1 (pv ByteArray.empty ByteArray.empty 0) 23 := N1.blk; have l1 := N1.lo; have t1 := N1.hi; have z1 := g1.size; have gg := gg.trans g1; clear N1; obtain ⟨b1_0, b1_1, b1_2⟩ := pcells b1) | (go_at_call 19; refine (HS.out _).mono ?_; rintro e w2 ⟨g2, v, rfl, hown⟩; have b1 := g2.blk b1; have z2 := g2.size; have gg := gg.trans g2; obtain ⟨p5, k5, rfl⟩ := own_slS hown) | (refine r_build 23 [] [] _ (Tryd.ipbuild0 _) rfl rfl ?_) | (refine r_store_row 23 23 _ _ _ rfl (pv (_) (_) (_)) _ rfl b1 Tryd.ipsize rfl (pv_one _ _ _) rfl ?_; intro w3 u3 b1'; have z3 := u3.size; have gg := u3.gr gg (by omega); clear b1; have b1 := b1'; clear b1'; obtain ⟨b1_0, b1_1, b1_2⟩ := pcells b1))
      refine bodyPost_ret (results_row_bool rfl _ _ _ _ _ _ rfl b1 Tryd.underlying23 rfl Tryd.ipinfo) rfl ?_
      exact ⟨ret_hp HV.out.1 HV.out.2, gg⟩
end Go.Proofs.YtpdmfbhjneodeaaDoor
namespace Go.Proofs.YtpdmfbhjneodeaaDoor
open Go.RowKit
theorem rows3 {rows : List ByteArray} {p n d : List UInt8} (h : rows.map (·.data.toList) = [p, n, d]) : rows = [⟨p.toArray⟩, ⟨n.toArray⟩, ⟨d.toArray⟩] := by
  match rows, h with
  | [a, b, c], h =>
    simp only [List.map_cons, List.map_nil, List.cons.injEq, and_true] at h
    obtain ⟨rfl, rfl, rfl⟩ := h
    rw [txt_l, txt_l, txt_l]
theorem ppA_prog {l p n d : List UInt8} {x : Int} (h : piB 58 l = [p, n, d]) (hx : ∀ v, Lib.atoiAll d = .ok v → x = v) (g : Grid) (b : UInt8) (k : Nat) (hp : pzS p ⟨n.toArray⟩ x = some (g, b, k)) (v : Bool) (hv : (!decide (ptB ⟨p.toArray⟩ ⟨n.toArray⟩ k = ⟨l.toArray⟩)) = v) :
    (if v = true then pv ByteArray.empty ByteArray.empty 0 else pv ⟨p.toArray⟩ ⟨n.toArray⟩ k) = ppA l ∧ (!v) = (ppL l).isSome := by
  have hm := ppL_prog h hx
  have hk : x = k := (pz_some hp).ze
  subst hk
  rw [hp, Int.toNat_natCast] at hm
  cases v with
  | true =>
    have : ¬ (ptB ⟨p.toArray⟩ ⟨n.toArray⟩ k = ⟨l.toArray⟩) := by simpa using hv
    rw [if_neg (fun hh => this hh.2)] at hm
    exact ppA_no hm
  | false =>
    have : ptB ⟨p.toArray⟩ ⟨n.toArray⟩ k = ⟨l.toArray⟩ := by simpa using hv
    rw [if_pos ⟨rfl, this⟩] at hm
    exact ppA_yes hm
theorem ppA_bad {l p n d : List UInt8} {x : Int} (h : piB 58 l = [p, n, d]) (hx : ∀ v, Lib.atoiAll d = .ok v → x = v) (hp : pzS p ⟨n.toArray⟩ x = none) : pv ByteArray.empty ByteArray.empty 0 = ppA l ∧ false = (ppL l).isSome := by
  have hm := ppL_prog h hx
  rw [hp, if_neg (fun hh => by cases hh.1)] at hm
  exact ppA_no hm
theorem e_neqU {P : Program} {w : World} {a : Act} {dst : Option Tmp} {ty T yt : TypeId} {pos : String} {aft : Array Edge} {gd : Option (Nat × Bool)} (x y : Operand) (s t : ByteArray) (hx : a.eval x = .string s) (hy : a.eval y = .string t) (b : Bool) (hb : (!decide (s = t)) = b) :
    (execOp a.eval ⟨dst, .binOp .neq T x y yt, ty, pos, aft, gd⟩).run P w = .ok (.value (.bool b)) w := by
  subst hb
  unfold execOp
  simp [hx, hy, eqGuard, binOp_string_neq, ← eql_bool]
/-- The two variables of errors that strconv reads hold some error. -/
def EV (w : World) : Prop := ∃ u v, (u = .nilIface ∨ ∃ te pe, u = .iface te pe) ∧ (v = .nilIface ∨ ∃ te pe, v = .iface te pe) ∧ w.cell? ⟨0, 0, none⟩ = some u ∧ w.cell? ⟨1, 0, none⟩ = some v
theorem Gr.ev {w w' : World} (h : Gr w w') (he : EV w) : EV w' := by
  obtain ⟨u, v, hu, hv, c0, c1⟩ := he
  exact ⟨u, v, hu, hv, h.cell c0, h.cell c1⟩
theorem atoi_any (s : ByteArray) (w : World) (hs : s.size ≤ 1048576) (he : EV w) : Calls Tryd.prog 15 #[.string s] w fun e w' => Gr w w' ∧ ∃ x u, e = .returned (.tuple #[.int .i64 x, u]) ∧ ∀ v, Lib.atoiAll s.data.toList = .ok v → x = v := by
  obtain ⟨u, v, hu, hv, c0, c1⟩ := he
  cases ha : Lib.atoiAll s.data.toList with
  | ok n =>
    refine (Tryd.strconv_Atoi_ok s (by omega) n ha w).mono ?_
    rintro e w' ⟨rfl, h⟩
    refine ⟨?_, n, _, rfl, fun v hv => by injection hv⟩
    rcases h with rfl | ⟨t, rfl⟩
    · exact Gr.refl _
    · exact bytesWorld_gr _ _ _
  | «syntax» =>
    refine (Tryd.strconv_Atoi_syntax s (by omega) ha u w c0 hu).mono ?_
    rintro e w' ⟨N, rfl, -, -, h⟩
    exact ⟨h, 0, _, rfl, fun v hv => by cases hv⟩
  | range =>
    refine (Tryd.strconv_Atoi_range s (by omega) ha v w c1 hv).mono ?_
    rintro e w' ⟨N, rfl, -, -, h⟩
    exact ⟨h, _, _, rfl, fun v hv => by cases hv⟩
/-- The pieces of a text. -/
theorem splitC_any (s : ByteArray) (w : World) (hs : s.size ≤ 1048576) (hm : ML w) : Calls Tryd.prog 14 #[.string s, .string ⟨#[58]⟩] w fun e w' => Gr w w' ∧ ∃ B, e = .returned (.slice (some ⟨B, 0, none⟩) (piB 58 s.data.toList).length (piB 58 s.data.toList).length) ∧ w.heap.size ≤ B ∧
    ∀ p n d, piB 58 s.data.toList = [p, n, d] → w'.cell? ⟨B, 0, none⟩ = some (.string ⟨p.toArray⟩) ∧ w'.cell? ⟨B, 1, none⟩ = some (.string ⟨n.toArray⟩) ∧ w'.cell? ⟨B, 2, none⟩ = some (.string ⟨d.toArray⟩) := by
  obtain ⟨m, hm⟩ := hm
  refine (Tryd.strings_Split s ⟨#[58]⟩ m w (by omega) hm (by decide)).mono ?_
  rintro e w' ⟨rfl, rfl⟩
  have h := Lib.splitB_data ⟨#[58]⟩ 0 (Lib.countB s ⟨#[58]⟩) s
  have h2 : (Lib.splitB ⟨#[58]⟩ 0 (Lib.countB s ⟨#[58]⟩) s).map (·.data.toList) = piB 58 s.data.toList := h.trans (splitK_piB _ _)
  refine ⟨(Gr.refl w).alloc _, w.heap.size, by rw [piB_count], Nat.le_refl _, fun p n d hp => ?_⟩
  have h3 := rows3 (h2.trans hp)
  rw [h3]
  have hb : Blk (w.alloc (.cells #[.string ⟨p.toArray⟩, .string ⟨n.toArray⟩, .string ⟨d.toArray⟩] 9)) w.heap.size #[.string ⟨p.toArray⟩, .string ⟨n.toArray⟩, .string ⟨d.toArray⟩] 9 := Own.new w _
  exact ⟨hb.cell 0, hb.cell 1, hb.cell 2⟩
set_option maxHeartbeats 2000000 in
set_option maxRecDepth 100000 in
theorem iParsePuzzle (s : ByteArray) (w : World) (hm : ML w) (he : EV w) (hs : s.size ≤ 1048576) : Calls Tryd.prog 6 #[.string s] w (Ret (.tuple #[.agg (ppA s.data.toList), .bool (ppL s.data.toList).isSome]) w) := by
  have gg := Gr.refl w
  obtain ⟨l, hl⟩ : ∃ l, l = s.data.toList := ⟨_, rfl⟩
  have hsz : s.size = l.length := by rw [hl]; simp
  have hst : (⟨l.toArray⟩ : ByteArray) = s := hl ▸ txt_l s
  have HS := hidI (fun w' (hm : ML w') => hl ▸ splitC_any s w' hs hm)
  rw [← hl]
  by_cases h3 : (piB 58 l).length = 3
  · obtain ⟨p, n, d, h⟩ := piB3 h3
    have hpl : p.length ≤ 1048576 := by have := piB_len 58 l p (by rw [h]; simp); omega
    have hdl : d.length ≤ 1048576 := by have := piB_len 58 l d (by rw [h]; simp); omega
    have HSP := hidI (fun w' (hm : ML w') => show Calls Tryd.prog 14 #[.string s, .string ⟨#[58]⟩] w' fun e w'' => Gr w' w'' ∧ ∃ B, e = .returned (.slice (some ⟨B, 0, none⟩) 3 3) ∧ w'.heap.size ≤ B ∧ (w''.cell? ⟨B, 0, none⟩ = some (.string ⟨p.toArray⟩) ∧ w''.cell? ⟨B, 1, none⟩ = some (.string ⟨n.toArray⟩) ∧ w''.cell? ⟨B, 2, none⟩ = some (.string ⟨d.toArray⟩)) from (HS.out w' hm).mono (by
      rintro e w'' ⟨g1, B, rfl, hb, hc⟩
      exact ⟨g1, B, by rw [h3], hb, hc p n d h⟩))
    clear HS
    have HAT := hidI (fun w' (he : EV w') => atoi_any ⟨d.toArray⟩ w' (by show d.toArray.size ≤ _; rw [List.size_toArray]; exact hdl) he)
    obtain ⟨D, hD⟩ : ∃ D : ByteArray, D = ⟨d.toArray⟩ := ⟨_, rfl⟩
    have HDD := hidI (show D.data.toList = d from by rw [hD])
    rw [← hD] at HSP HAT
    have HP1 := hidI (fun (x : Int) (hx : ∀ v, Lib.atoiAll D.data.toList = .ok v → x = v) => ppA_bad (x := x) h (by rw [HDD.out] at hx; exact hx))
    have HP2 := hidI (fun (x : Int) (hx : ∀ v, Lib.atoiAll D.data.toList = .ok v → x = v) => ppA_prog (x := x) h (by rw [HDD.out] at hx; exact hx))
    have HRP := hidI (fun (x : Int) w' (hm : ML w') => readPuzzle_any ⟨p.toArray⟩ ⟨n.toArray⟩ x w' hm (by show p.toArray.size ≤ _; rw [List.size_toArray]; exact hpl))
    obtain ⟨P, hP⟩ : ∃ P : ByteArray, P = ⟨p.toArray⟩ := ⟨_, rfl⟩
    obtain ⟨N, hN⟩ : ∃ N : ByteArray, N = ⟨n.toArray⟩ := ⟨_, rfl⟩
    have HPL := hidI (show P.data.toList = p from by rw [hP])
    rw [← hP, ← hN] at HSP HRP
    rw [← hP, ← hN, hst] at HP2
    rw [← hN] at HP1
    rw [← HPL.out] at HP1 HP2
    clear hst hsz hl h3 h hP hN hD hpl hdl HDD
    go_enter Tryd.func6, Tryd.ntmps6
    go_wp2_with (first | (refine r_alloc (dst := some 2) 23 _ Tryd.ipzero rfl ?_; intro w1 B1 N1; have g1 := N1.gr; have b1 : Blk w1 B1 (pv ByteArray.empty ByteArray.empty 0) 23 := N1.blk; have l1 := N1.lo; have t1 := N1.hi; have z1 := g1.size; have gg := gg.trans g1; clear N1; obtain ⟨b1_0, b1_1, b1_2⟩ := pcells b1) | (go_at_call 14; refine (HSP.out _ (gg.ml hm)).mono ?_; rintro e w2 ⟨g2, G, rfl, hbG, c0, c1, c2⟩; have b1 := g2.blk b1; have z2 := g2.size; have gg := gg.trans g2) | (refine r_idx 35 _ _ (.slice (some ⟨G, 0, none⟩) 3 3) (.int .i64 2) _ rfl rfl (Tryd.stxS G 3 3 2 (by decide) _) rfl ?_) | (refine r_ldc 9 _ ⟨G, 2, none⟩ (.string D) rfl (Tryd.isAgg9 _) c2 rfl ?_) | (go_at_call 15; refine (HAT.out _ (gg.ev he)).mono ?_; rintro e w4 ⟨g4, x, u, rfl, hx⟩; have HX := hidI hx; clear hx; have b1 := g4.blk b1; have z4 := g4.size; have c0 := g4.cell c0; have c1 := g4.cell c1; have gg := gg.trans g4))
    cases hp : pzS P.data.toList N x with
    | none =>
      have HV := hidI (HP1.out x HX.out hp)
      have HRP := hidI (fun w' hm => show Calls Tryd.prog 16 #[.agg (pv P N x)] w' (Ret (.tuple #[.agg (qv g00 0 0), .bool false]) w') from by have := HRP.out x w' hm; rw [hp] at this; exact this)
      clear hp
      obtain ⟨g, hg⟩ : ∃ g : Grid, g = g00 := ⟨_, rfl⟩
      obtain ⟨b, hb⟩ : ∃ b : UInt8, b = 0 := ⟨_, rfl⟩
      obtain ⟨k, hk⟩ : ∃ k : Nat, k = 0 := ⟨_, rfl⟩
      obtain ⟨OK, hOK⟩ : ∃ OK, OK = false := ⟨_, rfl⟩
      have HRP := hidI (fun w' hm => show Calls Tryd.prog 16 #[.agg (pv P N x)] w' (Ret (.tuple #[.agg (qv g b k), .bool OK]) w') from by rw [hg, hb, hk, hOK]; exact HRP.out w' hm)
      have HO := hidI hOK
      clear hg hb hk hOK
      have gd := (Gr.refl w4).drew
      have zd := gd.size
      have b1 := gd.blk b1
      have c0 := gd.cell c0
      have c1 := gd.cell c1
      have gg := gg.trans gd
      refine F_begin (fun w => (w.cell? ⟨G, 0, none⟩ = some (.string P) ∧ w.cell? ⟨G, 1, none⟩ = some (.string N))) 13 15 #[false, false, false, false, false, false, false, false, false, false, false, false, false, false, false] rfl (by kernel_rfl) (by kernel_rfl) ?_
      generalize w4.drew = wd at *
      refine F_free (v := .slice (some ⟨G, 0, Option.none⟩) 3 3) 0 #[true, false, false, false, false, false, false, false, false, false, false, false, false, false, false] rfl (by kernel_rfl) (fun _ _ _ h => h) rfl (fun _ => rfl) (⟨c0, c1⟩) ?_; simp only [Act.put, List.setIfInBounds_toArray, List.set_cons_succ, List.set_cons_zero]
      refine F_free (v := .pointer (some ⟨G, 0, Option.none⟩)) 1 #[true, true, false, false, false, false, false, false, false, false, false, false, false, false, false] rfl (by kernel_rfl) (fun _ _ _ h => h) rfl (fun _ => e_idxS _ _ _ _ _ rfl rfl (Tryd.stxS G 3 3 0 (by decide) _)) (⟨c0, c1⟩) ?_; simp only [Act.put, List.setIfInBounds_toArray, List.set_cons_succ, List.set_cons_zero]
      refine F_take (v := .string P) 2 #[true, true, true, false, false, false, false, false, false, false, false, false, false, false, false] rfl (by kernel_rfl) (fun _ _ _ h => h) rfl (fun w hF => e_load 9 (.tmp 24) _ _ rfl (Tryd.isAgg9 _) hF.1) (⟨c0, c1⟩) ?_; simp only [Act.put, List.setIfInBounds_toArray, List.set_cons_succ, List.set_cons_zero]
      refine F_free (v := .slice (some ⟨G, 0, Option.none⟩) 3 3) 3 #[true, true, true, true, false, false, false, false, false, false, false, false, false, false, false] rfl (by kernel_rfl) (fun _ _ _ h => h) rfl (fun _ => rfl) (⟨c0, c1⟩) ?_; simp only [Act.put, List.setIfInBounds_toArray, List.set_cons_succ, List.set_cons_zero]
      refine F_free (v := .pointer (some ⟨G, 1, Option.none⟩)) 4 #[true, true, true, true, true, false, false, false, false, false, false, false, false, false, false] rfl (by kernel_rfl) (fun _ _ _ h => h) rfl (fun _ => e_idxS _ _ _ _ _ rfl rfl (Tryd.stxS G 3 3 1 (by decide) _)) (⟨c0, c1⟩) ?_; simp only [Act.put, List.setIfInBounds_toArray, List.set_cons_succ, List.set_cons_zero]
      refine F_take (v := .string N) 5 #[true, true, true, true, true, true, false, false, false, false, false, false, false, false, false] rfl (by kernel_rfl) (fun _ _ _ h => h) rfl (fun w hF => e_load 9 (.tmp 27) _ _ rfl (Tryd.isAgg9 _) hF.2) (⟨c0, c1⟩) ?_; simp only [Act.put, List.setIfInBounds_toArray, List.set_cons_succ, List.set_cons_zero]
      refine F_free (v := .int .i64 x) 6 #[true, true, true, true, true, true, true, false, false, false, false, false, false, false, false] rfl (by kernel_rfl) (fun _ _ _ h => h) rfl (fun _ => rfl) (⟨c0, c1⟩) ?_; simp only [Act.put, List.setIfInBounds_toArray, List.set_cons_succ, List.set_cons_zero]
      refine F_free (v := .agg (pv P N x)) 7 #[true, true, true, true, true, true, true, true, false, false, false, false, false, false, false] rfl (by kernel_rfl) (fun _ _ _ h => h) rfl (fun _ => e_buildP 23 [(0, .tmp 25), (1, .tmp 28), (2, .tmp 29)] [(0, .string P), (1, .string N), (2, .int .i64 x)] _ (Tryd.ipbuild _ _ _ _) rfl) (⟨c0, c1⟩) ?_; simp only [Act.put, List.setIfInBounds_toArray, List.set_cons_succ, List.set_cons_zero]
      refine F_two 8 12 #[true, true, true, true, true, true, true, true, true, false, false, false, false, false, false] #[true, true, true, true, true, true, true, true, false, false, false, false, true, false, false] rfl rfl (by kernel_rfl) ?_ ?_
      · skip
        refine r_call 16 [.tmp 30] _ [.agg (pv P N x)] (.tuple #[.agg (qv g b k), .bool OK]) (fun w' => Gr wd w') Tryd.call16 rfl rfl (HRP.out wd (gg.ml hm)) ?_
        intro wc gc
        have b1 := gc.blk b1
        have c0 := gc.cell c0
        have c1 := gc.cell c1
        have gg := gg.trans gc
        have zc := gc.size
        refine ⟨fun _ => ⟨c0, c1⟩, ?_⟩
        simp only [Act.put, List.setIfInBounds_toArray, List.set_cons_succ, List.set_cons_zero]
        refine F_free (v := .tuple #[.agg (qv g b k), .bool OK]) 9 #[true, true, true, true, true, true, true, true, true, true, false, false, false, false, false] rfl (by kernel_rfl) (fun _ _ _ h => h) rfl (fun _ => by first | rfl | (unfold execOp; simp [go_sem, Act.eval])) (⟨c0, c1⟩) ?_; simp only [Act.put, List.setIfInBounds_toArray, List.set_cons_succ, List.set_cons_zero]
        refine F_free (v := .agg (qv g b k)) 10 #[true, true, true, true, true, true, true, true, true, true, true, false, false, false, false] rfl (by kernel_rfl) (fun _ _ _ h => h) rfl (fun _ => by first | rfl | (unfold execOp; simp [go_sem, Act.eval])) (⟨c0, c1⟩) ?_; simp only [Act.put, List.setIfInBounds_toArray, List.set_cons_succ, List.set_cons_zero]
        refine F_free (v := .bool OK) 11 #[true, true, true, true, true, true, true, true, true, true, true, true, false, false, false] rfl (by kernel_rfl) (fun _ _ _ h => h) rfl (fun _ => by first | rfl | (unfold execOp; simp [go_sem, Act.eval])) (⟨c0, c1⟩) ?_; simp only [Act.put, List.setIfInBounds_toArray, List.set_cons_succ, List.set_cons_zero]
        refine F_one 12 #[true, true, true, true, true, true, true, true, true, true, true, true, true, false, false] rfl (by kernel_rfl) ?_
        (refine r_alloc (dst := some 7) 45 _ Tryd.qzero rfl ?_; intro w7 B7 N7; have g7 := N7.gr; have b7 : Blk w7 B7 (qv g00 0 0) 45 := N7.blk; have l7 := N7.lo; have t7 := N7.hi; have z7 := g7.size; have b1 := g7.blk b1; have gg := gg.trans g7; clear N7)
        have c0 := g7.cell c0
        have c1 := g7.cell c1
        refine ⟨fun _ => ⟨c0, c1⟩, ?_⟩
        simp only [Act.put, List.setIfInBounds_toArray, List.set_cons_succ, List.set_cons_zero]
        refine F_one 13 #[true, true, true, true, true, true, true, true, true, true, true, true, true, true, false] rfl (by kernel_rfl) ?_
        (refine r_store_row 45 45 _ _ _ rfl (qv (g) (b) (k)) _ rfl b7 (Tryd.qsize _ _ _) (by simp only [qv_size]) (qv_one _ _ _) rfl ?_; intro w8 u8 b7'; have z8 := u8.size; have gg := u8.gr gg (by omega); have b1 := u8.blk b1 (by omega); clear b7; have b7 := b7'; clear b7')
        refine ⟨fun h => (by cases h), ?_⟩
        simp only [Act.put]
        refine F_one 14 #[true, true, true, true, true, true, true, true, true, true, true, true, true, true, true] rfl (by kernel_rfl) ?_
        refine r_val (.bool OK) rfl rfl ?_
        refine ⟨fun h => (by cases h), ?_⟩
        simp only [Act.put, List.setIfInBounds_toArray, List.set_cons_succ, List.set_cons_zero]
        refine F_done (by kernel_rfl) ?_
        obtain rfl := HO.out
        go_wp2_with (first | (refine r_build 23 [] [] _ (Tryd.ipbuild0 _) rfl rfl ?_) | (refine r_store_row 23 23 _ _ _ rfl (pv (_) (_) (_)) _ rfl b1 Tryd.ipsize rfl (pv_one _ _ _) rfl ?_; intro w9 u9 b1'; have z9 := u9.size; have gg := u9.gr gg (by omega); clear b1; have b1 := b1'; clear b1'; obtain ⟨b1_0, b1_1, b1_2⟩ := pcells b1))
        refine bodyPost_ret (results_row_bool rfl _ _ _ _ _ _ rfl b1 Tryd.underlying23 rfl Tryd.ipinfo) rfl ?_
        exact ⟨ret_hp HV.out.1 HV.out.2, gg⟩
      · skip
        (refine r_alloc (dst := some 7) 45 _ Tryd.qzero rfl ?_; intro w7 B7 N7; have g7 := N7.gr; have b7 : Blk w7 B7 (qv g00 0 0) 45 := N7.blk; have l7 := N7.lo; have t7 := N7.hi; have z7 := g7.size; have b1 := g7.blk b1; have gg := gg.trans g7; clear N7)
        have c0 := g7.cell c0
        have c1 := g7.cell c1
        refine ⟨fun _ => ⟨c0, c1⟩, ?_⟩
        simp only [Act.put, List.setIfInBounds_toArray, List.set_cons_succ, List.set_cons_zero]
        refine F_one 8 #[true, true, true, true, true, true, true, true, true, false, false, false, true, false, false] rfl (by kernel_rfl) ?_
        refine r_call 16 [.tmp 30] _ [.agg (pv P N x)] (.tuple #[.agg (qv g b k), .bool OK]) (fun w' => Gr w7 w') Tryd.call16 rfl rfl (HRP.out w7 (gg.ml hm)) ?_
        intro wc gc
        have b1 := gc.blk b1
        have c0 := gc.cell c0
        have c1 := gc.cell c1
        have gg := gg.trans gc
        have zc := gc.size
        refine ⟨fun _ => ⟨c0, c1⟩, ?_⟩
        simp only [Act.put, List.setIfInBounds_toArray, List.set_cons_succ, List.set_cons_zero]
        have b7 := gc.blk b7
        refine F_free (v := .tuple #[.agg (qv g b k), .bool OK]) 9 #[true, true, true, true, true, true, true, true, true, true, false, false, true, false, false] rfl (by kernel_rfl) (fun _ _ _ h => h) rfl (fun _ => by first | rfl | (unfold execOp; simp [go_sem, Act.eval])) (⟨c0, c1⟩) ?_; simp only [Act.put, List.setIfInBounds_toArray, List.set_cons_succ, List.set_cons_zero]
        refine F_free (v := .agg (qv g b k)) 10 #[true, true, true, true, true, true, true, true, true, true, true, false, true, false, false] rfl (by kernel_rfl) (fun _ _ _ h => h) rfl (fun _ => by first | rfl | (unfold execOp; simp [go_sem, Act.eval])) (⟨c0, c1⟩) ?_; simp only [Act.put, List.setIfInBounds_toArray, List.set_cons_succ, List.set_cons_zero]
        refine F_free (v := .bool OK) 11 #[true, true, true, true, true, true, true, true, true, true, true, true, true, false, false] rfl (by kernel_rfl) (fun _ _ _ h => h) rfl (fun _ => by first | rfl | (unfold execOp; simp [go_sem, Act.eval])) (⟨c0, c1⟩) ?_; simp only [Act.put, List.setIfInBounds_toArray, List.set_cons_succ, List.set_cons_zero]
        refine F_one 13 #[true, true, true, true, true, true, true, true, true, true, true, true, true, true, false] rfl (by kernel_rfl) ?_
        (refine r_store_row 45 45 _ _ _ rfl (qv (g) (b) (k)) _ rfl b7 (Tryd.qsize _ _ _) (by simp only [qv_size]) (qv_one _ _ _) rfl ?_; intro w8 u8 b7'; have z8 := u8.size; have gg := u8.gr gg (by omega); have b1 := u8.blk b1 (by omega); clear b7; have b7 := b7'; clear b7')
        refine ⟨fun h => (by cases h), ?_⟩
        simp only [Act.put]
        refine F_one 14 #[true, true, true, true, true, true, true, true, true, true, true, true, true, true, true] rfl (by kernel_rfl) ?_
        refine r_val (.bool OK) rfl rfl ?_
        refine ⟨fun h => (by cases h), ?_⟩
        simp only [Act.put, List.setIfInBounds_toArray, List.set_cons_succ, List.set_cons_zero]
        refine F_done (by kernel_rfl) ?_
        obtain rfl := HO.out
        go_wp2_with (first | (refine r_build 23 [] [] _ (Tryd.ipbuild0 _) rfl rfl ?_) | (refine r_store_row 23 23 _ _ _ rfl (pv (_) (_) (_)) _ rfl b1 Tryd.ipsize rfl (pv_one _ _ _) rfl ?_; intro w9 u9 b1'; have z9 := u9.size; have gg := u9.gr gg (by omega); clear b1; have b1 := b1'; clear b1'; obtain ⟨b1_0, b1_1, b1_2⟩ := pcells b1))
        refine bodyPost_ret (results_row_bool rfl _ _ _ _ _ _ rfl b1 Tryd.underlying23 rfl Tryd.ipinfo) rfl ?_
        exact ⟨ret_hp HV.out.1 HV.out.2, gg⟩
    | some y =>
      obtain ⟨g, b, k⟩ := y
      have hz := pz_some hp
      obtain ⟨hc, hw1, hh1, hl⟩ := pz_tray hz
      have w7 := hc.w7
      have h7 := hc.h7
      have n36 := hc.n36
      have hlen := hc.len
      have hk := hz.kl
      have et := txt_of hz.pr
      have h42 := parse_len hz.pr
      have hN1 := hz.n1
      obtain ⟨TX, hTX⟩ : ∃ TX, TX = ptB P N k := ⟨_, rfl⟩
      have HT := hidI (fun w' => show Calls Tryd.prog 17 #[.agg (qv g b k)] w' (Ret (.string TX) w') from by
        have := text_any g b k w' hz.isN (.inl hw1) w7 h7 n36 (by omega) (by rw [← et]; have : P.size = P.data.toList.length := by simp
                                                                             omega)
        rwa [← et, ← hN1, ← hTX] at this)
      have HU := hidI (fun w' => show Calls Tryd.prog 18 #[.agg (qv g b k)] w' (Ret (.agg (pv P N k)) w') from by
        have := puzzle_any g b k w' hz.isN (.inl hw1) w7 h7 n36
        rwa [← et, ← hN1] at this)
      obtain ⟨v, hd⟩ : ∃ v, (!decide (TX = s)) = v := ⟨_, rfl⟩
      have HV := hidI (HP2.out x HX.out g b k hp v (by rw [← hTX]; exact hd))
      obtain ⟨OK, hOK⟩ : ∃ OK, OK = true := ⟨_, rfl⟩
      have HRP := hidI (fun w' hm => show Calls Tryd.prog 16 #[.agg (pv P N x)] w' (Ret (.tuple #[.agg (qv g b k), .bool OK]) w') from by have := HRP.out x w' hm; rw [hp] at this; rw [hOK]; exact this)
      have HO := hidI hOK
      clear hp hz hc hw1 hh1 hl w7 h7 n36 hlen hk et h42 hN1 hTX hOK
      have gd := (Gr.refl w4).drew
      have zd := gd.size
      have b1 := gd.blk b1
      have c0 := gd.cell c0
      have c1 := gd.cell c1
      have gg := gg.trans gd
      refine F_begin (fun w => (w.cell? ⟨G, 0, none⟩ = some (.string P) ∧ w.cell? ⟨G, 1, none⟩ = some (.string N))) 13 15 #[false, false, false, false, false, false, false, false, false, false, false, false, false, false, false] rfl (by kernel_rfl) (by kernel_rfl) ?_
      generalize w4.drew = wd at *
      refine F_free (v := .slice (some ⟨G, 0, Option.none⟩) 3 3) 0 #[true, false, false, false, false, false, false, false, false, false, false, false, false, false, false] rfl (by kernel_rfl) (fun _ _ _ h => h) rfl (fun _ => rfl) (⟨c0, c1⟩) ?_; simp only [Act.put, List.setIfInBounds_toArray, List.set_cons_succ, List.set_cons_zero]
      refine F_free (v := .pointer (some ⟨G, 0, Option.none⟩)) 1 #[true, true, false, false, false, false, false, false, false, false, false, false, false, false, false] rfl (by kernel_rfl) (fun _ _ _ h => h) rfl (fun _ => e_idxS _ _ _ _ _ rfl rfl (Tryd.stxS G 3 3 0 (by decide) _)) (⟨c0, c1⟩) ?_; simp only [Act.put, List.setIfInBounds_toArray, List.set_cons_succ, List.set_cons_zero]
      refine F_take (v := .string P) 2 #[true, true, true, false, false, false, false, false, false, false, false, false, false, false, false] rfl (by kernel_rfl) (fun _ _ _ h => h) rfl (fun w hF => e_load 9 (.tmp 24) _ _ rfl (Tryd.isAgg9 _) hF.1) (⟨c0, c1⟩) ?_; simp only [Act.put, List.setIfInBounds_toArray, List.set_cons_succ, List.set_cons_zero]
      refine F_free (v := .slice (some ⟨G, 0, Option.none⟩) 3 3) 3 #[true, true, true, true, false, false, false, false, false, false, false, false, false, false, false] rfl (by kernel_rfl) (fun _ _ _ h => h) rfl (fun _ => rfl) (⟨c0, c1⟩) ?_; simp only [Act.put, List.setIfInBounds_toArray, List.set_cons_succ, List.set_cons_zero]
      refine F_free (v := .pointer (some ⟨G, 1, Option.none⟩)) 4 #[true, true, true, true, true, false, false, false, false, false, false, false, false, false, false] rfl (by kernel_rfl) (fun _ _ _ h => h) rfl (fun _ => e_idxS _ _ _ _ _ rfl rfl (Tryd.stxS G 3 3 1 (by decide) _)) (⟨c0, c1⟩) ?_; simp only [Act.put, List.setIfInBounds_toArray, List.set_cons_succ, List.set_cons_zero]
      refine F_take (v := .string N) 5 #[true, true, true, true, true, true, false, false, false, false, false, false, false, false, false] rfl (by kernel_rfl) (fun _ _ _ h => h) rfl (fun w hF => e_load 9 (.tmp 27) _ _ rfl (Tryd.isAgg9 _) hF.2) (⟨c0, c1⟩) ?_; simp only [Act.put, List.setIfInBounds_toArray, List.set_cons_succ, List.set_cons_zero]
      refine F_free (v := .int .i64 x) 6 #[true, true, true, true, true, true, true, false, false, false, false, false, false, false, false] rfl (by kernel_rfl) (fun _ _ _ h => h) rfl (fun _ => rfl) (⟨c0, c1⟩) ?_; simp only [Act.put, List.setIfInBounds_toArray, List.set_cons_succ, List.set_cons_zero]
      refine F_free (v := .agg (pv P N x)) 7 #[true, true, true, true, true, true, true, true, false, false, false, false, false, false, false] rfl (by kernel_rfl) (fun _ _ _ h => h) rfl (fun _ => e_buildP 23 [(0, .tmp 25), (1, .tmp 28), (2, .tmp 29)] [(0, .string P), (1, .string N), (2, .int .i64 x)] _ (Tryd.ipbuild _ _ _ _) rfl) (⟨c0, c1⟩) ?_; simp only [Act.put, List.setIfInBounds_toArray, List.set_cons_succ, List.set_cons_zero]
      refine F_two 8 12 #[true, true, true, true, true, true, true, true, true, false, false, false, false, false, false] #[true, true, true, true, true, true, true, true, false, false, false, false, true, false, false] rfl rfl (by kernel_rfl) ?_ ?_
      · skip
        refine r_call 16 [.tmp 30] _ [.agg (pv P N x)] (.tuple #[.agg (qv g b k), .bool OK]) (fun w' => Gr wd w') Tryd.call16 rfl rfl (HRP.out wd (gg.ml hm)) ?_
        intro wc gc
        have b1 := gc.blk b1
        have c0 := gc.cell c0
        have c1 := gc.cell c1
        have gg := gg.trans gc
        have zc := gc.size
        refine ⟨fun _ => ⟨c0, c1⟩, ?_⟩
        simp only [Act.put, List.setIfInBounds_toArray, List.set_cons_succ, List.set_cons_zero]
        refine F_free (v := .tuple #[.agg (qv g b k), .bool OK]) 9 #[true, true, true, true, true, true, true, true, true, true, false, false, false, false, false] rfl (by kernel_rfl) (fun _ _ _ h => h) rfl (fun _ => by first | rfl | (unfold execOp; simp [go_sem, Act.eval])) (⟨c0, c1⟩) ?_; simp only [Act.put, List.setIfInBounds_toArray, List.set_cons_succ, List.set_cons_zero]
        refine F_free (v := .agg (qv g b k)) 10 #[true, true, true, true, true, true, true, true, true, true, true, false, false, false, false] rfl (by kernel_rfl) (fun _ _ _ h => h) rfl (fun _ => by first | rfl | (unfold execOp; simp [go_sem, Act.eval])) (⟨c0, c1⟩) ?_; simp only [Act.put, List.setIfInBounds_toArray, List.set_cons_succ, List.set_cons_zero]
        refine F_free (v := .bool OK) 11 #[true, true, true, true, true, true, true, true, true, true, true, true, false, false, false] rfl (by kernel_rfl) (fun _ _ _ h => h) rfl (fun _ => by first | rfl | (unfold execOp; simp [go_sem, Act.eval])) (⟨c0, c1⟩) ?_; simp only [Act.put, List.setIfInBounds_toArray, List.set_cons_succ, List.set_cons_zero]
        refine F_one 12 #[true, true, true, true, true, true, true, true, true, true, true, true, true, false, false] rfl (by kernel_rfl) ?_
        (refine r_alloc (dst := some 7) 45 _ Tryd.qzero rfl ?_; intro w7 B7 N7; have g7 := N7.gr; have b7 : Blk w7 B7 (qv g00 0 0) 45 := N7.blk; have l7 := N7.lo; have t7 := N7.hi; have z7 := g7.size; have b1 := g7.blk b1; have gg := gg.trans g7; clear N7)
        have c0 := g7.cell c0
        have c1 := g7.cell c1
        refine ⟨fun _ => ⟨c0, c1⟩, ?_⟩
        simp only [Act.put, List.setIfInBounds_toArray, List.set_cons_succ, List.set_cons_zero]
        refine F_one 13 #[true, true, true, true, true, true, true, true, true, true, true, true, true, true, false] rfl (by kernel_rfl) ?_
        (refine r_store_row 45 45 _ _ _ rfl (qv (g) (b) (k)) _ rfl b7 (Tryd.qsize _ _ _) (by simp only [qv_size]) (qv_one _ _ _) rfl ?_; intro w8 u8 b7'; have z8 := u8.size; have gg := u8.gr gg (by omega); have b1 := u8.blk b1 (by omega); clear b7; have b7 := b7'; clear b7')
        refine ⟨fun h => (by cases h), ?_⟩
        simp only [Act.put]
        refine F_one 14 #[true, true, true, true, true, true, true, true, true, true, true, true, true, true, true] rfl (by kernel_rfl) ?_
        refine r_val (.bool OK) rfl rfl ?_
        refine ⟨fun h => (by cases h), ?_⟩
        simp only [Act.put, List.setIfInBounds_toArray, List.set_cons_succ, List.set_cons_zero]
        refine F_done (by kernel_rfl) ?_
        obtain rfl := HO.out
        go_upto_region 6 with (fail)
        go_step
        refine r_val (.bool true) rfl rfl ?_
        simp only [Act.put, List.setIfInBounds_toArray, List.set_cons_succ, List.set_cons_zero]
        refine r_val (.bool false) rfl rfl ?_
        simp only [Act.put, List.setIfInBounds_toArray, List.set_cons_succ, List.set_cons_zero]
        refine r_val (.bool false) rfl rfl ?_
        simp only [Act.put, List.setIfInBounds_toArray, List.set_cons_succ, List.set_cons_zero]
        (refine r_load_row 45 _ _ rfl _ _ _ b7 Tryd.underlying45 rfl (Tryd.qinfo _ _ _) rfl ?_)
        simp only [Act.put, List.setIfInBounds_toArray, List.set_cons_succ, List.set_cons_zero]
        refine r_call 17 [.tmp 37] _ [.agg (qv g b k)] (.string TX) (fun w' => Gr w8 w') Tryd.call17 rfl rfl (HT.out w8) ?_
        intro w9 g9
        have b1 := g9.blk b1
        have b7 := g9.blk b7
        have gg := gg.trans g9
        have z9 := g9.size
        simp only [Act.put, List.setIfInBounds_toArray, List.set_cons_succ, List.set_cons_zero]
        refine r_val (.string s) rfl rfl ?_
        simp only [Act.put, List.setIfInBounds_toArray, List.set_cons_succ, List.set_cons_zero]
        refine r_val (.bool v) (e_neqU _ _ TX s rfl rfl v hd) rfl ?_
        simp only [Act.put, List.setIfInBounds_toArray, List.set_cons_succ, List.set_cons_zero]
        refine r_val (.bool v) rfl rfl ?_
        simp only [Act.put, List.setIfInBounds_toArray, List.set_cons_succ, List.set_cons_zero]
        cases v with
        | true =>
          go_wp2_with (first | (refine r_build 23 [] [] _ (Tryd.ipbuild0 _) rfl rfl ?_) | (refine r_store_row 23 23 _ _ _ rfl (pv (_) (_) (_)) _ rfl b1 Tryd.ipsize rfl (pv_one _ _ _) rfl ?_; intro w10 u10 b1'; have z10 := u10.size; have gg := u10.gr gg (by omega); clear b1; have b1 := b1'; clear b1'; obtain ⟨b1_0, b1_1, b1_2⟩ := pcells b1))
          refine bodyPost_ret (results_row_bool rfl _ _ _ _ _ _ rfl b1 Tryd.underlying23 rfl Tryd.ipinfo) rfl ?_
          exact ⟨ret_hp HV.out.1 HV.out.2, gg⟩
        | false =>
          go_wp2_with (first | (refine r_load_row 45 _ _ rfl _ _ _ b7 Tryd.underlying45 rfl (Tryd.qinfo _ _ _) rfl ?_) | (go_at_call 18; refine (HU.out _).mono ?_; rintro e w10 ⟨rfl, g10⟩; have z10 := g10.size; have b1 := g10.blk b1; have gg := gg.trans g10) | (refine r_store_row 23 23 _ _ _ rfl (pv (P) (N) (k)) _ rfl b1 Tryd.ipsize rfl (pv_one _ _ _) rfl ?_; intro w11 u11 b1'; have z11 := u11.size; have gg := u11.gr gg (by omega); clear b1; have b1 := b1'; clear b1'; obtain ⟨b1_0, b1_1, b1_2⟩ := pcells b1))
          refine bodyPost_ret (results_row_bool rfl _ _ _ _ _ _ rfl b1 Tryd.underlying23 rfl Tryd.ipinfo) rfl ?_
          exact ⟨ret_hp HV.out.1 HV.out.2, gg⟩
      · skip
        (refine r_alloc (dst := some 7) 45 _ Tryd.qzero rfl ?_; intro w7 B7 N7; have g7 := N7.gr; have b7 : Blk w7 B7 (qv g00 0 0) 45 := N7.blk; have l7 := N7.lo; have t7 := N7.hi; have z7 := g7.size; have b1 := g7.blk b1; have gg := gg.trans g7; clear N7)
        have c0 := g7.cell c0
        have c1 := g7.cell c1
        refine ⟨fun _ => ⟨c0, c1⟩, ?_⟩
        simp only [Act.put, List.setIfInBounds_toArray, List.set_cons_succ, List.set_cons_zero]
        refine F_one 8 #[true, true, true, true, true, true, true, true, true, false, false, false, true, false, false] rfl (by kernel_rfl) ?_
        refine r_call 16 [.tmp 30] _ [.agg (pv P N x)] (.tuple #[.agg (qv g b k), .bool OK]) (fun w' => Gr w7 w') Tryd.call16 rfl rfl (HRP.out w7 (gg.ml hm)) ?_
        intro wc gc
        have b1 := gc.blk b1
        have c0 := gc.cell c0
        have c1 := gc.cell c1
        have gg := gg.trans gc
        have zc := gc.size
        refine ⟨fun _ => ⟨c0, c1⟩, ?_⟩
        simp only [Act.put, List.setIfInBounds_toArray, List.set_cons_succ, List.set_cons_zero]
        have b7 := gc.blk b7
        refine F_free (v := .tuple #[.agg (qv g b k), .bool OK]) 9 #[true, true, true, true, true, true, true, true, true, true, false, false, true, false, false] rfl (by kernel_rfl) (fun _ _ _ h => h) rfl (fun _ => by first | rfl | (unfold execOp; simp [go_sem, Act.eval])) (⟨c0, c1⟩) ?_; simp only [Act.put, List.setIfInBounds_toArray, List.set_cons_succ, List.set_cons_zero]
        refine F_free (v := .agg (qv g b k)) 10 #[true, true, true, true, true, true, true, true, true, true, true, false, true, false, false] rfl (by kernel_rfl) (fun _ _ _ h => h) rfl (fun _ => by first | rfl | (unfold execOp; simp [go_sem, Act.eval])) (⟨c0, c1⟩) ?_; simp only [Act.put, List.setIfInBounds_toArray, List.set_cons_succ, List.set_cons_zero]
        refine F_free (v := .bool OK) 11 #[true, true, true, true, true, true, true, true, true, true, true, true, true, false, false] rfl (by kernel_rfl) (fun _ _ _ h => h) rfl (fun _ => by first | rfl | (unfold execOp; simp [go_sem, Act.eval])) (⟨c0, c1⟩) ?_; simp only [Act.put, List.setIfInBounds_toArray, List.set_cons_succ, List.set_cons_zero]
        refine F_one 13 #[true, true, true, true, true, true, true, true, true, true, true, true, true, true, false] rfl (by kernel_rfl) ?_
        (refine r_store_row 45 45 _ _ _ rfl (qv (g) (b) (k)) _ rfl b7 (Tryd.qsize _ _ _) (by simp only [qv_size]) (qv_one _ _ _) rfl ?_; intro w8 u8 b7'; have z8 := u8.size; have gg := u8.gr gg (by omega); have b1 := u8.blk b1 (by omega); clear b7; have b7 := b7'; clear b7')
        refine ⟨fun h => (by cases h), ?_⟩
        simp only [Act.put]
        refine F_one 14 #[true, true, true, true, true, true, true, true, true, true, true, true, true, true, true] rfl (by kernel_rfl) ?_
        refine r_val (.bool OK) rfl rfl ?_
        refine ⟨fun h => (by cases h), ?_⟩
        simp only [Act.put, List.setIfInBounds_toArray, List.set_cons_succ, List.set_cons_zero]
        refine F_done (by kernel_rfl) ?_
        obtain rfl := HO.out
        go_upto_region 6 with (fail)
        go_step
        refine r_val (.bool true) rfl rfl ?_
        simp only [Act.put, List.setIfInBounds_toArray, List.set_cons_succ, List.set_cons_zero]
        refine r_val (.bool false) rfl rfl ?_
        simp only [Act.put, List.setIfInBounds_toArray, List.set_cons_succ, List.set_cons_zero]
        refine r_val (.bool false) rfl rfl ?_
        simp only [Act.put, List.setIfInBounds_toArray, List.set_cons_succ, List.set_cons_zero]
        (refine r_load_row 45 _ _ rfl _ _ _ b7 Tryd.underlying45 rfl (Tryd.qinfo _ _ _) rfl ?_)
        simp only [Act.put, List.setIfInBounds_toArray, List.set_cons_succ, List.set_cons_zero]
        refine r_call 17 [.tmp 37] _ [.agg (qv g b k)] (.string TX) (fun w' => Gr w8 w') Tryd.call17 rfl rfl (HT.out w8) ?_
        intro w9 g9
        have b1 := g9.blk b1
        have b7 := g9.blk b7
        have gg := gg.trans g9
        have z9 := g9.size
        simp only [Act.put, List.setIfInBounds_toArray, List.set_cons_succ, List.set_cons_zero]
        refine r_val (.string s) rfl rfl ?_
        simp only [Act.put, List.setIfInBounds_toArray, List.set_cons_succ, List.set_cons_zero]
        refine r_val (.bool v) (e_neqU _ _ TX s rfl rfl v hd) rfl ?_
        simp only [Act.put, List.setIfInBounds_toArray, List.set_cons_succ, List.set_cons_zero]
        refine r_val (.bool v) rfl rfl ?_
        simp only [Act.put, List.setIfInBounds_toArray, List.set_cons_succ, List.set_cons_zero]
        cases v with
        | true =>
          go_wp2_with (first | (refine r_build 23 [] [] _ (Tryd.ipbuild0 _) rfl rfl ?_) | (refine r_store_row 23 23 _ _ _ rfl (pv (_) (_) (_)) _ rfl b1 Tryd.ipsize rfl (pv_one _ _ _) rfl ?_; intro w10 u10 b1'; have z10 := u10.size; have gg := u10.gr gg (by omega); clear b1; have b1 := b1'; clear b1'; obtain ⟨b1_0, b1_1, b1_2⟩ := pcells b1))
          refine bodyPost_ret (results_row_bool rfl _ _ _ _ _ _ rfl b1 Tryd.underlying23 rfl Tryd.ipinfo) rfl ?_
          exact ⟨ret_hp HV.out.1 HV.out.2, gg⟩
        | false =>
          go_wp2_with (first | (refine r_load_row 45 _ _ rfl _ _ _ b7 Tryd.underlying45 rfl (Tryd.qinfo _ _ _) rfl ?_) | (go_at_call 18; refine (HU.out _).mono ?_; rintro e w10 ⟨rfl, g10⟩; have z10 := g10.size; have b1 := g10.blk b1; have gg := gg.trans g10) | (refine r_store_row 23 23 _ _ _ rfl (pv (P) (N) (k)) _ rfl b1 Tryd.ipsize rfl (pv_one _ _ _) rfl ?_; intro w11 u11 b1'; have z11 := u11.size; have gg := u11.gr gg (by omega); clear b1; have b1 := b1'; clear b1'; obtain ⟨b1_0, b1_1, b1_2⟩ := pcells b1))
          refine bodyPost_ret (results_row_bool rfl _ _ _ _ _ _ rfl b1 Tryd.underlying23 rfl Tryd.ipinfo) rfl ?_
          exact ⟨ret_hp HV.out.1 HV.out.2, gg⟩
  · have HV := hidI (ppA_no (ppL_len h3))
    obtain ⟨m, hm3⟩ : ∃ m, m = (piB 58 l).length := ⟨_, rfl⟩
    rw [← hm3] at HS h3
    clear hst hsz hl hm3
    go_enter Tryd.func6, Tryd.ntmps6
    go_wp2_with (first | (refine r_alloc (dst := some 2) 23 _ Tryd.ipzero rfl ?_; intro w1 B1 N1; have g1 := N1.gr; have b1 : Blk w1 B1 (pv ByteArray.empty ByteArray.empty 0) 23 := N1.blk; have l1 := N1.lo; have t1 := N1.hi; have z1 := g1.size; have gg := gg.trans g1; clear N1; obtain ⟨b1_0, b1_1, b1_2⟩ := pcells b1) | (go_at_call 14; refine (HS.out _ (gg.ml hm)).mono ?_; rintro e w2 ⟨g2, G, rfl, hbG, -⟩; have b1 := g2.blk b1; have gg := gg.trans g2) | (refine r_build 23 [] [] _ (Tryd.ipbuild0 _) rfl rfl ?_) | (refine r_store_row 23 23 _ _ _ rfl (pv (_) (_) (_)) _ rfl b1 Tryd.ipsize rfl (pv_one _ _ _) rfl ?_; intro w3 u3 b1'; have z3 := u3.size; have gg := u3.gr gg (by omega); clear b1; have b1 := b1'; clear b1'; obtain ⟨b1_0, b1_1, b1_2⟩ := pcells b1))
    refine bodyPost_ret (results_row_bool rfl _ _ _ _ _ _ rfl b1 Tryd.underlying23 rfl Tryd.ipinfo) rfl ?_
    exact ⟨ret_hp HV.out.1 HV.out.2, gg⟩
end Go.Proofs.YtpdmfbhjneodeaaDoor
