/-
  The text of a puzzle, read, as plain mathematics: pieces between a byte, numbers below a hundred as texts, what a text must be.
-/
import Derived.Test.YtpdmfbhjneodeaaDoorPuzX
import Derived.Lib.SplitLaws
import Derived.Lib.AtoiAllCases
namespace Go.Proofs.YtpdmfbhjneodeaaDoor
open Go.RowKit
/-- The pieces of a text between the bytes c. -/
def piB (c : UInt8) : List UInt8 → List (List UInt8)
  | [] => [[]]
  | x :: r => if x = c then [] :: piB c r else (x :: (piB c r).headD []) :: (piB c r).tail
theorem piB_ne (c : UInt8) (l : List UInt8) : piB c l ≠ [] := by
  cases l <;> simp [piB]; split <;> simp
theorem splitKB_ne (c b : UInt8) (hb : b ≠ c) (l : List UInt8) (k : Nat) : Lib.splitK [c] 0 k (b :: l) = (b :: (Lib.splitK [c] 0 k l).headD []) :: (Lib.splitK [c] 0 k l).tail := by
  cases k with
  | zero => rfl
  | succ k =>
    have e : Lib.index (b :: l) [c] = if Lib.index l [c] == -1 then -1 else Lib.index l [c] + 1 := by
      rw [Lib.index_one, Lib.index_one]
      rw [Lib.indexByte, if_neg (by simpa using hb)]
    have hge : -1 ≤ Lib.index l [c] := by rw [Lib.index_one]; exact Lib.indexByte_ge _ _
    unfold Lib.splitK
    rw [e]
    by_cases h : Lib.index l [c] = -1
    · simp [h]
    · have h1 : ¬ (Lib.index l [c] == -1) = true := by simpa using h
      rw [if_neg h1, if_neg h1]
      have h2 : ¬ (Lib.index l [c] + 1 == -1) = true := by simp; omega
      rw [if_neg h2]
      obtain ⟨i, hi⟩ : ∃ i : Nat, Lib.index l [c] = i := ⟨(Lib.index l [c]).toNat, by omega⟩
      rw [hi]
      have e3 : ((i : Int) + 1).toNat = i + 1 := by omega
      rw [e3]
      simp
theorem splitK_piB (c : UInt8) (l : List UInt8) : Lib.splitK [c] 0 (Lib.count l [c]) l = piB c l := by
  induction l with
  | nil => rfl
  | cons b l ih =>
    by_cases hb : b = c
    · subst hb
      rw [Lib.count_cons_eq, Nat.add_comm, piB, if_pos rfl]
      have e : Lib.index (b :: l) [b] = 0 := by rw [Lib.index_one, Lib.indexByte, if_pos (beq_self_eq_true b)]
      unfold Lib.splitK
      rw [e, if_neg (by decide)]
      rw [show (b :: l).drop ((0 : Int).toNat + [b].length) = l from rfl, ih]
      rfl
    · rw [Lib.count_cons_ne b c l hb, splitKB_ne c b hb, ih, piB, if_neg hb]
theorem piB_count (c : UInt8) (s : ByteArray) : (piB c s.data.toList).length = Lib.countB s ⟨#[c]⟩ + 1 := by
  show _ = Lib.count s.data.toList [c] + 1
  rw [Lib.count_one]
  induction s.data.toList with
  | nil => rfl
  | cons b l ih =>
    have hp := piB_ne c l
    rw [piB, List.count_cons]
    split
    · rename_i hb; simp [hb, ih]
    · rename_i hb
      rw [if_neg (by simpa using hb)]
      cases h : piB c l with
      | nil => exact absurd h hp
      | cons p q => rw [h] at ih; simpa using ih
/-- Pieces joined again. -/
def joL (c : UInt8) : List (List UInt8) → List UInt8
  | [] => []
  | [x] => x
  | x :: y :: r => x ++ c :: joL c (y :: r)
theorem piB_join (c : UInt8) (l : List UInt8) : joL c (piB c l) = l := by
  induction l with
  | nil => rfl
  | cons x r ih =>
    have hp := piB_ne c r
    unfold piB
    cases h : piB c r with
    | nil => exact absurd h hp
    | cons p q =>
      rw [h] at ih
      split
      · rename_i hx
        subst hx
        show [] ++ x :: joL x (p :: q) = x :: r
        rw [ih]; rfl
      · show joL c ((x :: p) :: q) = x :: r
        cases q with
        | nil => rw [show p = r from ih]; rfl
        | cons y t =>
          show x :: p ++ c :: joL c (y :: t) = x :: r
          rw [← ih]
          rfl
theorem piB_len (c : UInt8) : ∀ l : List UInt8, ∀ p ∈ piB c l, p.length ≤ l.length
  | [], p, h => by simp [piB] at h; subst h; exact Nat.le_refl _
  | x :: r, p, h => by
    have ih := piB_len c r
    unfold piB at h
    split at h
    · rcases List.mem_cons.1 h with rfl | h
      · exact Nat.zero_le _
      · have := ih p h; simp; omega
    · cases hq : piB c r with
      | nil => exact absurd hq (piB_ne c r)
      | cons y t =>
        rw [hq] at h ih
        rcases List.mem_cons.1 h with rfl | h
        · have := ih y List.mem_cons_self; simpa using this
        · have := ih p (List.mem_cons_of_mem _ h); simp; omega
/-! numbers below a hundred -/
def nm2 : List UInt8 → Option Nat
  | [a] => if 48 ≤ a.toNat ∧ a.toNat ≤ 57 then some (a.toNat - 48) else none
  | [a, b] => if 49 ≤ a.toNat ∧ a.toNat ≤ 57 ∧ 48 ≤ b.toNat ∧ b.toNat ≤ 57 then some (10 * (a.toNat - 48) + (b.toNat - 48)) else none
  | _ => none
theorem nm2_1 {a : UInt8} {k : Nat} (h : nm2 [a] = some k) : (48 ≤ a.toNat ∧ a.toNat ≤ 57) ∧ k = a.toNat - 48 := by
  have h' : (if 48 ≤ a.toNat ∧ a.toNat ≤ 57 then some (a.toNat - 48) else none) = some k := h
  by_cases hh : 48 ≤ a.toNat ∧ a.toNat ≤ 57
  · rw [if_pos hh] at h'
    exact ⟨hh, (Option.some.inj h').symm⟩
  · rw [if_neg hh] at h'
    cases h'
theorem nm2_2 {a b : UInt8} {k : Nat} (h : nm2 [a, b] = some k) : (49 ≤ a.toNat ∧ a.toNat ≤ 57 ∧ 48 ≤ b.toNat ∧ b.toNat ≤ 57) ∧ k = 10 * (a.toNat - 48) + (b.toNat - 48) := by
  have h' : (if 49 ≤ a.toNat ∧ a.toNat ≤ 57 ∧ 48 ≤ b.toNat ∧ b.toNat ≤ 57 then some (10 * (a.toNat - 48) + (b.toNat - 48)) else none) = some k := h
  by_cases hh : 49 ≤ a.toNat ∧ a.toNat ≤ 57 ∧ 48 ≤ b.toNat ∧ b.toNat ≤ 57
  · rw [if_pos hh] at h'
    exact ⟨hh, (Option.some.inj h').symm⟩
  · rw [if_neg hh] at h'
    cases h'
theorem nm2_n1 {a : UInt8} (h : nm2 [a] = none) : ¬ (48 ≤ a.toNat ∧ a.toNat ≤ 57) := fun hh => by
  have h' : (if 48 ≤ a.toNat ∧ a.toNat ≤ 57 then some (a.toNat - 48) else none) = none := h
  rw [if_pos hh] at h'
  cases h'
theorem nm2_n2 {a b : UInt8} (h : nm2 [a, b] = none) : ¬ (49 ≤ a.toNat ∧ a.toNat ≤ 57 ∧ 48 ≤ b.toNat ∧ b.toNat ≤ 57) := fun hh => by
  have h' : (if 49 ≤ a.toNat ∧ a.toNat ≤ 57 ∧ 48 ≤ b.toNat ∧ b.toNat ≤ 57 then some (10 * (a.toNat - 48) + (b.toNat - 48)) else none) = none := h
  rw [if_pos hh] at h'
  cases h'
theorem nm2_dec {d : List UInt8} {k : Nat} (h : nm2 d = some k) : k < 100 ∧ d = Lib.decDigits k := by
  match d, h with
  | [a], h =>
    obtain ⟨hh, rfl⟩ := nm2_1 h
    refine ⟨by omega, ?_⟩
    rw [Lib.decDigits_one (by omega), show 48 + (a.toNat - 48) = a.toNat by omega, UInt8.ofNat_toNat]
  | [a, b], h =>
    obtain ⟨hh, rfl⟩ := nm2_2 h
    refine ⟨by omega, ?_⟩
    rw [Lib.decDigits_two (by omega) (by omega), show 48 + (10 * (a.toNat - 48) + (b.toNat - 48)) / 10 = a.toNat by omega, show 48 + (10 * (a.toNat - 48) + (b.toNat - 48)) % 10 = b.toNat by omega, UInt8.ofNat_toNat, UInt8.ofNat_toNat]
theorem dec_nm2 {k : Nat} (h : k < 100) : nm2 (Lib.decDigits k) = some k := by
  by_cases h1 : k < 10
  · rw [Lib.decDigits_one h1]
    exact (by decide : ∀ k, k < 10 → nm2 [UInt8.ofNat (48 + k)] = some k) k h1
  · rw [Lib.decDigits_two h1 h]
    exact (by decide +kernel : ∀ k, k < 100 → ¬ k < 10 → nm2 [UInt8.ofNat (48 + k / 10), UInt8.ofNat (48 + k % 10)] = some k) k h h1
theorem atoi_dec {k : Nat} (h : k < 100) : Lib.atoiAll (Lib.decDigits k) = .ok (k : Int) := by
  have one : ∀ k, k < 10 → Lib.atoiAll [UInt8.ofNat (48 + k)] = .ok (k : Int) := by decide +kernel
  have two : ∀ k, k < 100 → ¬ k < 10 → Lib.atoiAll [UInt8.ofNat (48 + k / 10), UInt8.ofNat (48 + k % 10)] = .ok (k : Int) := by decide +kernel
  by_cases h1 : k < 10
  · rw [Lib.decDigits_one h1]
    exact one k h1
  · rw [Lib.decDigits_two h1 h]
    exact two k h h1
/-! numbers of one to six digits, as the model reads them -/
def dgB (b : UInt8) : Bool := decide (48 ≤ b.toNat) && decide (b.toNat ≤ 57)
def vl (l : List UInt8) : Nat := l.foldl (fun n b => 10 * n + (b.toNat - 48)) 0
theorem vl_snoc (l : List UInt8) (b : UInt8) : vl (l ++ [b]) = 10 * vl l + (b.toNat - 48) := by unfold vl; rw [List.foldl_append]; rfl
def rdOkZ (d : List UInt8) : Bool := decide (1 ≤ d.length) && decide (d.length ≤ 6) && !(decide (d.headD 0 = 48) && decide (1 < d.length)) && d.all dgB
def rdZ (d : List UInt8) : Int := if rdOkZ d then vl d else -1
theorem vl_lead (l : List UInt8) : ∀ n, l.foldl (fun n (b : UInt8) => 10 * n + (b.toNat - 48)) n ≥ n * 10 ^ l.length := by
  induction l with
  | nil => intro n; simp
  | cons b l ih =>
    intro n
    rw [List.foldl_cons, List.length_cons, Nat.pow_succ]
    refine Nat.le_trans ?_ (ih _)
    rw [show n * (10 ^ l.length * 10) = 10 * n * 10 ^ l.length by rw [Nat.mul_comm (10 ^ l.length) 10, ← Nat.mul_assoc, Nat.mul_comm n 10]]
    exact Nat.mul_le_mul_right _ (Nat.le_add_right _ _)
theorem rdZ_nm2 (d : List UInt8) : (∀ k, nm2 d = some k → rdZ d = k) ∧ (nm2 d = none → rdZ d = -1 ∨ 100 ≤ rdZ d) := by
  match d with
  | [] => exact ⟨fun k h => (by cases h), fun _ => .inl rfl⟩
  | [a] =>
    have e : rdOkZ [a] = (decide (48 ≤ a.toNat) && decide (a.toNat ≤ 57)) := by simp [rdOkZ, dgB]
    constructor
    · intro k h
      obtain ⟨hh, rfl⟩ := nm2_1 h
      unfold rdZ
      rw [e, if_pos (by simp; exact hh)]
      simp [vl]
    · intro h
      have hh := nm2_n1 h
      left
      unfold rdZ
      rw [e, if_neg (by simpa using hh)]
  | [a, b] =>
    have e : rdOkZ [a, b] = (!decide (a = 48) && (decide (48 ≤ a.toNat) && decide (a.toNat ≤ 57) && (decide (48 ≤ b.toNat) && decide (b.toNat ≤ 57)))) := by simp [rdOkZ, dgB]
    have ha : a = 48 ↔ a.toNat = 48 := ⟨fun h => by rw [h]; rfl, fun h => UInt8.toNat_inj.1 (by rw [h]; rfl)⟩
    constructor
    · intro k h
      obtain ⟨hh, rfl⟩ := nm2_2 h
      unfold rdZ
      rw [e, if_pos (by simp [ha]; omega)]
      simp [vl]
    · intro h
      have hh := nm2_n2 h
      left
      unfold rdZ
      rw [e, if_neg (by simp [ha]; omega)]
  | a :: b :: c :: r =>
    refine ⟨fun k h => (by cases h), fun _ => ?_⟩
    unfold rdZ
    by_cases ho : rdOkZ (a :: b :: c :: r) = true
    · right
      rw [if_pos ho]
      unfold rdOkZ at ho
      simp only [Bool.and_eq_true, Bool.not_eq_true', List.all_cons, List.headD_cons] at ho
      obtain ⟨⟨-, h0⟩, hd, -⟩ := ho
      have h48 : a.toNat ≠ 48 := fun e => by
        have : a = 48 := UInt8.toNat_inj.1 (by rw [e]; rfl)
        simp [this] at h0
      unfold dgB at hd
      simp only [Bool.and_eq_true, decide_eq_true_eq] at hd
      have := vl_lead (b :: c :: r) (10 * 0 + (a.toNat - 48))
      have h1 : (10 * 0 + (a.toNat - 48)) * 10 ^ (b :: c :: r).length ≥ 1 * 10 ^ 2 := Nat.mul_le_mul (by omega) (Nat.pow_le_pow_right (by decide) (by simp))
      have : vl (a :: b :: c :: r) ≥ 100 := by
        unfold vl
        rw [List.foldl_cons]
        omega
      omega
    · left
      rw [if_neg ho]
/-! what a text is -/
def ppL (l : List UInt8) : Option (List UInt8 × List UInt8 × Nat) := match piB 58 l with
  | [p, n, d] => match nm2 d with
    | none => none
    | some k => if (pzS p ⟨n.toArray⟩ k).isSome then some (p, n, k) else none
  | _ => none
theorem ppL_len {l : List UInt8} (h : (piB 58 l).length ≠ 3) : ppL l = none := by
  unfold ppL
  split
  · rename_i e; rw [e] at h; exact absurd rfl h
  · rfl
theorem pz_lt {l : List UInt8} {n : ByteArray} {z : Int} (h : (pzS l n z).isSome = true) : ∃ k : Nat, z = k ∧ k < 36 ∧ n.size = 1 ∧ l.length ≤ 42 := by
  cases hp : pzS l n z with
  | none => rw [hp] at h; cases h
  | some x =>
    obtain ⟨g, b, k⟩ := x
    have hz := pz_some hp
    obtain ⟨hc, -, -, -⟩ := pz_tray hz
    have h1 := hc.len
    have h2 := hc.n36
    have h3 := hz.kl
    exact ⟨k, hz.ze, by omega, by rw [hz.n1]; rfl, parse_len hz.pr⟩
/-- The three pieces of a text. -/
theorem pp3 {l p n d : List UInt8} (h : piB 58 l = [p, n, d]) : l = p ++ 58 :: (n ++ 58 :: d) := by
  have := piB_join 58 l
  rw [h] at this
  exact this.symm
/-- By the model's reading. -/
theorem ppL_model {l p n d : List UInt8} (h : piB 58 l = [p, n, d]) : ppL l = if (pzS p ⟨n.toArray⟩ (rdZ d)).isSome then some (p, n, (rdZ d).toNat) else none := by
  obtain ⟨h1, h2⟩ := rdZ_nm2 d
  unfold ppL
  rw [h]
  dsimp only
  cases hn : nm2 d with
  | some k => rw [h1 k hn]; rfl
  | none =>
    dsimp only
    rw [if_neg]
    intro hs
    obtain ⟨k, hk, h36, -⟩ := pz_lt hs
    rcases h2 hn with e | e <;> omega
theorem ppL_long {l : List UInt8} (h : 60 < l.length) : ppL l = none := by
  by_cases h3 : (piB 58 l).length = 3
  · match hp : piB 58 l, h3 with
    | [p, n, d], _ =>
      have hl := pp3 hp
      rw [ppL_model hp]
      rw [if_neg]
      intro hs
      obtain ⟨k, hk, h36, hn, hl42⟩ := pz_lt hs
      have hn1 : n.length = 1 := by rw [← List.size_toArray]; exact hn
      have hd : d.length ≤ 6 := by
        have : rdZ d ≠ -1 := by omega
        unfold rdZ at this
        split at this
        · rename_i ho
          unfold rdOkZ at ho
          simp only [Bool.and_eq_true, decide_eq_true_eq] at ho
          exact ho.1.1.2
        · exact absurd rfl this
      rw [hl] at h
      simp at h
      omega
  · exact ppL_len h3
/-- The text of what is read is the text exactly for the last piece's own digits. -/
theorem pt_same {l p n d : List UInt8} (h : piB 58 l = [p, n, d]) (k : Nat) : (ptB ⟨p.toArray⟩ ⟨n.toArray⟩ k = ⟨l.toArray⟩) ↔ d = Lib.decDigits k := by
  have hl := pp3 h
  have e : ptB ⟨p.toArray⟩ ⟨n.toArray⟩ k = ⟨(p ++ 58 :: (n ++ 58 :: Lib.decDigits k)).toArray⟩ := by
    apply ByteArray.ext
    unfold ptB itB cln
    simp only [ByteArray.data_append]
    apply Array.toList_inj.1
    simp
  rw [e, hl]
  constructor
  · intro h
    have h' : p ++ 58 :: (n ++ 58 :: Lib.decDigits k) = p ++ 58 :: (n ++ 58 :: d) := by
      have := congrArg (fun s : ByteArray => s.data.toList) h
      simpa using this
    have h2 := List.append_cancel_left h'
    injection h2 with _ h2
    have h3 := List.append_cancel_left h2
    injection h3 with _ h3
    exact h3.symm
  · rintro rfl
    rfl
/-- By the program's reading, whatever number it takes for what is none. -/
theorem ppL_prog {l p n d : List UInt8} {x : Int} (h : piB 58 l = [p, n, d]) (hx : ∀ v, Lib.atoiAll d = .ok v → x = v) :
    ppL l = if (pzS p ⟨n.toArray⟩ x).isSome ∧ ptB ⟨p.toArray⟩ ⟨n.toArray⟩ x.toNat = ⟨l.toArray⟩ then some (p, n, x.toNat) else none := by
  unfold ppL
  rw [h]
  dsimp only
  cases hn : nm2 d with
  | some k =>
    obtain ⟨hk, hd⟩ := nm2_dec hn
    have ex : x = k := hx _ (by rw [hd]; exact atoi_dec hk)
    subst ex
    dsimp only
    have e2 : ptB ⟨p.toArray⟩ ⟨n.toArray⟩ ((k : Int).toNat) = ⟨l.toArray⟩ := (pt_same h k).2 hd
    by_cases hs : (pzS p ⟨n.toArray⟩ k).isSome = true
    · rw [if_pos hs, if_pos ⟨hs, e2⟩]; rfl
    · rw [if_neg hs, if_neg (fun hh => hs hh.1)]
  | none =>
    dsimp only
    rw [if_neg]
    rintro ⟨hs, ht⟩
    obtain ⟨k, rfl, h36, -⟩ := pz_lt hs
    have hd := (pt_same h k).1 ht
    rw [hd, dec_nm2 (by omega)] at hn
    cases hn
end Go.Proofs.YtpdmfbhjneodeaaDoor
