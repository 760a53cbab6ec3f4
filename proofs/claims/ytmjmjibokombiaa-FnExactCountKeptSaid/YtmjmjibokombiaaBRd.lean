/-
  What the program's smallest functions on trays return: sizes, counts of cells, rows, balls, places.
  What the program's reader of trays returns: a grid exactly for the texts that are trays.
  What the program's reader of trays returns: a grid exactly for the texts that are trays.
  What the program's reader of trays returns: a grid exactly for the texts that are trays.
-/
import Derived.Test.YtmjmjibokombiaaBTxt
import Derived.Test.YtmjmjibokombiaaShelf
import Derived.Lib.SplitLaws
namespace Go.Proofs.Ytmjmjibokombiaa
open Go.RowKit
def isSz (x y : Int) : Bool := decide (1 ≤ x) && decide (x ≤ 7) && decide (1 ≤ y) && decide (y ≤ 7) && decide (x * y ≤ 36)
theorem isSz_iff {x y : Int} : isSz x y = true ↔ (1 ≤ x ∧ x ≤ 7 ∧ 1 ≤ y ∧ y ≤ 7 ∧ x * y ≤ 36) := by
  unfold isSz; simp [and_assoc]
theorem mul_small {x y : Int} (h1 : 1 ≤ x) (h2 : x ≤ 7) (h3 : 1 ≤ y) (h4 : y ≤ 7) : 1 ≤ x * y ∧ x * y ≤ 49 := by
  have a : x = 1 ∨ x = 2 ∨ x = 3 ∨ x = 4 ∨ x = 5 ∨ x = 6 ∨ x = 7 := by omega
  rcases a with rfl | rfl | rfl | rfl | rfl | rfl | rfl <;> omega
/-- How many of the first k cells hold b. -/
def cnt (c : List UInt8) (b : UInt8) : Nat → Nat
  | 0 => 0
  | k + 1 => cnt c b k + if at0 c k = b then 1 else 0
theorem cnt_le (c : List UInt8) (b : UInt8) (k : Nat) : cnt c b k ≤ k := by
  induction k with
  | zero => exact Nat.le_refl _
  | succ k ih => unfold cnt; split <;> omega
def inB (x : Int) (n : Nat) : Bool := decide (0 ≤ x) && decide (x < n)
theorem inB_true {x : Int} {n : Nat} : inB x n = true ↔ 0 ≤ x ∧ x < n := by unfold inB; simp
theorem inB_false {x : Int} {n : Nat} : inB x n = false ↔ x < 0 ∨ (n : Int) ≤ x := by
  rw [← Bool.not_eq_true, inB_true]; omega
def ballB (b : UInt8) : Bool := b != 35 && b != 46
set_option maxHeartbeats 400000 in
theorem isSize_any (x y : Int) (w : World) : Calls Try.prog 22 #[.int .i64 x, .int .i64 y] w fun e w' => e = .returned (.bool (isSz x y)) ∧ w = w' := by
  by_cases h : 1 ≤ x ∧ x ≤ 7 ∧ 1 ≤ y ∧ y ≤ 7
  · obtain ⟨h1, h2, h3, h4⟩ := h
    have hm := mul_small h1 h2 h3 h4
    have HW : Hid (wrap64 (x * y) = x * y) := IntWalk.wrap64_in _ ⟨by omega, by omega⟩
    have HV := hidI (show isSz x y = decide (x * y ≤ 36) from by unfold isSz; simp [h1, h2, h3, h4])
    clear hm
    go_enter Try.func22, Try.ntmps22
    go_wp2
    go_ret
    exact ⟨by rw [HV.out]; simp [HW.out], rfl⟩
  · have HV : Hid (isSz x y = false) := by
      refine Bool.eq_false_iff.2 fun e => h ?_
      have := isSz_iff.1 e
      exact ⟨this.1, this.2.1, this.2.2.1, this.2.2.2.1⟩
    have hcases : x < 1 ∨ (1 ≤ x ∧ 7 < x) ∨ (1 ≤ x ∧ x ≤ 7 ∧ y < 1) ∨ (1 ≤ x ∧ x ≤ 7 ∧ 1 ≤ y ∧ 7 < y) := by omega
    clear h
    rcases hcases with h1 | ⟨h1, h2⟩ | ⟨h1, h2, h3⟩ | ⟨h1, h2, h3, h4⟩
    all_goals
      go_enter Try.func22, Try.ntmps22
      go_wp2
      go_ret
      exact ⟨ret_bool (by rw [HV.out] <;> (first | rfl | (simp; done) | (simp; omega))), rfl⟩
set_option maxHeartbeats 400000 in
theorem countAll_any (W H : Nat) (c : List UInt8) (w : World) (hW : W ≤ 7) (hH : H ≤ 7) : Calls Try.prog 29 #[.agg (gv W H c)] w (Ret (.int .i64 (nn W H)) w) := by
  have HW : Hid (wrap64 ((W : Int) * (H : Int)) = (nn W H : Nat)) := nn_wrap W H (by have := nn_le hW hH; omega)
  have gg := Gr.refl w
  go_enter Try.func29, Try.ntmps29
  go_wp2_with (refine r_box 55 _ (gv W H c) rfl rfl ?_; intro w1 B1 N1; have g1 := N1.gr; have b1 : Blk w1 B1 (gv W H c) 55 := N1.blk; have l1 := N1.lo; have t1 := N1.hi; have z1 := g1.size; have gg := gg.trans g1; clear N1; obtain ⟨b1_0, b1_1, b1_2⟩ := gcells b1)
  go_ret
  exact ⟨by simp [HW.out], gg⟩
theorem Try.gix (B k : Nat) (hk : k < 36) (w : World) : (Instr.indexAt 53 (.pointer (some ⟨B, 2, none⟩)) (.int .i64 k)).run Try.prog w = .ok (.pointer (some ⟨B, 2 + k, none⟩)) w := by
  rw [run_indexAt_array w 53 ⟨B, 2, none⟩ .i64 k (by rw [Try.alen, Try.aelem]; exact Try.underlying53), if_pos (by rw [Try.alen]; omega), Try.aelem]
  have hs : (sizeOf 5).run Try.prog w = .ok 1 w := by kernel_rfl
  simp [hs, Result.andThen, Addr.add]
theorem Try.gslice (B f W t : Nat) (hft : f + W = t) (ht : t ≤ 36) (hW : 1 ≤ W) (w : World) :
    (Instr.sliceAt 53 (.pointer (some ⟨B, 2, none⟩)) (some (.int .i64 f)) (some (.int .i64 t)) (some (.int .i64 t))).run Try.prog w = .ok (.slice (some ⟨B, 2 + f, none⟩) W W) w := by
  rw [run_sliceAt_array_lhm w 53 ⟨B, 2, none⟩ (by rw [Try.alen, Try.aelem]; exact Try.underlying53) .i64 .i64 .i64 f t t (by omega) (by omega) (by omega) (by rw [Try.alen]; omega), Try.aelem]
  have hs : (sizeOf 5).run Try.prog w = .ok 1 w := by kernel_rfl
  simp [hs, Result.andThen, slicedAt, Addr.add]
  subst hft
  rw [if_neg (by omega)]
  by_cases h : f = 0
  · subst h; simp
  · simp [h]
set_option maxHeartbeats 400000 in
set_option maxRecDepth 100000 in
/-- The row y of a grid in block B. -/
theorem rowOf_any (B W H y : Nat) (c : List UInt8) (w : World) (hb : Blk w B (gv W H c) 55) (hW1 : 1 ≤ W) (hW : W ≤ 7) (hy : y < H) (h36 : nn W H ≤ 36) (hH : H ≤ 7) :
    Calls Try.prog 34 #[.pointer (some ⟨B, 0, none⟩), .int .i64 y] w fun e w' => e = .returned (.slice (some ⟨B, 2 + nn W y, none⟩) W W) ∧ ∃ n, w' = w.drewN n := by
  have hle : nn W y + W ≤ nn W H := by
    unfold nn
    have : W * y + W = W * (y + 1) := by rw [Nat.mul_succ]
    rw [this]; exact Nat.mul_le_mul_left _ hy
  obtain ⟨f, hf⟩ : ∃ f, f = nn W y := ⟨_, rfl⟩
  obtain ⟨t, ht⟩ : ∃ t, t = f + W := ⟨_, rfl⟩
  rw [← hf] at hle
  have e1 : (y : Int) * (W : Int) = f := by rw [hf, nn_int, Int.mul_comm]
  have e2 : ((y : Int) + 1) * (W : Int) = t := by rw [ht, Int.add_mul, e1]; omega
  have ht36 : t ≤ 36 := by omega
  have hf36 : f ≤ 36 := by omega
  have hsl := Try.gslice B f W t ht.symm ht36 hW1
  obtain ⟨c0, -, -⟩ := gcells hb
  have HB := hidI hb
  clear hb
  have HF := hidI hf
  have HT := hidI ht
  rw [← HF.out]
  clear hf ht
  go_enter Try.func34, Try.ntmps34
  go_wp2
  go_quiet (fail)
  go_wp2
  go_ret
  exact ⟨rfl, nq, rfl⟩
end Go.Proofs.Ytmjmjibokombiaa
namespace Go.Proofs.Ytmjmjibokombiaa
open Go.RowKit
def cellText : ByteArray := ⟨#[35, 46, 111, 97, 98, 99, 100, 101, 102]⟩
theorem index_cell (b : UInt8) : (Lib.indexByte [35, 46, 111, 97, 98, 99, 100, 101, 102] b < 0) ↔ isCellB b = false := by
  have h : ∀ n : Fin 256, (Lib.indexByte [35, 46, 111, 97, 98, 99, 100, 101, 102] (UInt8.ofNat n.val) < 0) ↔ isCellB (UInt8.ofNat n.val) = false := of_decide_eq_true (by kernel_rfl)
  have := h ⟨b.toNat, b.toNat_lt⟩
  simpa using this
def nameB (j : Nat) : UInt8 := UInt8.ofNat (97 + j)
theorem once_iff (c : List UInt8) : onceB c = true ↔ ∀ j, j < 6 → c.count (nameB j) ≤ 1 := by
  have e : onceB c = (List.range 6).all fun j => decide (c.count (nameB j) ≤ 1) := rfl
  rw [e]
  simp only [List.all_eq_true, List.mem_range, decide_eq_true_eq]
theorem cnt_count (c : List UInt8) (b : UInt8) (k : Nat) (h : k ≤ c.length) : cnt c b k = (c.take k).count b := by
  induction k with
  | zero => rfl
  | succ k ih =>
    rw [cnt, ih (by omega), List.take_add_one, List.count_append]
    have : c[k]? = some (at0 c k) := by
      unfold at0
      rw [List.getElem?_eq_getElem (by omega)]
      simp [List.getD, List.getElem?_eq_getElem (show k < c.length by omega)]
    rw [this]
    simp only [Option.toList, List.count_cons, List.count_nil, beq_iff_eq, Nat.zero_add]
theorem cnt_all (c : List UInt8) (b : UInt8) : cnt c b c.length = c.count b := by
  rw [cnt_count c b _ (Nat.le_refl _), List.take_length]
theorem all_at0 (c : List UInt8) (p : UInt8 → Bool) : c.all p = true ↔ ∀ j, j < c.length → p (at0 c j) = true := by
  rw [List.all_eq_true]
  constructor
  · intro h j hj
    refine h _ ?_
    unfold at0
    simp [List.getD, List.getElem?_eq_getElem hj]
  · intro h b hb
    obtain ⟨j, hj, rfl⟩ := List.getElem_of_mem hb
    have := h j hj
    unfold at0 at this
    simpa [List.getD, List.getElem?_eq_getElem hj] using this
def goodC (c : List UInt8) : Bool := c.all isCellB && onceB c
end Go.Proofs.Ytmjmjibokombiaa
namespace Go.Proofs.Ytmjmjibokombiaa
open Go.RowKit
theorem splitK_ne (b : UInt8) (hb : b ≠ 47) (l : List UInt8) (k : Nat) : Lib.splitK [47] 0 k (b :: l) = (b :: (Lib.splitK [47] 0 k l).headD []) :: (Lib.splitK [47] 0 k l).tail := by
  cases k with
  | zero => rfl
  | succ k =>
    have e : Lib.index (b :: l) [47] = if Lib.index l [47] == -1 then -1 else Lib.index l [47] + 1 := by
      rw [Lib.index_one, Lib.index_one]
      rw [Lib.indexByte, if_neg (by simpa using hb)]
    have hge : -1 ≤ Lib.index l [47] := by rw [Lib.index_one]; exact Lib.indexByte_ge _ _
    unfold Lib.splitK
    rw [e]
    by_cases h : Lib.index l [47] = -1
    · simp [h]
    · have h1 : ¬ (Lib.index l [47] == -1) = true := by simpa using h
      rw [if_neg h1, if_neg h1]
      have h2 : ¬ (Lib.index l [47] + 1 == -1) = true := by simp; omega
      rw [if_neg h2]
      obtain ⟨i, hi⟩ : ∃ i : Nat, Lib.index l [47] = i := ⟨(Lib.index l [47]).toNat, by omega⟩
      rw [hi]
      have e3 : ((i : Int) + 1).toNat = i + 1 := by omega
      rw [e3]
      simp
theorem splitK_pieces (l : List UInt8) : Lib.splitK [47] 0 (Lib.count l [47]) l = pieces l := by
  induction l with
  | nil => rfl
  | cons b l ih =>
    by_cases hb : b = 47
    · subst hb
      rw [Lib.count_cons_eq, Nat.add_comm, pieces, if_pos rfl]
      have e : Lib.index (47 :: l) [47] = 0 := by rw [Lib.index_one, Lib.indexByte, if_pos (by rfl)]
      unfold Lib.splitK
      rw [e, if_neg (by decide)]
      rw [show (47 :: l).drop ((0 : Int).toNat + [(47 : UInt8)].length) = l from rfl, ih]
      rfl
    · rw [Lib.count_cons_ne b 47 l hb, splitK_ne b hb, ih, pieces, if_neg hb]
theorem pieces_count (s : ByteArray) : (pieces s.data.toList).length = Lib.countB s ⟨#[47]⟩ + 1 := by
  show _ = Lib.count s.data.toList [47] + 1
  rw [Lib.count_one]
  induction s.data.toList with
  | nil => rfl
  | cons b l ih =>
    have hp := pieces_ne l
    rw [pieces, List.count_cons]
    split
    · rename_i hb; simp [hb, ih]
    · rename_i hb
      rw [if_neg (by simpa using hb)]
      cases h : pieces l with
      | nil => exact absurd h hp
      | cons p q => rw [h] at ih; simpa using ih
/-- It returns the rows of a text, in new memory. -/
def RetRows (l : List UInt8) (w : World) (e : Ending) (w' : World) : Prop :=
  ∃ (rows : List ByteArray) (B : Nat), rows.map (·.data.toList) = pieces l ∧ e = .returned (.slice (some ⟨B, 0, none⟩) rows.length rows.length) ∧
    Own w' B (.cells (rows.map Value.string).toArray 9 (0, 0)) ∧ w.heap.size ≤ B ∧ Gr w w'
end Go.Proofs.Ytmjmjibokombiaa
namespace Go.Proofs.Ytmjmjibokombiaa
open Go.RowKit
def rdG (l : List UInt8) : Grid := (parse l).getD ⟨0, 0, []⟩
def rdOk (l : List UInt8) : Bool := (parse l).isSome
theorem rd_none {l : List UInt8} (h : ∀ w, ¬ OkR (pieces l) w) : rdG l = ⟨0, 0, []⟩ ∧ rdOk l = false := by
  unfold rdG rdOk; rw [parse_none h]; exact ⟨rfl, rfl⟩
theorem rd_of {l : List UInt8} {w : Nat} (h : OkR (pieces l) w) : rdG l = ⟨w, (pieces l).length, (pieces l).flatten⟩ ∧ rdOk l = true := by
  unfold rdG rdOk; rw [parse_of h]; exact ⟨rfl, rfl⟩
def rowAt (rows : List ByteArray) (k : Nat) : ByteArray := rows.getD k ⟨#[]⟩
theorem rowAt_map (rows : List ByteArray) (k : Nat) (h : k < rows.length) : (rows.map (·.data.toList))[k]? = some (rowAt rows k).data.toList := by
  unfold rowAt; simp [List.getD, h]
theorem rowAt_cell {w : World} {B : Nat} {rows : List ByteArray} {T : TypeId} {fr : Nat × Nat} (h : Own w B (.cells (rows.map Value.string).toArray T fr)) (k : Nat) (hk : k < rows.length) :
    w.cell? ⟨B, k, none⟩ = some (.string (rowAt rows k)) := by
  rw [h.cell k]; unfold rowAt; simp [List.getD, hk]
theorem size_eq (s : ByteArray) : s.data.toList.length = s.size := Array.length_toList
theorem fin2 {A C : Array Value} {x y : Bool} (h1 : A = C) (h2 : x = y) : Ending.returned (.tuple #[.agg A, .bool x]) = .returned (.tuple #[.agg C, .bool y]) := by rw [h1, h2]
theorem take_flat {p : List (List UInt8)} {w : Nat} (k : Nat) (hk : k ≤ p.length) (h : ∀ (j : Nat) r, j < k → p[j]? = some r → r.length = w) : ((p.take k).flatten).length = nn w k := by
  have h2 : ∀ r ∈ p.take k, r.length = w := by
    intro r hr
    obtain ⟨j, hj, rfl⟩ := List.getElem_of_mem hr
    rw [List.length_take] at hj
    refine h j _ (by omega) ?_
    rw [List.getElem_take, List.getElem?_eq_getElem]
  rw [flatten_len h2, List.length_take, Nat.min_eq_left hk]
  rfl
theorem take_flat_succ {p : List (List UInt8)} {k : Nat} {r : List UInt8} (h : p[k]? = some r) : (p.take (k + 1)).flatten = (p.take k).flatten ++ r := by
  rw [List.take_add_one, h]; simp
theorem okR_mk {p : List (List UInt8)} {w : Nat} (h1 : 1 ≤ w) (h7 : w ≤ 7) (p1 : 1 ≤ p.length) (p7 : p.length ≤ 7) (h36 : nn w p.length ≤ 36) (hr : ∀ (j : Nat) r, j < p.length → p[j]? = some r → r.length = w) (hg : goodC p.flatten = true) : OkR p w := by
  unfold goodC at hg
  rw [Bool.and_eq_true] at hg
  refine ⟨h1, h7, p1, p7, h36, ?_, fun b hb => (List.all_eq_true.1 hg.1) b hb, hg.2⟩
  intro r hr'
  obtain ⟨j, hj, rfl⟩ := List.getElem_of_mem hr'
  exact hr j _ hj (List.getElem?_eq_getElem hj)
theorem okR_good {p : List (List UInt8)} {w : Nat} (h : OkR p w) : goodC p.flatten = true := by
  unfold goodC
  rw [Bool.and_eq_true]
  exact ⟨List.all_eq_true.2 h.cells, h.once⟩
end Go.Proofs.Ytmjmjibokombiaa
