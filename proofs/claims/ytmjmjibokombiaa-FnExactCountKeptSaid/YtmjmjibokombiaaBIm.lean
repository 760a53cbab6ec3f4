/-
  What the program's functions on single cells and on the text of a grid return.
  What the program's functions on a tray's text that look at its cells return: how many cells have a text.
  What the program's functions that return texts of cells return: one cell, and the text of a whole grid.
  What the program's functions that change a tray's cells return: one cell put, and all balls taken out.
  What the program's functions that turn and mirror trays return.
-/
import Derived.Test.YtmjmjibokombiaaBRd
import Derived.Test.YtmjmjibokombiaaBKit
import Derived.Test.YtmjmjibokombiaaBTxt
import Derived.Test.YtmjmjibokombiaaShelf
import Derived.Test.YtmjmjibokombiaaBTy
namespace Go.Proofs.Ytmjmjibokombiaa
open Go.RowKit
/-- The first byte of a text. -/
def hd (s : ByteArray) : UInt8 := s.data.toList.headD 0
theorem one_of (s : ByteArray) (h : s.size = 1) : s = ⟨#[hd s]⟩ := by
  obtain ⟨⟨l⟩⟩ := s
  have h' : l.length = 1 := h
  match l, h' with
  | [b], _ => rfl
theorem hd_one (b : UInt8) : hd ⟨#[b]⟩ = b := rfl
/-- The text is one cell. -/
def oneB (s : ByteArray) : Bool := decide (s.size = 1) && isCellB (hd s)
def isNameB (b : UInt8) : Bool := 97 ≤ b && b ≤ 102
def nameS (s : ByteArray) : Bool := decide (s.size = 1) && isNameB (hd s)
theorem index_name (b : UInt8) : (Lib.indexByte [97, 98, 99, 100, 101, 102] b < 0) ↔ isNameB b = false := by
  have h : ∀ n : Fin 256, (Lib.indexByte [97, 98, 99, 100, 101, 102] (UInt8.ofNat n.val) < 0) ↔ isNameB (UInt8.ofNat n.val) = false := of_decide_eq_true (by kernel_rfl)
  have := h ⟨b.toNat, b.toNat_lt⟩
  simpa using this
theorem dec_index {x : Int} {b : Bool} (h : x < 0 ↔ b = false) : decide (0 ≤ x) = b := by
  cases b
  · have := h.2 rfl
    simpa using this
  · have : ¬ x < 0 := fun e => by have := h.1 e; cases this
    simpa using this
theorem s_idx0 {P : Program} {T : TypeId} (hu : P.underlying T = some .string) (b : UInt8) (w : World) : (Instr.index T (.string ⟨#[b]⟩) (.int .i64 0)).run P w = .ok (.int .u8 b.toNat) w := by
  have h := run_index_string (P := P) w T ⟨#[b]⟩ .i64 0 hu
  rw [h, dif_pos ⟨Int.le_refl 0, by show (0 : Int) < ((1 : Nat) : Int); decide⟩]
  rfl
end Go.Proofs.Ytmjmjibokombiaa
namespace Go.Proofs.Ytmjmjibokombiaa
open Go.RowKit
theorem rd_cases (l : List UInt8) : (parse l = none ∧ rdG l = ⟨0, 0, []⟩ ∧ rdOk l = false) ∨ ∃ g, parse l = some g ∧ rdG l = g ∧ rdOk l = true := by
  cases h : parse l with
  | none => exact .inl ⟨rfl, by unfold rdG rdOk; rw [h]; exact ⟨rfl, rfl⟩⟩
  | some g => exact .inr ⟨g, rfl, by unfold rdG rdOk; rw [h]; exact ⟨rfl, rfl⟩⟩
structure Tray (g : Grid) : Prop where
  w1 : 1 ≤ g.w
  h1 : 1 ≤ g.h
  w7 : g.w ≤ 7
  h7 : g.h ≤ 7
  n36 : nn g.w g.h ≤ 36
  len : g.c.length = nn g.w g.h
  cells : ∀ i, i < g.c.length → isCellB (at0 g.c i) = true
theorem parse_tray {l : List UInt8} {g : Grid} (h : parse l = some g) : Tray g := by
  obtain ⟨⟨a, b, c, d⟩, e, f⟩ := parse_fits h
  obtain ⟨k, _, hc⟩ := parse_some h
  refine ⟨e, f, a, b, c, d, ?_⟩
  rw [hc]
  exact (all_at0 _ isCellB).1 (List.all_eq_true.2 k.cells)
theorem fin_nb {a c : Int} {x y : Bool} (h1 : a = c) (h2 : x = y) : Ending.returned (.tuple #[.int .i64 a, .bool x]) = .returned (.tuple #[.int .i64 c, .bool y]) := by rw [h1, h2]
theorem fin_sb {a c : ByteArray} {x y : Bool} (h1 : a = c) (h2 : x = y) : Ending.returned (.tuple #[.string a, .bool x]) = .returned (.tuple #[.string c, .bool y]) := by rw [h1, h2]
def ccOk (l : List UInt8) (c : ByteArray) : Bool := rdOk l && oneB c
def ccN (l : List UInt8) (c : ByteArray) : Nat := if ccOk l c then (rdG l).c.count (hd c) else 0
end Go.Proofs.Ytmjmjibokombiaa
namespace Go.Proofs.Ytmjmjibokombiaa
open Go.RowKit
theorem bytes_one {w : World} {B o : Nat} {b : UInt8} (h : w.cell? ⟨B, o, none⟩ = some (.int .u8 b.toNat)) : Lib.Bytes w B o ⟨#[b]⟩ := by
  intro i hi
  have : i = 0 := by
    have : i < 1 := hi
    omega
  subst this
  exact h
theorem rowB_at (W : Nat) (c : List UInt8) (y i : Nat) (h : i < (rowB W c y).size) : (rowB W c y)[i] = at0 c (nn W y + i) := by
  have hi : i < W := by rw [rowB_size] at h; exact h
  rw [ByteArray.getElem_eq_getElem_data]
  have e := rowL_get W c y i hi
  unfold rowB
  simp only []
  rw [List.getElem?_eq_getElem (by rw [rowL_length]; exact hi)] at e
  exact Option.some.inj e
theorem bytes_row {w : World} {B o W y : Nat} {c : List UInt8} (h : ∀ i, i < W → w.cell? ⟨B, o + i, none⟩ = some (.int .u8 (at0 c (nn W y + i)).toNat)) : Lib.Bytes w B o (rowB W c y) := by
  intro i hi
  rw [rowB_at, h i (by rw [rowB_size] at hi; exact hi)]
def caOk (l : List UInt8) (x y : Int) : Bool := rdOk l && (inB x (rdG l).w && inB y (rdG l).h)
def caB (l : List UInt8) (x y : Int) : ByteArray := if caOk l x y then ⟨#[at0 (rdG l).c (nn (rdG l).w y.toNat + x.toNat)]⟩ else ⟨#[]⟩
/-- The rows of a grid as texts, and empty texts behind them. -/
def rowsV (W : Nat) (c : List UInt8) (H k : Nat) : Array Value := ((List.range H).map fun y => Value.string (if y < k then rowB W c y else ⟨#[]⟩)).toArray
theorem rowsV_size (W : Nat) (c : List UInt8) (H k : Nat) : (rowsV W c H k).size = H := by simp [rowsV]
theorem rowsV_get (W : Nat) (c : List UInt8) (H k y : Nat) (h : y < H) : (rowsV W c H k)[y]? = some (Value.string (if y < k then rowB W c y else ⟨#[]⟩)) := by
  unfold rowsV
  rw [List.getElem?_toArray, List.getElem?_map, List.getElem?_range h]
  rfl
theorem rowsV_zero (W : Nat) (c : List UInt8) (H : Nat) : madeCells (Value.string ⟨#[]⟩).cells (H * 1) = rowsV W c H 0 := by
  apply Array.ext_getElem?
  intro j
  by_cases hj : j < H
  · rw [rowsV_get W c H 0 j hj, if_neg (by omega)]
    unfold madeCells
    simp [Value.cells, hj, Nat.mod_one]
  · rw [Array.getElem?_eq_none (by rw [size_madeCells]; omega), Array.getElem?_eq_none (by rw [rowsV_size]; omega)]
theorem rowsV_set (W : Nat) (c : List UInt8) (H k : Nat) (h : k < H) : (rowsV W c H k).setIfInBounds k (.string (rowB W c k)) = rowsV W c H (k + 1) := by
  apply Array.ext_getElem?
  intro j
  by_cases hj : j < H
  · rw [rowsV_get W c H (k + 1) j hj, Array.getElem?_setIfInBounds]
    by_cases e : k = j
    · subst e
      rw [if_pos rfl, rowsV_size, if_pos h, if_pos (by omega)]
    · rw [if_neg e, rowsV_get W c H k j hj]
      congr 2
      by_cases h2 : j < k
      · rw [if_pos h2, if_pos (by omega)]
      · rw [if_neg h2, if_neg (by omega)]
  · rw [Array.getElem?_eq_none (by rw [Array.size_setIfInBounds, rowsV_size]; omega), Array.getElem?_eq_none (by rw [rowsV_size]; omega)]
theorem join_len (W : Nat) (c : List UInt8) (H : Nat) (hW : W ≤ 7) (hH : H ≤ 7) : (txtL W c H).length ≤ 56 := by
  have := txtL_length W c H
  have := nn_le (x := W + 1) (y := H) (a := 8) (b := 7) (by omega) hH
  omega
theorem Try.sl1 (B off n cap x : Nat) (hx : x < cap) (w : World) : (Instr.sliceAt 58 (.slice (some ⟨B, off, none⟩) n cap) (some (.int .i64 x)) (some (.int .i64 ((x : Int) + 1))) none).run Try.prog w = .ok (.slice (some ⟨B, off + x, none⟩) 1 (cap - x)) w := by
  have hu : Try.prog.underlying 58 = some (.slice (Try.prog.elem 58)) := by kernel_rfl
  rw [run_sliceAt_slice w 58 _ _ _ _ hu]
  have h := Lib.run_slice_window (P := Try.prog) w 58 5 Try.underlying58 Try.sizeOf5 B off n cap x (x + 1) (by omega) (by omega)
  rw [show x + 1 - x = 1 by omega] at h
  exact h
theorem Try.conv (B o cap : Nat) (s : ByteArray) (w : World) (hc : Lib.Bytes w B o s) (n : Nat) (hn : s.size = n) : (convert 58 9 (.slice (some ⟨B, o, none⟩) n cap)).run Try.prog w = .ok (.string s) w := by
  subst hn
  exact Lib.run_convert_whole w 58 5 9 Try.underlying58 Try.underlying5 Try.underlying9 B o s hc cap
end Go.Proofs.Ytmjmjibokombiaa
namespace Go.Proofs.Ytmjmjibokombiaa
open Go.RowKit
/-- What the program's grids are, those of no tray among them. -/
structure Small (g : Grid) : Prop where
  w7 : g.w ≤ 7
  h7 : g.h ≤ 7
  n36 : nn g.w g.h ≤ 36
  w1 : 1 ≤ g.w ∨ g.h = 0
  len : g.c.length = nn g.w g.h
theorem Tray.small {g : Grid} (h : Tray g) : Small g := ⟨h.w7, h.h7, h.n36, .inl h.w1, h.len⟩
theorem rd_small (l : List UInt8) : Small (rdG l) := by
  rcases rd_cases l with ⟨_, hg, _⟩ | ⟨g, hp, hg, _⟩
  · rw [hg]; exact ⟨by decide, by decide, by decide, .inr rfl, rfl⟩
  · rw [hg]; exact (parse_tray hp).small
/-- The text if it is a tray. -/
def ifB (s : ByteArray) : ByteArray := if rdOk s.data.toList then s else ⟨#[]⟩
theorem txtB_le (W H : Nat) (c : List UInt8) (hW : W ≤ 7) (hH : H ≤ 7) : (txtB W H c).size ≤ 56 := by
  have := txtB_size W H c
  have := nn_le (x := W + 1) (y := H) (a := 8) (b := 7) (by omega) hH
  omega
theorem at0_set (c : List UInt8) (i : Nat) (b : UInt8) (j : Nat) (hi : i < c.length) : at0 (c.set i b) j = if i = j then b else at0 c j := by
  unfold at0
  by_cases e : i = j
  · subst e; simp [List.getD, hi]
  · rw [if_neg e]; simp only [List.getD]; rw [List.getElem?_set_ne e]
def paOk (l : List UInt8) (x y : Int) (c : ByteArray) : Bool := rdOk l && (inB x (rdG l).w && inB y (rdG l).h) && oneB c
def paT (l : List UInt8) (x y : Int) (c : ByteArray) : ByteArray := txtB (rdG l).w (rdG l).h ((rdG l).c.set (nn (rdG l).w y.toNat + x.toNat) (hd c))
def paS (l : List UInt8) (x y : Int) (c : ByteArray) : ByteArray := if paOk l x y c then ifB (paT l x y c) else ⟨#[]⟩
def paR (l : List UInt8) (x y : Int) (c : ByteArray) : Bool := paOk l x y c && rdOk (paT l x y c).data.toList
/-- The first k cells, with those for which p holds made free. -/
def wallTo (p : UInt8 → Bool) (c : List UInt8) : Nat → List UInt8
  | 0 => c
  | k + 1 => if p (at0 c k) then (wallTo p c k).set k 46 else wallTo p c k
theorem wallTo_len (p : UInt8 → Bool) (c : List UInt8) (k : Nat) : (wallTo p c k).length = c.length := by
  induction k with
  | zero => rfl
  | succ k ih => unfold wallTo; split <;> simp [ih]
theorem wallTo_at (p : UInt8 → Bool) (c : List UInt8) (k i : Nat) (h : k ≤ i) (hk : k ≤ c.length) : at0 (wallTo p c k) i = at0 c i := by
  induction k with
  | zero => rfl
  | succ k ih =>
    unfold wallTo
    split
    · rw [at0_set _ _ _ _ (by rw [wallTo_len]; omega), if_neg (by omega)]; exact ih (by omega) (by omega)
    · exact ih (by omega) (by omega)
theorem wallTo_congr {p q : UInt8 → Bool} {c : List UInt8} (k : Nat) (h : ∀ i, i < k → p (at0 c i) = q (at0 c i)) : wallTo p c k = wallTo q c k := by
  induction k with
  | zero => rfl
  | succ k ih => unfold wallTo; rw [h k (by omega), ih (fun i hi => h i (by omega))]
theorem ball_cell {b : UInt8} (h : isCellB b = true) : ballB b = isBallB b := by
  unfold isCellB at h
  unfold ballB
  by_cases h1 : b = 35
  · subst h1; rfl
  · by_cases h2 : b = 46
    · subst h2; rfl
    · simp [h1, h2] at h
      simp [h1, h2, h]
def woB (l : List UInt8) : ByteArray := txtB (rdG l).w (rdG l).h (wallTo isBallB (rdG l).c (nn (rdG l).w (rdG l).h))
theorem wo_impl (l : List UInt8) : wallTo ballB (rdG l).c (nn (rdG l).w (rdG l).h) = wallTo isBallB (rdG l).c (nn (rdG l).w (rdG l).h) := by
  rcases rd_cases l with ⟨_, hg, _⟩ | ⟨g, hp, hg, _⟩
  · rw [hg]; rfl
  · rw [hg]
    have ht := parse_tray hp
    exact wallTo_congr _ fun i hi => ball_cell (ht.cells i (by rw [ht.len]; exact hi))
theorem Try.six (B off n cap x : Nat) (hx : x < n) (w : World) : (Instr.indexAt 58 (.slice (some ⟨B, off, none⟩) n cap) (.int .i64 x)).run Try.prog w = .ok (.pointer (some ⟨B, off + x, none⟩)) w := by
  have hu : Try.prog.underlying 58 = some (.slice (Try.prog.elem 58)) := by kernel_rfl
  have he : Try.prog.elem 58 = 5 := by kernel_rfl
  rw [run_indexAt_slice w 58 ⟨B, off, none⟩ n cap .i64 x hu, if_pos (by omega), he]
  simp [Try.sizeOf5, Result.andThen, Addr.add]
end Go.Proofs.Ytmjmjibokombiaa
namespace Go.Proofs.Ytmjmjibokombiaa
open Go.RowKit
theorem Upd.refl (B : Nat) (w : World) : Upd B w w := ⟨rfl, rfl, rfl, rfl, fun _ _ => rfl⟩
theorem Upd.trans {B : Nat} {a b c : World} (h : Upd B a b) (k : Upd B b c) : Upd B a c :=
  ⟨k.os.trans h.os, k.tape.trans h.tape, k.output.trans h.output, h.size.trans k.size, fun j hj => (k.block j hj).trans (h.block j hj)⟩
theorem Upd.drew' (B : Nat) (w : World) : Upd B w w.drew := ⟨rfl, rfl, rfl, rfl, fun _ _ => rfl⟩
theorem Upd.drewN' (B : Nat) (w : World) (n : Nat) : Upd B w (w.drewN n) := ⟨rfl, rfl, rfl, rfl, fun _ _ => rfl⟩
set_option maxHeartbeats 2000000 in
set_option maxRecDepth 100000 in
/-- The cells o .. o + n - 1 of a grid's block, backwards. -/
theorem reverse_any (B o n cap : Nat) (W H : Int) (c : List UInt8) (w : World) (hb : Blk w B (gv W H c) 55) (hn1 : 1 ≤ n) (hon : o + n ≤ c.length) (h36 : o + n ≤ 36) :
    Calls Try.prog 33 #[.slice (some ⟨B, 2 + o, none⟩) n cap] w fun e w' => e = .returned (.tuple #[]) ∧ Blk w' B (gv W H (revC c o n)) 55 ∧ Upd B w w' := by
  have HB := hidI hb
  clear hb
  go_enter Try.func33, Try.ntmps33
  go_wp2
  go_loopw [2, 3] (fun iv jv wr => ∃ k : Nat, iv = .int .i64 k ∧ jv = .int .i64 ((n : Int) - 1 - k) ∧ 2 * k ≤ n + 1 ∧ Blk wr B (gv W H (revTo c o n k)) 55 ∧ Upd B w wr) (fun iv _ _ => n - (intOf iv).toNat)
  case atStart => exact ⟨0, rfl, by congr 1; omega, by omega, by rw [revTo_zero]; exact HB.out, Upd.refl _ _⟩
  case round =>
    obtain ⟨k, rfl, rfl, hk, b1, uu⟩ := hrel
    by_cases hlt : 2 * k + 1 < n
    · have hlen := revTo_length c o n k
      have h1 := revTo_at c o n k (o + k) (by omega)
      have h2 := revTo_at c o n k (o + (n - 1 - k)) (by omega)
      have hs1 := gv_set W H (revTo c o n k) (o + k) (at0 c (o + (n - 1 - k))) (by omega) (by omega)
      have hs2 := gv_set W H ((revTo c o n k).set (o + k) (at0 c (o + (n - 1 - k)))) (o + (n - 1 - k)) (at0 c (o + k)) (by omega) (by rw [List.length_set]; omega)
      rw [revTo_succ c o n k hlt] at hs2
      rw [← Nat.add_assoc] at hs1 hs2
      have c1 := (gcells b1).2.2 (o + k) (by omega)
      have c2 := (gcells b1).2.2 (o + (n - 1 - k)) (by omega)
      rw [h1, ← Nat.add_assoc] at c1
      rw [h2, ← Nat.add_assoc] at c2
      obtain ⟨m, hm⟩ : ∃ m, m = n - 1 - k := ⟨_, rfl⟩
      rw [← hm] at c2 hs1 hs2
      obtain ⟨p, hp⟩ : ∃ p, p = at0 c (o + k) := ⟨_, rfl⟩
      obtain ⟨q, hq⟩ : ∃ q, q = at0 c (o + m) := ⟨_, rfl⟩
      rw [← hp] at c1 hs2
      rw [← hq] at c2 hs1 hs2
      have hjm : (n : Int) - 1 - (k : Int) = (m : Int) := by omega
      rw [hjm]
      have hkm : (k : Int) < (m : Int) := by omega
      have hmn : m < n := by omega
      have hkn : k < n := by omega
      have HS1 := hidI hs1
      have HS2 := hidI hs2
      have HM := hidI hm
      have HJM := hidI hjm
      clear hs1 hs2 hm hp hq h1 h2 hlen hjm
      go_wp2
      have gd := (Gr.refl wr).drew
      have b1 := gd.blk b1
      have c1 := gd.cell c1
      have c2 := gd.cell c2
      have uu := uu.trans (Upd.drew' B wr)
      refine F_begin (fun w => w.cell? ⟨B, 2 + o + k, none⟩ = some (.int .u8 p.toNat) ∧ w.cell? ⟨B, 2 + o + m, none⟩ = some (.int .u8 q.toNat)) 13 16 #[false, false, false, false, false, false, false, false, false, false, false, false, false, false, false, false] rfl (by kernel_rfl) (by kernel_rfl) ?_
      generalize wr.drew = wd at *
      have hFF := And.intro c1 c2
      refine F_free (v := .slice (some ⟨B, 2 + o, none⟩) n cap) 0 #[true, false, false, false, false, false, false, false, false, false, false, false, false, false, false, false] rfl (by kernel_rfl) (fun _ _ _ h => h) rfl (fun _ => rfl) (hFF) ?_; simp only [Act.put, List.setIfInBounds_toArray, List.set_cons_succ, List.set_cons_zero]
      refine F_free (v := .int .i64 k) 1 #[true, true, false, false, false, false, false, false, false, false, false, false, false, false, false, false] rfl (by kernel_rfl) (fun _ _ _ h => h) rfl (fun _ => rfl) (hFF) ?_; simp only [Act.put, List.setIfInBounds_toArray, List.set_cons_succ, List.set_cons_zero]
      refine F_free (v := .slice (some ⟨B, 2 + o, none⟩) n cap) 2 #[true, true, true, false, false, false, false, false, false, false, false, false, false, false, false, false] rfl (by kernel_rfl) (fun _ _ _ h => h) rfl (fun _ => rfl) (hFF) ?_; simp only [Act.put, List.setIfInBounds_toArray, List.set_cons_succ, List.set_cons_zero]
      refine F_free (v := .int .i64 m) 3 #[true, true, true, true, false, false, false, false, false, false, false, false, false, false, false, false] rfl (by kernel_rfl) (fun _ _ _ h => h) rfl (fun _ => rfl) (hFF) ?_; simp only [Act.put, List.setIfInBounds_toArray, List.set_cons_succ, List.set_cons_zero]
      refine F_free (v := .slice (some ⟨B, 2 + o, none⟩) n cap) 4 #[true, true, true, true, true, false, false, false, false, false, false, false, false, false, false, false] rfl (by kernel_rfl) (fun _ _ _ h => h) rfl (fun _ => rfl) (hFF) ?_; simp only [Act.put, List.setIfInBounds_toArray, List.set_cons_succ, List.set_cons_zero]
      refine F_free (v := .int .i64 m) 5 #[true, true, true, true, true, true, false, false, false, false, false, false, false, false, false, false] rfl (by kernel_rfl) (fun _ _ _ h => h) rfl (fun _ => rfl) (hFF) ?_; simp only [Act.put, List.setIfInBounds_toArray, List.set_cons_succ, List.set_cons_zero]
      refine F_free (v := .pointer (some ⟨B, 2 + o + m, none⟩)) 6 #[true, true, true, true, true, true, true, false, false, false, false, false, false, false, false, false] rfl (by kernel_rfl) (fun _ _ _ h => h) rfl (fun _ => e_val _ _ (Try.six B (2 + o) n cap m hmn _)) (hFF) ?_; simp only [Act.put, List.setIfInBounds_toArray, List.set_cons_succ, List.set_cons_zero]
      refine F_take (v := .int .u8 q.toNat) 7 #[true, true, true, true, true, true, true, true, false, false, false, false, false, false, false, false] rfl (by kernel_rfl) (fun _ _ _ h => h) rfl (fun w hF => e_load 5 (.tmp 20) ⟨B, 2 + o + m, none⟩ (.int .u8 q.toNat) rfl (Try.isAgg5 _) hF.2) (hFF) ?_; simp only [Act.put, List.setIfInBounds_toArray, List.set_cons_succ, List.set_cons_zero]
      refine F_free (v := .slice (some ⟨B, 2 + o, none⟩) n cap) 8 #[true, true, true, true, true, true, true, true, true, false, false, false, false, false, false, false] rfl (by kernel_rfl) (fun _ _ _ h => h) rfl (fun _ => rfl) (hFF) ?_; simp only [Act.put, List.setIfInBounds_toArray, List.set_cons_succ, List.set_cons_zero]
      refine F_free (v := .int .i64 k) 9 #[true, true, true, true, true, true, true, true, true, true, false, false, false, false, false, false] rfl (by kernel_rfl) (fun _ _ _ h => h) rfl (fun _ => rfl) (hFF) ?_; simp only [Act.put, List.setIfInBounds_toArray, List.set_cons_succ, List.set_cons_zero]
      refine F_free (v := .pointer (some ⟨B, 2 + o + k, none⟩)) 10 #[true, true, true, true, true, true, true, true, true, true, true, false, false, false, false, false] rfl (by kernel_rfl) (fun _ _ _ h => h) rfl (fun _ => e_val _ _ (Try.six B (2 + o) n cap k hkn _)) (hFF) ?_; simp only [Act.put, List.setIfInBounds_toArray, List.set_cons_succ, List.set_cons_zero]
      refine F_take (v := .int .u8 p.toNat) 11 #[true, true, true, true, true, true, true, true, true, true, true, true, false, false, false, false] rfl (by kernel_rfl) (fun _ _ _ h => h) rfl (fun w hF => e_load 5 (.tmp 24) ⟨B, 2 + o + k, none⟩ (.int .u8 p.toNat) rfl (Try.isAgg5 _) hF.1) (hFF) ?_; simp only [Act.put, List.setIfInBounds_toArray, List.set_cons_succ, List.set_cons_zero]
      refine F_free (v := .pointer (some ⟨B, 2 + o + k, none⟩)) 12 #[true, true, true, true, true, true, true, true, true, true, true, true, true, false, false, false] rfl (by kernel_rfl) (fun _ _ _ h => h) rfl (fun _ => e_val _ _ (Try.six B (2 + o) n cap k hkn _)) (hFF) ?_; simp only [Act.put, List.setIfInBounds_toArray, List.set_cons_succ, List.set_cons_zero]
      refine F_one 13 #[true, true, true, true, true, true, true, true, true, true, true, true, true, true, false, false] rfl (by kernel_rfl) ?_
      refine r_store_cell 5 55 _ _ B (2 + o + k) rfl (byteV q) rfl _ b1 (by rw [gv_size]; omega) Try.sizeOf5 rfl rfl ?_
      intro w10 u10 b10
      rw [HS1.out] at b10
      simp only [Act.put]
      refine ⟨fun h => (by cases h), ?_⟩
      refine F_one 14 #[true, true, true, true, true, true, true, true, true, true, true, true, true, true, true, false] rfl (by kernel_rfl) ?_
      refine r_val (.pointer (some ⟨B, 2 + o + m, none⟩)) (e_val _ _ (Try.six B (2 + o) n cap m hmn _)) rfl ?_
      simp only [Act.put, List.setIfInBounds_toArray, List.set_cons_succ, List.set_cons_zero]
      refine ⟨fun h => (by cases h), ?_⟩
      refine F_one 15 #[true, true, true, true, true, true, true, true, true, true, true, true, true, true, true, true] rfl (by kernel_rfl) ?_
      refine r_store_cell 5 55 _ _ B (2 + o + m) rfl (byteV p) rfl _ b10 (by rw [gv_size]; omega) Try.sizeOf5 rfl rfl ?_
      intro w11 u11 b11
      rw [HS2.out] at b11
      simp only [Act.put]
      refine ⟨fun h => (by cases h), ?_⟩
      refine F_done (by kernel_rfl) ?_
      go_wp2
      go_roundw
      case rel => exact ⟨k + 1, by go_num, by rw [← HJM.out]; congr 1; omega, by omega, b11, (uu.trans u10).trans u11⟩
      case measure => simp [intOf]; omega
    · have he := revTo_end c o n k (by omega)
      rw [he] at b1
      have hnl : ¬ ((k : Int) < (n : Int) - 1 - k) := by omega
      clear he
      go_wp2
      go_end0
      exact ⟨rfl, b1, uu⟩
set_option maxHeartbeats 2000000 in
set_option maxRecDepth 100000 in
theorem mirrored_any (W H : Nat) (c : List UInt8) (w : World) (hW1 : 1 ≤ W ∨ H = 0) (hW : W ≤ 7) (hH : H ≤ 7) (h36 : nn W H ≤ 36) (hlen : c.length = nn W H) :
    Calls Try.prog 31 #[.agg (gv W H c)] w (Ret (.agg (gv W H (miC W H c))) w) := by
  have gg := Gr.refl w
  have HZ := hidI (miTo_zero W H c hlen)
  go_enter Try.func31, Try.ntmps31
  go_wp2_with (first | (refine r_box 55 _ (gv W H c) rfl rfl ?_; intro w1 B1 N1; have g1 := N1.gr; have b1 : Blk w1 B1 (gv W H c) 55 := N1.blk; have l1 := N1.lo; have t1 := N1.hi; have z1 := g1.size; have gg := gg.trans g1; clear N1; obtain ⟨b1_0, b1_1, b1_2⟩ := gcells b1) | (refine r_alloc 55 _ Try.gzero rfl ?_; intro w2 B2 N2; have g2 := N2.gr; have b2 : Blk w2 B2 (gv 0 0 []) 55 := N2.blk; have l2 := N2.lo; have t2 := N2.hi; have z2 := g2.size; have b1 := g2.blk b1; obtain ⟨b1_0, b1_1, b1_2⟩ := gcells b1; have gg := gg.trans g2; clear N2; obtain ⟨b2_0, b2_1, b2_2⟩ := gcells b2))
  go_loopw [3, 6] (fun _ i wr => ∃ k : Nat, k ≤ H ∧ i = .int .i64 k ∧ Blk wr B1 (gv W H (miTo W H c k)) 55 ∧ Blk wr B2 (gv 0 0 []) 55 ∧ Gr w wr) (fun _ i _ => H - (intOf i).toNat)
  case atStart => exact ⟨0, Nat.zero_le _, rfl, by rw [HZ.out]; exact b1, b2, gg⟩
  case round =>
    obtain ⟨k, hk, rfl, b1, b2, gg⟩ := hrel
    have hB12 : B1 < B2 := by omega
    have lo1 : w.heap.size ≤ B1 := by omega
    have lo2 : w.heap.size ≤ B2 := by omega
    by_cases hlt : k < H
    · have hle := nn_row (W := W) hlt
      have hW1' : 1 ≤ W := by omega
      have hml := miTo_length W H c k
      have HS := hidI (miTo_succ W H c k hW1' hlt)
      go_wp2_with (first | (go_at_call 34; refine (rowOf_any B1 W H k _ _ b1 hW1' hW hlt h36 hH).mono ?_; rintro e w6 ⟨rfl, m, rfl⟩; have g6 := (Gr.refl wr).drewN m; have b1 := g6.blk b1; have b2 := g6.blk b2; have gg := gg.trans g6) | (go_at_call 33; refine (reverse_any B1 (nn W k) W W W H _ _ b1 hW1' (by omega) (by omega)).mono ?_; rintro e w7 ⟨rfl, b7, u7⟩; rw [HS.out] at b7; have b2 := u7.blk b2 (by omega); have gg := u7.gr gg lo1))
      go_roundw
      case rel => exact ⟨k + 1, by omega, by go_num, b7, b2, gg⟩
      case measure => simp [intOf]; omega
    · obtain rfl : k = H := by omega
      clear hlt
      rw [miTo_end] at b1
      go_wp2_with (first | (refine r_load_row 55 _ _ rfl _ _ _ b1 Try.underlying55 rfl (Try.ginfo' _ _ _) rfl ?_) | (refine r_store_row 55 55 _ _ _ rfl (gv _ _ _) _ rfl b2 (Try.gsize' _ _ _) (by simp only [gv_size]) (gv_one _ _ _) rfl ?_; intro w8 u8 b2'; have z8 := u8.size; have gg := u8.gr gg (by omega); clear b2; have b2 := b2'; clear b2'; obtain ⟨b2_0, b2_1, b2_2⟩ := gcells b2))
      refine bodyPost_ret (results_row rfl _ _ _ _ _ _ rfl b2 Try.underlying55 rfl (Try.ginfo' _ _ _)) rfl ⟨?_, gg⟩
      rfl
theorem Try.gf0 (B : Nat) (w : World) : (Instr.fieldAt 55 (.pointer (some ⟨B, 0, none⟩)) 0).run Try.prog w = .ok (.pointer (some ⟨B, 0, none⟩)) w := by kernel_rfl
theorem Try.gf1 (B : Nat) (w : World) : (Instr.fieldAt 55 (.pointer (some ⟨B, 0, none⟩)) 1).run Try.prog w = .ok (.pointer (some ⟨B, 1, none⟩)) w := by kernel_rfl
theorem Try.gf2 (B : Nat) (w : World) : (Instr.fieldAt 55 (.pointer (some ⟨B, 0, none⟩)) 2).run Try.prog w = .ok (.pointer (some ⟨B, 2, none⟩)) w := by kernel_rfl
set_option maxHeartbeats 2000000 in
set_option maxRecDepth 100000 in
theorem transposed_any (W H : Nat) (c : List UInt8) (w : World) (hW : W ≤ 7) (hH : H ≤ 7) (h36 : nn W H ≤ 36) (hlen : c.length = nn W H) :
    Calls Try.prog 35 #[.agg (gv W H c)] w (Ret (.agg (gv H W (trC W H c))) w) := by
  have gg := Gr.refl w
  have HZ := hidI (gv_ext (W := H) (H := W) fun i _ => trTo_zero W H c i)
  have HE := hidI (gv_ext (W := H) (H := W) fun i hi => trTo_fin W H c i hi)
  have h36' : nn H W ≤ 36 := by rw [nn_comm]; exact h36
  go_enter Try.func35, Try.ntmps35
  go_wp2_with (first | (refine r_box 55 _ (gv W H c) rfl rfl ?_; intro w1 B1 N1; have g1 := N1.gr; have b1 : Blk w1 B1 (gv W H c) 55 := N1.blk; have l1 := N1.lo; have t1 := N1.hi; have z1 := g1.size; have gg := gg.trans g1; clear N1; obtain ⟨b1_0, b1_1, b1_2⟩ := gcells b1) | (refine r_alloc (dst := some 2) 55 _ Try.gzero rfl ?_; intro w2 B2 N2; have g2 := N2.gr; have b2 : Blk w2 B2 (gv 0 0 []) 55 := N2.blk; have l2 := N2.lo; have t2 := N2.hi; have z2 := g2.size; have b1 := g2.blk b1; obtain ⟨b1_0, b1_1, b1_2⟩ := gcells b1; have gg := gg.trans g2; clear N2; obtain ⟨b2_0, b2_1, b2_2⟩ := gcells b2) | (refine r_build 55 [(0, .tmp 8), (1, .tmp 10)] [(0, .int .i64 (H)), (1, .int .i64 (W))] _ (Try.gbuild _ _ _) rfl rfl ?_) | (refine r_alloc (dst := some 3) 55 _ Try.gzero rfl ?_; intro w3 B3 N3; have g3 := N3.gr; have b3 : Blk w3 B3 (gv 0 0 []) 55 := N3.blk; have l3 := N3.lo; have t3 := N3.hi; have z3 := g3.size; have b1 := g3.blk b1; obtain ⟨b1_0, b1_1, b1_2⟩ := gcells b1; have b2 := g3.blk b2; have gg := gg.trans g3; clear N3; obtain ⟨b3_0, b3_1, b3_2⟩ := gcells b3) | (refine r_store_row 55 55 _ _ _ rfl (gv H W []) _ rfl b3 (Try.gsize' _ _ _) (by simp only [gv_size]) (gv_one _ _ _) rfl ?_; intro w4 u4 b3'; have z4 := u4.size; have gg := u4.gr gg (by omega); have b1 := u4.blk b1 (by omega); obtain ⟨b1_0, b1_1, b1_2⟩ := gcells b1; have b2 := u4.blk b2 (by omega); clear b3; have b3 := b3'; clear b3'; obtain ⟨b3_0, b3_1, b3_2⟩ := gcells b3) | (refine r_load_row 55 _ _ rfl _ _ _ b1 Try.underlying55 rfl (Try.ginfo' _ _ _) rfl ?_) | (go_at_call 29; refine (countAll_any W H c _ hW hH).mono ?_; rintro e w5 ⟨rfl, g5⟩; have z5 := g5.size; have b1 := g5.blk b1; obtain ⟨b1_0, b1_1, b1_2⟩ := gcells b1; have b2 := g5.blk b2; have b3 := g5.blk b3; have gg := gg.trans g5))
  rw [← HZ.out] at b3
  go_loopw [4, 5, 6, 14] (fun _ _ _ i wr => ∃ k : Nat, k ≤ nn W H ∧ i = .int .i64 k ∧ Blk wr B1 (gv W H c) 55 ∧ Blk wr B2 (gv 0 0 []) 55 ∧ Blk wr B3 (gv H W (trTo W H c k)) 55 ∧ Gr w wr) (fun _ _ _ i _ => nn W H - (intOf i).toNat)
  case atStart => exact ⟨0, Nat.zero_le _, rfl, b1, b2, b3, gg⟩
  case round =>
    obtain ⟨k, hk, rfl, b1, b2, b3, gg⟩ := hrel
    have hB12 : B1 < B2 := by omega
    have hB23 : B2 < B3 := by omega
    have lo2 : w.heap.size ≤ B2 := by omega
    have lo3 : w.heap.size ≤ B3 := by omega
    by_cases hlt : k < nn W H
    · have hW1 : 0 < W := by
        rcases Nat.eq_zero_or_pos W with h | h
        · rw [h] at hlt; unfold nn at hlt; omega
        · exact h
      have hy : k / W < H := row_lt hlt
      have hx : k % W < W := Nat.mod_lt _ hW1
      have hH1 : 1 ≤ H := Nat.lt_of_le_of_lt (Nat.zero_le _) hy
      have hle := nn_row (W := H) hx
      have hk36 : k < 36 := by omega
      obtain ⟨x, hxe⟩ : ∃ x, x = k % W := ⟨_, rfl⟩
      obtain ⟨y, hye⟩ : ∃ y, y = k / W := ⟨_, rfl⟩
      have hts := trTo_succ W H c k hW1 hlt
      rw [← hxe] at hx hle hts
      rw [← hye] at hy hts
      have hset := gv_set H W (trTo W H c k) (nn H x + y) (at0 c k) (by omega) (by rw [trTo_length]; omega)
      rw [hts, ← Nat.add_assoc] at hset
      have HSET := hidI hset
      have HXE := hidI hxe
      have HYE := hidI hye
      clear hset hts hxe hye
      obtain ⟨b1_0, b1_1, b1_2⟩ := gcells b1
      have c1 := b1_2 k hk36
      go_wp2
      refine q_whole (by kernel_rfl) (by kernel_rfl) ?_
      refine q_move _ (.int .i64 k) rfl rfl ?_; simp only [Act.put, List.setIfInBounds_toArray, List.set_cons_succ, List.set_cons_zero]
      refine q_take (.pointer (some ⟨B1, 0, none⟩)) rfl (fun w' hw' => e_val _ _ (Try.gf0 B1 _)) ?_; simp only [Act.put, List.setIfInBounds_toArray, List.set_cons_succ, List.set_cons_zero]
      refine q_take (.int .i64 W) rfl (fun w' hw' => e_load 3 (.tmp 18) ⟨B1, 0, none⟩ _ rfl (Try.isAgg3 _) (hw'.cell b1_0)) ?_; simp only [Act.put, List.setIfInBounds_toArray, List.set_cons_succ, List.set_cons_zero]
      refine q_rem _ _ _ _ (k) (W) rfl rfl (hW1) rfl ?_; simp only [Act.put, List.setIfInBounds_toArray, List.set_cons_succ, List.set_cons_zero]
      refine q_move _ (.int .i64 k) rfl rfl ?_; simp only [Act.put, List.setIfInBounds_toArray, List.set_cons_succ, List.set_cons_zero]
      refine q_take (.pointer (some ⟨B1, 0, none⟩)) rfl (fun w' hw' => e_val _ _ (Try.gf0 B1 _)) ?_; simp only [Act.put, List.setIfInBounds_toArray, List.set_cons_succ, List.set_cons_zero]
      refine q_take (.int .i64 W) rfl (fun w' hw' => e_load 3 (.tmp 22) ⟨B1, 0, none⟩ _ rfl (Try.isAgg3 _) (hw'.cell b1_0)) ?_; simp only [Act.put, List.setIfInBounds_toArray, List.set_cons_succ, List.set_cons_zero]
      refine q_quo _ _ _ _ (k) (W) rfl rfl (hW1) (by omega) rfl ?_; simp only [Act.put, List.setIfInBounds_toArray, List.set_cons_succ, List.set_cons_zero]
      refine q_assign _ (.int .i64 (k % W : Nat)) rfl rfl ?_; simp only [Act.put, List.setIfInBounds_toArray, List.set_cons_succ, List.set_cons_zero]
      refine q_assign _ (.int .i64 (k / W : Nat)) rfl rfl ?_; simp only [Act.put, List.setIfInBounds_toArray, List.set_cons_succ, List.set_cons_zero]
      rw [← HXE.out, ← HYE.out]
      refine wpQuiet_nil ?_; intro w6 g6; have z6 := g6.size; have b1 := g6.blk b1; have b2 := g6.blk b2; have b3 := g6.blk b3; have gg := gg.trans g6
      have c1 := g6.cell c1
      go_wp2
      refine q_begin 8 (by kernel_rfl) (by kernel_rfl) ?_; simp only [List.take_succ_cons, List.take_zero, List.drop_succ_cons, List.drop_zero]
      refine q_move _ (.int .i64 x) rfl rfl ?_; simp only [Act.put, List.setIfInBounds_toArray, List.set_cons_succ, List.set_cons_zero]
      refine q_call 34 [.tmp 3, .tmp 25] _ [.pointer (some ⟨B3, 0, none⟩), .int .i64 x] (.slice (some ⟨B3, 2 + nn H x, none⟩) H H) Try.call34 rfl rfl (fun w' hw' => ((rowOf_any B3 H W x _ w' (hw'.blk b3) hH1 hH hx h36' hW).mono fun e w'' h => ⟨h.1, by obtain ⟨n, hn⟩ := h.2; rw [hn]; exact Gr.drewN hw' n⟩)) ?_; simp only [Act.put, List.setIfInBounds_toArray, List.set_cons_succ, List.set_cons_zero]
      refine q_move _ (.int .i64 y) rfl rfl ?_; simp only [Act.put, List.setIfInBounds_toArray, List.set_cons_succ, List.set_cons_zero]
      refine q_move _ (.int .i64 k) rfl rfl ?_; simp only [Act.put, List.setIfInBounds_toArray, List.set_cons_succ, List.set_cons_zero]
      refine q_take (.pointer (some ⟨B1, 2, none⟩)) rfl (fun w' hw' => e_val _ _ (Try.gf2 B1 _)) ?_; simp only [Act.put, List.setIfInBounds_toArray, List.set_cons_succ, List.set_cons_zero]
      refine q_take (.pointer (some ⟨B1, 2 + k, none⟩)) rfl (fun w' hw' => e_val _ _ (Try.gix B1 k hk36 _)) ?_; simp only [Act.put, List.setIfInBounds_toArray, List.set_cons_succ, List.set_cons_zero]
      refine q_take (.int .u8 (at0 c k).toNat) rfl (fun w' hw' => e_load 5 (.tmp 30) ⟨B1, 2 + k, none⟩ _ rfl (Try.isAgg5 _) (hw'.cell c1)) ?_; simp only [Act.put, List.setIfInBounds_toArray, List.set_cons_succ, List.set_cons_zero]
      refine q_take (.pointer (some ⟨B3, 2 + nn H x + y, none⟩)) rfl (fun w' hw' => e_val _ _ (Try.six B3 (2 + nn H x) H H y hy _)) ?_; simp only [Act.put, List.setIfInBounds_toArray, List.set_cons_succ, List.set_cons_zero]
      refine wpQuiet_nil ?_; intro w7 g7; have z7 := g7.size; have b1 := g7.blk b1; have b2 := g7.blk b2; have b3 := g7.blk b3; have gg := gg.trans g7
      go_wp2_with (refine r_store_cell 5 55 _ _ B3 (2 + nn H x + y) rfl (byteV (at0 c k)) rfl _ b3 (by rw [gv_size]; omega) Try.sizeOf5 rfl rfl ?_; intro w10 u10 b10; rw [HSET.out] at b10; have b1 := u10.blk b1 (by omega); have b2 := u10.blk b2 (by omega); have gg := u10.gr gg lo3)
      go_roundw
      case rel => exact ⟨k + 1, by omega, by go_num, b1, b2, b10, gg⟩
      case measure => simp [intOf]; omega
    · obtain rfl : k = nn W H := by omega
      clear hlt
      rw [HE.out] at b3
      go_wp2_with (first | (refine r_load_row 55 _ _ rfl _ _ _ b3 Try.underlying55 rfl (Try.ginfo' _ _ _) rfl ?_) | (refine r_store_row 55 55 _ _ _ rfl (gv _ _ _) _ rfl b2 (Try.gsize' _ _ _) (by simp only [gv_size]) (gv_one _ _ _) rfl ?_; intro w8 u8 b2'; have z8 := u8.size; have gg := u8.gr gg (by omega); clear b2; have b2 := b2'; clear b2'; obtain ⟨b2_0, b2_1, b2_2⟩ := gcells b2))
      refine bodyPost_ret (results_row rfl _ _ _ _ _ _ rfl b2 Try.underlying55 rfl (Try.ginfo' _ _ _)) rfl ⟨?_, gg⟩
      rfl
set_option maxHeartbeats 1000000 in
set_option maxRecDepth 100000 in
theorem turned_any (W H : Nat) (c : List UInt8) (w : World) (hH1 : 1 ≤ H ∨ W = 0) (hW : W ≤ 7) (hH : H ≤ 7) (h36 : nn W H ≤ 36) (hlen : c.length = nn W H) :
    Calls Try.prog 32 #[.agg (gv W H c)] w (Ret (.agg (gv H W (tuS W H c))) w) := by
  have gg := Gr.refl w
  have h36' : nn H W ≤ 36 := by rw [nn_comm]; exact h36
  have hl2 : (trC W H c).length = nn H W := by rw [trC_length, nn_comm]
  have HT := hidI (tuS_all W H c)
  go_enter Try.func32, Try.ntmps32
  go_wp2_with (first | (refine r_box 55 _ (gv W H c) rfl rfl ?_; intro w1 B1 N1; have g1 := N1.gr; have b1 : Blk w1 B1 (gv W H c) 55 := N1.blk; have l1 := N1.lo; have t1 := N1.hi; have z1 := g1.size; have gg := gg.trans g1; clear N1; obtain ⟨b1_0, b1_1, b1_2⟩ := gcells b1) | (refine r_alloc 55 _ Try.gzero rfl ?_; intro w2 B2 N2; have g2 := N2.gr; have b2 : Blk w2 B2 (gv 0 0 []) 55 := N2.blk; have l2 := N2.lo; have t2 := N2.hi; have z2 := g2.size; have b1 := g2.blk b1; have gg := gg.trans g2; clear N2; obtain ⟨b2_0, b2_1, b2_2⟩ := gcells b2) | (refine r_load_row 55 _ _ rfl _ _ _ b1 Try.underlying55 rfl (Try.ginfo' _ _ _) rfl ?_) | (go_at_call 35; refine (transposed_any W H c _ hW hH h36 hlen).mono ?_; rintro e w3 ⟨rfl, g3⟩; have z3 := g3.size; have b2 := g3.blk b2; have gg := gg.trans g3) | (go_at_call 31; refine (mirrored_any H W (trC W H c) _ hH1 hH hW h36' hl2).mono ?_; rintro e w4 ⟨rfl, g4⟩; rw [HT.out]; have z4 := g4.size; have b2 := g4.blk b2; have gg := gg.trans g4) | (refine r_store_row 55 55 _ _ _ rfl (gv H W (tuS W H c)) _ rfl b2 (Try.gsize' _ _ _) (by simp only [gv_size]) (gv_one _ _ _) rfl ?_; intro w5 u5 b2'; have z5 := u5.size; have gg := u5.gr gg (by omega); clear b2; have b2 := b2'; clear b2'; obtain ⟨b2_0, b2_1, b2_2⟩ := gcells b2))
  refine bodyPost_ret (results_row rfl _ _ _ _ _ _ rfl b2 Try.underlying55 rfl (Try.ginfo' _ _ _)) rfl ⟨?_, gg⟩
  rfl
theorem rd_both (l : List UInt8) : (1 ≤ (rdG l).w ∧ 1 ≤ (rdG l).h) ∨ ((rdG l).w = 0 ∧ (rdG l).h = 0) := by
  rcases rd_cases l with ⟨_, hg, _⟩ | ⟨g, hp, hg, _⟩
  · rw [hg]; exact .inr ⟨rfl, rfl⟩
  · rw [hg]; exact .inl ⟨(parse_tray hp).w1, (parse_tray hp).h1⟩
def tuB (l : List UInt8) : ByteArray := txtB (rdG l).h (rdG l).w (tuS (rdG l).w (rdG l).h (rdG l).c)
def miB (l : List UInt8) : ByteArray := txtB (rdG l).w (rdG l).h (miC (rdG l).w (rdG l).h (rdG l).c)
def trB (l : List UInt8) : ByteArray := txtB (rdG l).h (rdG l).w (trC (rdG l).w (rdG l).h (rdG l).c)
end Go.Proofs.Ytmjmjibokombiaa
