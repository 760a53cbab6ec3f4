/-
  What the program's functions on single cells and on the text of a grid return.
  What the program's functions on a tray's text that look at its cells return: how many cells have a text.
  What the program's functions that return texts of cells return: one cell, and the text of a whole grid.
  What the program's functions that change a tray's cells return: one cell put, and all balls taken out.
  What the program's functions that turn and mirror trays return.
-/
import Derived.Test.YtpdmfbhjneodeaaGreatDoorBRd
import Derived.Test.YtpdmfbhjneodeaaGreatDoorBKit
import Derived.Test.YtpdmfbhjneodeaaGreatDoorBTxt
import Derived.Test.YtpdmfbhjneodeaaGreatDoorShelf
import Derived.Test.YtpdmfbhjneodeaaGreatDoorBTy
namespace Go.Proofs.YtpdmfbhjneodeaaGreatDoor
open Go.RowKit
/-- The first byte of a text. -/
def hd (s : ByteArray) : UInt8 := s.data.toList.headD 0
theorem one_of (s : ByteArray) (h : s.size = 1) : s = ⟨#[hd s]⟩ := by
  obtain ⟨⟨l⟩⟩ := s
  have h' : l.length = 1 := h
  match l, h' with
  | [b], _ => rfl
theorem hd_one (b : UInt8) : hd ⟨#[b]⟩ = b := rfl
/-- The text is one cell. -/
def oneB (s : ByteArray) : Bool := decide (s.size = 1) && isCellB (hd s)
def isNameB (b : UInt8) : Bool := 97 ≤ b && b ≤ 102
def nameS (s : ByteArray) : Bool := decide (s.size = 1) && isNameB (hd s)
theorem index_name (b : UInt8) : (Lib.indexByte [97, 98, 99, 100, 101, 102] b < 0) ↔ isNameB b = false := by
  have h : ∀ n : Fin 256, (Lib.indexByte [97, 98, 99, 100, 101, 102] (UInt8.ofNat n.val) < 0) ↔ isNameB (UInt8.ofNat n.val) = false := of_decide_eq_true (by kernel_rfl)
  have := h ⟨b.toNat, b.toNat_lt⟩
  simpa using this
theorem dec_index {x : Int} {b : Bool} (h : x < 0 ↔ b = false) : decide (0 ≤ x) = b := by
  cases b
  · have := h.2 rfl
    simpa using this
  · have : ¬ x < 0 := fun e => by have := h.1 e; cases this
    simpa using this
theorem s_idx0 {P : Program} {T : TypeId} (hu : P.underlying T = some .string) (b : UInt8) (w : World) : (Instr.index T (.string ⟨#[b]⟩) (.int .i64 0)).run P w = .ok (.int .u8 b.toNat) w := by
  have h := run_index_string (P := P) w T ⟨#[b]⟩ .i64 0 hu
  rw [h, dif_pos ⟨Int.le_refl 0, by show (0 : Int) < ((1 : Nat) : Int); decide⟩]
  rfl
end Go.Proofs.YtpdmfbhjneodeaaGreatDoor
namespace Go.Proofs.YtpdmfbhjneodeaaGreatDoor
open Go.RowKit
theorem rd_cases (l : List UInt8) : (parse l = none ∧ rdG l = ⟨0, 0, []⟩ ∧ rdOk l = false) ∨ ∃ g, parse l = some g ∧ rdG l = g ∧ rdOk l = true := by
  cases h : parse l with
  | none => exact .inl ⟨rfl, by unfold rdG rdOk; rw [h]; exact ⟨rfl, rfl⟩⟩
  | some g => exact .inr ⟨g, rfl, by unfold rdG rdOk; rw [h]; exact ⟨rfl, rfl⟩⟩
structure Tray (g : Grid) : Prop where
  w1 : 1 ≤ g.w
  h1 : 1 ≤ g.h
  w7 : g.w ≤ 7
  h7 : g.h ≤ 7
  n36 : nn g.w g.h ≤ 36
  len : g.c.length = nn g.w g.h
  cells : ∀ i, i < g.c.length → isCellB (at0 g.c i) = true
theorem parse_tray {l : List UInt8} {g : Grid} (h : parse l = some g) : Tray g := by
  obtain ⟨⟨a, b, c, d⟩, e, f⟩ := parse_fits h
  obtain ⟨k, _, hc⟩ := parse_some h
  refine ⟨e, f, a, b, c, d, ?_⟩
  rw [hc]
  exact (all_at0 _ isCellB).1 (List.all_eq_true.2 k.cells)
theorem fin_nb {a c : Int} {x y : Bool} (h1 : a = c) (h2 : x = y) : Ending.returned (.tuple #[.int .i64 a, .bool x]) = .returned (.tuple #[.int .i64 c, .bool y]) := by rw [h1, h2]
theorem fin_sb {a c : ByteArray} {x y : Bool} (h1 : a = c) (h2 : x = y) : Ending.returned (.tuple #[.string a, .bool x]) = .returned (.tuple #[.string c, .bool y]) := by rw [h1, h2]
def ccOk (l : List UInt8) (c : ByteArray) : Bool := rdOk l && oneB c
def ccN (l : List UInt8) (c : ByteArray) : Nat := if ccOk l c then (rdG l).c.count (hd c) else 0
end Go.Proofs.YtpdmfbhjneodeaaGreatDoor
namespace Go.Proofs.YtpdmfbhjneodeaaGreatDoor
open Go.RowKit
theorem bytes_one {w : World} {B o : Nat} {b : UInt8} (h : w.cell? ⟨B, o, none⟩ = some (.int .u8 b.toNat)) : Lib.Bytes w B o ⟨#[b]⟩ := by
  intro i hi
  have : i = 0 := by
    have : i < 1 := hi
    omega
  subst this
  exact h
theorem rowB_at (W : Nat) (c : List UInt8) (y i : Nat) (h : i < (rowB W c y).size) : (rowB W c y)[i] = at0 c (nn W y + i) := by
  have hi : i < W := by rw [rowB_size] at h; exact h
  rw [ByteArray.getElem_eq_getElem_data]
  have e := rowL_get W c y i hi
  unfold rowB
  simp only []
  rw [List.getElem?_eq_getElem (by rw [rowL_length]; exact hi)] at e
  exact Option.some.inj e
theorem bytes_row {w : World} {B o W y : Nat} {c : List UInt8} (h : ∀ i, i < W → w.cell? ⟨B, o + i, none⟩ = some (.int .u8 (at0 c (nn W y + i)).toNat)) : Lib.Bytes w B o (rowB W c y) := by
  intro i hi
  rw [rowB_at, h i (by rw [rowB_size] at hi; exact hi)]
def caOk (l : List UInt8) (x y : Int) : Bool := rdOk l && (inB x (rdG l).w && inB y (rdG l).h)
def caB (l : List UInt8) (x y : Int) : ByteArray := if caOk l x y then ⟨#[at0 (rdG l).c (nn (rdG l).w y.toNat + x.toNat)]⟩ else ⟨#[]⟩
/-- The rows of a grid as texts, and empty texts behind them. -/
def rowsV (W : Nat) (c : List UInt8) (H k : Nat) : Array Value := ((List.range H).map fun y => Value.string (if y < k then rowB W c y else ⟨#[]⟩)).toArray
theorem rowsV_size (W : Nat) (c : List UInt8) (H k : Nat) : (rowsV W c H k).size = H := by simp [rowsV]
theorem rowsV_get (W : Nat) (c : List UInt8) (H k y : Nat) (h : y < H) : (rowsV W c H k)[y]? = some (Value.string (if y < k then rowB W c y else ⟨#[]⟩)) := by
  unfold rowsV
  rw [List.getElem?_toArray, List.getElem?_map, List.getElem?_range h]
  rfl
theorem rowsV_zero (W : Nat) (c : List UInt8) (H : Nat) : madeCells (Value.string ⟨#[]⟩).cells (H * 1) = rowsV W c H 0 := by
  apply Array.ext_getElem?
  intro j
  by_cases hj : j < H
  · rw [rowsV_get W c H 0 j hj, if_neg (by omega)]
    unfold madeCells
    simp [Value.cells, hj, Nat.mod_one]
  · rw [Array.getElem?_eq_none (by rw [size_madeCells]; omega), Array.getElem?_eq_none (by rw [rowsV_size]; omega)]
theorem rowsV_set (W : Nat) (c : List UInt8) (H k : Nat) (h : k < H) : (rowsV W c H k).setIfInBounds k (.string (rowB W c k)) = rowsV W c H (k + 1) := by
  apply Array.ext_getElem?
  intro j
  by_cases hj : j < H
  · rw [rowsV_get W c H (k + 1) j hj, Array.getElem?_setIfInBounds]
    by_cases e : k = j
    · subst e
      rw [if_pos rfl, rowsV_size, if_pos h, if_pos (by omega)]
    · rw [if_neg e, rowsV_get W c H k j hj]
      congr 2
      by_cases h2 : j < k
      · rw [if_pos h2, if_pos (by omega)]
      · rw [if_neg h2, if_neg (by omega)]
  · rw [Array.getElem?_eq_none (by rw [Array.size_setIfInBounds, rowsV_size]; omega), Array.getElem?_eq_none (by rw [rowsV_size]; omega)]
theorem join_len (W : Nat) (c : List UInt8) (H : Nat) (hW : W ≤ 7) (hH : H ≤ 7) : (txtL W c H).length ≤ 56 := by
  have := txtL_length W c H
  have := nn_le (x := W + 1) (y := H) (a := 8) (b := 7) (by omega) hH
  omega
theorem Tryz.sl1 (B off n cap x : Nat) (hx : x < cap) (w : World) : (Instr.sliceAt 29 (.slice (some ⟨B, off, none⟩) n cap) (some (.int .i64 x)) (some (.int .i64 ((x : Int) + 1))) none).run Tryz.prog w = .ok (.slice (some ⟨B, off + x, none⟩) 1 (cap - x)) w := by
  have hu : Tryz.prog.underlying 29 = some (.slice (Tryz.prog.elem 29)) := by kernel_rfl
  rw [run_sliceAt_slice w 29 _ _ _ _ hu]
  have h := Lib.run_slice_window (P := Tryz.prog) w 29 5 Tryz.underlying29 Tryz.sizeOf5 B off n cap x (x + 1) (by omega) (by omega)
  rw [show x + 1 - x = 1 by omega] at h
  exact h
theorem Tryz.conv (B o cap : Nat) (s : ByteArray) (w : World) (hc : Lib.Bytes w B o s) (n : Nat) (hn : s.size = n) : (convert 29 9 (.slice (some ⟨B, o, none⟩) n cap)).run Tryz.prog w = .ok (.string s) w := by
  subst hn
  exact Lib.run_convert_whole w 29 5 9 Tryz.underlying29 Tryz.underlying5 Tryz.underlying9 B o s hc cap
theorem Tryz.strI : ElemInfo Tryz.prog 47 9 (.string ⟨#[]⟩) 1 16 := ⟨Tryz.underlying47, by kernel_rfl, rfl, by decide⟩
theorem rowsV_cells {w : World} {B : Nat} {W H : Nat} {c : List UInt8} {T : TypeId} (h : Blk w B (rowsV W c H H) T) : ∀ (j : Nat) x, ((List.range H).map (rowB W c))[j]? = some x → w.cell? ⟨B, 0 + j, none⟩ = some (.string x) := by
  intro j x hx
  rw [List.getElem?_map] at hx
  rcases Nat.lt_or_ge j H with hj | hj
  · rw [List.getElem?_range hj] at hx
    have : rowB W c j = x := by simpa using hx
    subst this
    rw [Nat.zero_add, h.cell j, rowsV_get W c H H j hj, if_pos hj]
  · rw [List.getElem?_eq_none (by simpa using hj)] at hx
    cases hx
theorem rowsB_map (W : Nat) (c : List UInt8) (H : Nat) : ((List.range H).map (rowB W c)).map (·.data.toList) = rowsL W c H := by
  unfold rowsL rowB
  rw [List.map_map]
  apply List.map_congr_left
  intro y _
  simp
theorem join_rows (B W H : Nat) (c : List UInt8) (w : World) (hb : Blk w B (rowsV W c H H) 9) (hW : W ≤ 7) (hH : H ≤ 7) : Calls Tryz.prog 31 #[.slice (some ⟨B, 0, none⟩) H H, .string ⟨#[47]⟩] w (Ret (.string (txtB W H c)) w) := by
  have hl := join_len W c H hW hH
  have h := Tryz.strings_Join B 0 H ((List.range H).map (rowB W c)) ⟨#[47]⟩ w (rowsV_cells hb) hb.lt (by simp; omega) (by simp) (by rw [rowsB_map]; show (txtL W c H).length ≤ _; omega)
  rw [rowsB_map, List.length_map, List.length_range] at h
  exact h
set_option maxHeartbeats 2000000 in
set_option maxRecDepth 100000 in
theorem trayText_any (W H : Nat) (c : List UInt8) (w : World) (hW1 : 1 ≤ W ∨ H = 0) (hW : W ≤ 7) (hH : H ≤ 7) (h36 : nn W H ≤ 36) : Calls Tryz.prog 20 #[.agg (gv W H c)] w (Ret (.string (txtB W H c)) w) := by
  have gg := Gr.refl w
  have hmk : H * 1 ≤ 16777216 := by omega
  have hby : 16 * H ≤ 281474976710656 := by omega
  go_enter Tryz.func20, Tryz.ntmps20
  go_wp2_with (first | (refine r_box 43 _ (gv W H c) rfl rfl ?_; intro w1 B1 N1; have g1 := N1.gr; have b1 : Blk w1 B1 (gv W H c) 43 := N1.blk; have l1 := N1.lo; have t1 := N1.hi; have z1 := g1.size; have gg := gg.trans g1; clear N1; obtain ⟨b1_0, b1_1, b1_2⟩ := gcells b1) | (refine r_make 47 9 _ _ _ Tryz.strI (.tmp 6) (.tmp 6) H rfl rfl hmk hby (by omega) rfl ?_; intro w2 B2 N2; have g2 := N2.gr; have b2 : Blk w2 B2 _ 9 := N2.blk; rw [rowsV_zero W c H] at b2; have l2 := N2.lo; have z2 := g2.size; have b1 := g2.blk b1; have gg := gg.trans g2))
  go_loopw [4, 10] (fun _ i wr => ∃ k : Nat, k ≤ H ∧ i = .int .i64 k ∧ Blk wr B1 (gv W H c) 43 ∧ Blk wr B2 (rowsV W c H k) 9 ∧ Gr w wr) (fun _ i _ => H - (intOf i).toNat)
  case atStart => exact ⟨0, Nat.zero_le _, rfl, b1, b2, gg⟩
  case round =>
    obtain ⟨k, hk, rfl, b1, b2, gg⟩ := hrel
    have hB12 : B1 < B2 := by omega
    have hlo2 : w.heap.size ≤ B2 := by omega
    have t2 := b2.lt
    by_cases hlt : k < H
    · have hle := nn_row (W := W) hlt
      have hW1' : 1 ≤ W := by omega
      have hse := rowsV_set W c H k hlt
      have hsz := rowsV_size W c H k
      have HSE := hidI hse
      clear hse
      go_wp2_with (first | (go_at_call 28; refine (rowOf_any B1 W H k _ _ b1 hW1' hW hlt h36 hH).mono ?_; rintro e w6 ⟨rfl, m, rfl⟩; have g6 := (Gr.refl wr).drewN m; have b1 := g6.blk b1; have b2 := g6.blk b2; have gg := gg.trans g6) | (refine r_conv 29 9 _ _ (.string (rowB W c k)) rfl (Tryz.conv B1 (2 + nn W k) _ _ _ (bytes_row (by intro i hi; rw [Nat.add_assoc]; exact (gcells b1).2.2 (nn W k + i) (by omega))) W (rowB_size W c k)) rfl ?_) | (refine r_store_cell 9 9 _ _ B2 k rfl (.string (rowB W c k)) rfl _ b2 (by rw [rowsV_size]; exact hlt) Tryz.sizeOf9 rfl rfl ?_; intro w7 u7 b7; rw [HSE.out] at b7))
      go_roundw
      case rel => exact ⟨k + 1, by omega, by go_num, u7.blk b1 (by omega), b7, u7.gr gg hlo2⟩
      case measure => simp [intOf]; omega
    · obtain rfl : k = H := by omega
      clear hlt
      go_wp2_with (go_at_call 31; refine (join_rows B2 W k c _ b2 hW hH).mono ?_; rintro e w9 ⟨rfl, g9⟩; have z9 := g9.size; have gg := gg.trans g9)
      go_ret
      exact ⟨rfl, gg⟩
end Go.Proofs.YtpdmfbhjneodeaaGreatDoor
namespace Go.Proofs.YtpdmfbhjneodeaaGreatDoor
open Go.RowKit
/-- What the program's grids are, those of no tray among them. -/
structure Small (g : Grid) : Prop where
  w7 : g.w ≤ 7
  h7 : g.h ≤ 7
  n36 : nn g.w g.h ≤ 36
  w1 : 1 ≤ g.w ∨ g.h = 0
  len : g.c.length = nn g.w g.h
theorem Tray.small {g : Grid} (h : Tray g) : Small g := ⟨h.w7, h.h7, h.n36, .inl h.w1, h.len⟩
theorem rd_small (l : List UInt8) : Small (rdG l) := by
  rcases rd_cases l with ⟨_, hg, _⟩ | ⟨g, hp, hg, _⟩
  · rw [hg]; exact ⟨by decide, by decide, by decide, .inr rfl, rfl⟩
  · rw [hg]; exact (parse_tray hp).small
/-- The text if it is a tray. -/
def ifB (s : ByteArray) : ByteArray := if rdOk s.data.toList then s else ⟨#[]⟩
theorem txtB_le (W H : Nat) (c : List UInt8) (hW : W ≤ 7) (hH : H ≤ 7) : (txtB W H c).size ≤ 56 := by
  have := txtB_size W H c
  have := nn_le (x := W + 1) (y := H) (a := 8) (b := 7) (by omega) hH
  omega
theorem at0_set (c : List UInt8) (i : Nat) (b : UInt8) (j : Nat) (hi : i < c.length) : at0 (c.set i b) j = if i = j then b else at0 c j := by
  unfold at0
  by_cases e : i = j
  · subst e; simp [List.getD, hi]
  · rw [if_neg e]; simp only [List.getD]; rw [List.getElem?_set_ne e]
def paOk (l : List UInt8) (x y : Int) (c : ByteArray) : Bool := rdOk l && (inB x (rdG l).w && inB y (rdG l).h) && oneB c
def paT (l : List UInt8) (x y : Int) (c : ByteArray) : ByteArray := txtB (rdG l).w (rdG l).h ((rdG l).c.set (nn (rdG l).w y.toNat + x.toNat) (hd c))
def paS (l : List UInt8) (x y : Int) (c : ByteArray) : ByteArray := if paOk l x y c then ifB (paT l x y c) else ⟨#[]⟩
def paR (l : List UInt8) (x y : Int) (c : ByteArray) : Bool := paOk l x y c && rdOk (paT l x y c).data.toList
/-- The first k cells, with those for which p holds made free. -/
def wallTo (p : UInt8 → Bool) (c : List UInt8) : Nat → List UInt8
  | 0 => c
  | k + 1 => if p (at0 c k) then (wallTo p c k).set k 46 else wallTo p c k
theorem wallTo_len (p : UInt8 → Bool) (c : List UInt8) (k : Nat) : (wallTo p c k).length = c.length := by
  induction k with
  | zero => rfl
  | succ k ih => unfold wallTo; split <;> simp [ih]
theorem wallTo_at (p : UInt8 → Bool) (c : List UInt8) (k i : Nat) (h : k ≤ i) (hk : k ≤ c.length) : at0 (wallTo p c k) i = at0 c i := by
  induction k with
  | zero => rfl
  | succ k ih =>
    unfold wallTo
    split
    · rw [at0_set _ _ _ _ (by rw [wallTo_len]; omega), if_neg (by omega)]; exact ih (by omega) (by omega)
    · exact ih (by omega) (by omega)
theorem wallTo_congr {p q : UInt8 → Bool} {c : List UInt8} (k : Nat) (h : ∀ i, i < k → p (at0 c i) = q (at0 c i)) : wallTo p c k = wallTo q c k := by
  induction k with
  | zero => rfl
  | succ k ih => unfold wallTo; rw [h k (by omega), ih (fun i hi => h i (by omega))]
theorem ball_cell {b : UInt8} (h : isCellB b = true) : ballB b = isBallB b := by
  unfold isCellB at h
  unfold ballB
  by_cases h1 : b = 35
  · subst h1; rfl
  · by_cases h2 : b = 46
    · subst h2; rfl
    · simp [h1, h2] at h
      simp [h1, h2, h]
def woB (l : List UInt8) : ByteArray := txtB (rdG l).w (rdG l).h (wallTo isBallB (rdG l).c (nn (rdG l).w (rdG l).h))
theorem wo_impl (l : List UInt8) : wallTo ballB (rdG l).c (nn (rdG l).w (rdG l).h) = wallTo isBallB (rdG l).c (nn (rdG l).w (rdG l).h) := by
  rcases rd_cases l with ⟨_, hg, _⟩ | ⟨g, hp, hg, _⟩
  · rw [hg]; rfl
  · rw [hg]
    have ht := parse_tray hp
    exact wallTo_congr _ fun i hi => ball_cell (ht.cells i (by rw [ht.len]; exact hi))
theorem Tryz.six (B off n cap x : Nat) (hx : x < n) (w : World) : (Instr.indexAt 29 (.slice (some ⟨B, off, none⟩) n cap) (.int .i64 x)).run Tryz.prog w = .ok (.pointer (some ⟨B, off + x, none⟩)) w := by
  have hu : Tryz.prog.underlying 29 = some (.slice (Tryz.prog.elem 29)) := by kernel_rfl
  have he : Tryz.prog.elem 29 = 5 := by kernel_rfl
  rw [run_indexAt_slice w 29 ⟨B, off, none⟩ n cap .i64 x hu, if_pos (by omega), he]
  simp [Tryz.sizeOf5, Result.andThen, Addr.add]
end Go.Proofs.YtpdmfbhjneodeaaGreatDoor
namespace Go.Proofs.YtpdmfbhjneodeaaGreatDoor
open Go.RowKit
theorem Upd.refl (B : Nat) (w : World) : Upd B w w := ⟨rfl, rfl, rfl, rfl, fun _ _ => rfl⟩
theorem Upd.trans {B : Nat} {a b c : World} (h : Upd B a b) (k : Upd B b c) : Upd B a c :=
  ⟨k.os.trans h.os, k.tape.trans h.tape, k.output.trans h.output, h.size.trans k.size, fun j hj => (k.block j hj).trans (h.block j hj)⟩
theorem Upd.drew' (B : Nat) (w : World) : Upd B w w.drew := ⟨rfl, rfl, rfl, rfl, fun _ _ => rfl⟩
theorem Upd.drewN' (B : Nat) (w : World) (n : Nat) : Upd B w (w.drewN n) := ⟨rfl, rfl, rfl, rfl, fun _ _ => rfl⟩
theorem rd_both (l : List UInt8) : (1 ≤ (rdG l).w ∧ 1 ≤ (rdG l).h) ∨ ((rdG l).w = 0 ∧ (rdG l).h = 0) := by
  rcases rd_cases l with ⟨_, hg, _⟩ | ⟨g, hp, hg, _⟩
  · rw [hg]; exact .inr ⟨rfl, rfl⟩
  · rw [hg]; exact .inl ⟨(parse_tray hp).w1, (parse_tray hp).h1⟩
def tuB (l : List UInt8) : ByteArray := txtB (rdG l).h (rdG l).w (tuS (rdG l).w (rdG l).h (rdG l).c)
def miB (l : List UInt8) : ByteArray := txtB (rdG l).w (rdG l).h (miC (rdG l).w (rdG l).h (rdG l).c)
def trB (l : List UInt8) : ByteArray := txtB (rdG l).h (rdG l).w (trC (rdG l).w (rdG l).h (rdG l).c)
end Go.Proofs.YtpdmfbhjneodeaaGreatDoor
