/-
  A grid as a key of a map: what it reads as, and that it may be one.
-/
import Derived.Test.YtpdmfbhjneodeaaGreatDoorBTxt
import Derived.Maps.Keyed
import Derived.DeepKeys4
namespace Go.Proofs.YtpdmfbhjneodeaaGreatDoor
open Go.RowKit
open Go.Maps (Keyed)
theorem mapM_some {α β : Type} (f : α → Option β) : ∀ l : List α, (∀ x ∈ l, ∃ y, f x = some y) → ∃ ys, l.mapM f = some ys
  | [], _ => ⟨[], rfl⟩
  | a :: l, h => by
    obtain ⟨y, hy⟩ := h a (by simp)
    obtain ⟨ys, hys⟩ := mapM_some f l (fun x hx => h x (by simp [hx]))
    exact ⟨y :: ys, by rw [List.mapM_cons, hy, hys]; rfl⟩
theorem wf_u8 (b : UInt8) : (Lit.int .u8 (b.toNat : Int)).wf = true := by
  have hb := b.toNat_lt
  have h0 : IntKind.u8.min = 0 := rfl
  have h1 : IntKind.u8.max = 255 := rfl
  show (decide (IntKind.u8.min ≤ (b.toNat : Int)) && decide ((b.toNat : Int) ≤ IntKind.u8.max)) = true
  rw [h0, h1, Bool.and_eq_true, decide_eq_true_eq, decide_eq_true_eq]
  omega
theorem wf_i7 (x : Nat) (h : x ≤ 4611686018427387904) : (Lit.int .i64 (x : Int)).wf = true := by
  have h0 : IntKind.i64.min = -9223372036854775808 := rfl
  have h1 : IntKind.i64.max = 9223372036854775807 := rfl
  show (decide (IntKind.i64.min ≤ (x : Int)) && decide ((x : Int) ≤ IntKind.i64.max)) = true
  rw [h0, h1, Bool.and_eq_true, decide_eq_true_eq, decide_eq_true_eq]
  omega
theorem Tryz.gkRow : (43 : TypeId) < Tryz.prog.types.size := of_decide_eq_true (by kernel_rfl)
theorem Tryz.gkWide : (match Tryz.prog.underlying 43 with | some (.array _ _) | some (.struct _) => true | _ => false) = true := by kernel_rfl
theorem Tryz.gkLaid : laidOutB Tryz.prog = true := by kernel_rfl
set_option maxRecDepth 100000 in
theorem Tryz.gkLaw : Keyed Tryz.prog 43 := Keyed.of_law (deep_law_laid Tryz.gkLaid (m := 3) (by omega) Tryz.gkRow (by kernel_rfl) Tryz.gkWide)
theorem Tryz.gkType : Tryz.prog.keyType 43 = true := by kernel_rfl
theorem Tryz.gkCells : Tryz.prog.cellsOf 43 = 38 := by kernel_rfl
theorem Tryz.gkCellsA : Tryz.prog.cellsOf 41 = 36 := by kernel_rfl
theorem Tryz.gkCells1 : Tryz.prog.cellsOf 5 = 1 := by kernel_rfl
theorem Tryz.gkCellsI : Tryz.prog.cellsOf 3 = 1 := by kernel_rfl
theorem Tryz.gkBytes (n : Nat) (c : List UInt8) : ∃ ls, Tryz.prog.keyLits (n + 2) 41 (cellsL 36 c) = some ls := by
  unfold Program.keyLits
  simp only [Tryz.underlying41]
  rw [if_pos (by rw [cellsL_length, Tryz.gkCellsA]), Tryz.gkCells1]
  obtain ⟨ys, hys⟩ := mapM_some (fun i => Tryz.prog.keyLits (n + 1) 5 (List.take 1 (List.drop (i * 1) (cellsL 36 c)))) (List.range 36) (fun i hi => by
    have hi := List.mem_range.1 hi
    have : List.take 1 (List.drop (i * 1) (cellsL 36 c)) = [byteV (at0 c i)] := by
      rw [Nat.mul_one]
      apply List.ext_getElem?
      intro j
      rw [List.getElem?_take]
      cases j with
      | zero => rw [if_pos (by omega), List.getElem?_drop]; exact cellsL_get 36 c i hi
      | succ j => rw [if_neg (by omega)]; rfl
    refine ⟨[.int .u8 (at0 c i).toNat], ?_⟩
    simp only [this]
    unfold Program.keyLits
    simp only [Tryz.underlying5]
    simp only [byteV, wf_u8, and_self, if_true])
  exact ⟨ys.flatten, by rw [hys]; rfl⟩
theorem Tryz.gkKey (g : Grid) (h7 : g.w ≤ 7) (h7' : g.h ≤ 7) : ∃ l, keyOf Tryz.prog 43 (.agg (gvG g)) = some l := by
  obtain ⟨m, hm⟩ : ∃ m, Tryz.prog.types.size = m + 3 := ⟨Tryz.prog.types.size - 3, by have : 3 ≤ Tryz.prog.types.size := of_decide_eq_true (by kernel_rfl); omega⟩
  have hsz : (gvG g).size = 38 := gv_size _ _ _
  have hl : (gvG g).toList.length = 38 := by rw [Array.length_toList]; exact hsz
  unfold keyOf
  simp only [Tryz.underlying43]
  rw [if_pos (by rw [Tryz.gkType]; simp [Value.formed, Tryz.underlying43, Tryz.gkCells, hsz]), hm]
  unfold Program.keyLits
  simp only [Tryz.underlying43, Value.cells]
  rw [if_pos ⟨by rw [hl, Tryz.gkCells], by kernel_rfl⟩]
  have hc : (gvG g).toList = [Value.int .i64 g.w, Value.int .i64 g.h] ++ cellsL 36 g.c := rfl
  rw [hc]
  have hi : ∀ x : Nat, x ≤ 7 → ∃ ls, Tryz.prog.keyLits (m + 3) 3 [.int .i64 (x : Int)] = some ls := fun x hx => by
    refine ⟨[.int .i64 (x : Int)], ?_⟩
    unfold Program.keyLits
    simp only [Tryz.underlying3]
    simp only [wf_i7 x (by omega), and_self, if_true]
  obtain ⟨l0, e0⟩ := hi g.w h7
  obtain ⟨l1, e1⟩ := hi g.h h7'
  obtain ⟨l2, e2⟩ := Tryz.gkBytes (m + 1) g.c
  simp only [List.mapM_cons, List.mapM_nil, Tryz.gkCellsA, Tryz.gkCellsI]
  have d0 : (List.drop 0 ([Value.int .i64 g.w, Value.int .i64 g.h] ++ cellsL 36 g.c)).take 1 = [Value.int .i64 g.w] := rfl
  have d1 : (List.drop 1 ([Value.int .i64 g.w, Value.int .i64 g.h] ++ cellsL 36 g.c)).take 1 = [Value.int .i64 g.h] := rfl
  have d2 : (List.drop 2 ([Value.int .i64 g.w, Value.int .i64 g.h] ++ cellsL 36 g.c)).take 36 = cellsL 36 g.c := by
    show (cellsL 36 g.c).take 36 = _
    rw [List.take_of_length_le (by rw [cellsL_length]; omega)]
  rw [d0, d1, d2, e0, e1, show m + 3 = m + 1 + 2 from rfl, e2]
  exact ⟨_, rfl⟩
end Go.Proofs.YtpdmfbhjneodeaaGreatDoor
