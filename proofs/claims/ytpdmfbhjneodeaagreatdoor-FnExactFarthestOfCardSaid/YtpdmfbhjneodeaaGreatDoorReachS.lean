/-
  The model's states in memory: pointers to structs, and a state found by its text.
-/
import Derived.Test.YtpdmfbhjneodeaaGreatDoorReachI
namespace Go.Proofs.YtpdmfbhjneodeaaGreatDoor
open Go.RowKit
section
variable {P : Program} {w : World} {ops : Array Oper} {rest : List Oper} {a : Act} {Q : Exit → Act → World → Prop} {dst : Option Tmp} {ty : TypeId} {pos : String} {aft : Array Edge} {gd : Option (Nat × Bool)}
theorem r_eqS {T yt : TypeId} (x y : Operand) (s t : ByteArray) (b : Bool) (hx : a.eval x = .string s) (hy : a.eval y = .string t) (hb : decide (s = t) = b)
    (hgd : Region.wanted ⟨dst, .binOp .eql T x y yt, ty, pos, aft, gd⟩ (yielded ops a.tmps) = true) (h : wpList P ops Q rest (a.put dst (.bool b)) w) : wpList P ops Q (⟨dst, .binOp .eql T x y yt, ty, pos, aft, gd⟩ :: rest) a w :=
  r_val (.bool b) (by rw [← hb]; exact e_eqlS x y s t hx hy) hgd h
end
/-- The cells of a state of the model. -/
def recS (s : Sta Grid) (sl nv : Value) : Array Value :=
  #[.int .i64 s.t.w, .int .i64 s.t.h, sl, .string (txtG s.t), .int .i64 s.far, .int .i64 s.words, .int .i64 (if s.far = 0 then -1 else (s.from_ : Int)), .int .i64 s.dir, nv]
def ptrV (b : Nat) : Value := .pointer (some ⟨b, 0, none⟩)
def ptrsV (bk : Nat → Nat) (n : Nat) : List Value := (List.range n).map fun j => ptrV (bk j)
theorem ptrsV_length (bk : Nat → Nat) (n : Nat) : (ptrsV bk n).length = n := by simp [ptrsV]
theorem ptrsV_get (bk : Nat → Nat) (n j : Nat) (hj : j < n) : (ptrsV bk n)[j]? = some (ptrV (bk j)) := by
  unfold ptrsV
  rw [List.getElem?_map, List.getElem?_range hj]
  rfl
theorem ptrsV_app (bk : Nat → Nat) (n b : Nat) : ptrsV bk n ++ [ptrV b] = ptrsV (fun m => if m = n then b else bk m) (n + 1) := by
  unfold ptrsV
  rw [List.range_succ, List.map_append]
  congr 1
  · apply List.map_congr_left
    intro j hj
    have hj := List.mem_range.1 hj
    show ptrV (bk j) = ptrV (if j = n then b else bk j)
    rw [if_neg (by omega)]
  · show _ = [ptrV (if n = n then b else bk n)]
    rw [if_pos rfl]
theorem txt_eq {W H : Nat} {g k : Grid} (hg : Sized W H g) (hk : Sized W H k) (h1 : 1 ≤ W) (h2 : 1 ≤ H) : txtG g = txtG k ↔ g = k := by
  constructor
  · intro h
    have e : txtL g.w g.c g.h = txtL k.w k.c k.h := by rw [← txtB_data, ← txtB_data]; exact congrArg (fun s => s.data.toList) h
    obtain ⟨e1, e2, e3⟩ := txt_inj (by rw [hg.w]; exact h1) (by rw [hg.h]; exact h2) (by rw [hk.h]; exact h2) hg.cel.len hk.cel.len (cell_plain hg.cel.cells) (cell_plain hk.cel.cells) e
    obtain ⟨gw, gh, gc⟩ := g
    obtain ⟨kw, kh, kc⟩ := k
    simp only at e1 e2 e3
    rw [e1, e2, e3]
  · rintro rfl; rfl
/-- The model's states, one struct each. -/
structure SSt (base : Nat) (w : World) (v : Value) (S : List (Sta Grid)) (bk : Nat → Nat) (sl nx : Nat → Value) : Prop where
  row : w.ownsRow base 28 1 v S.length (ptrsV bk S.length)
  blk : ∀ j, j < S.length → Blk w (bk j) (recS (sta S j) (sl j) (nx j)) 34
  lo : ∀ j, j < S.length → base ≤ bk j
  inj : ∀ i j, i < S.length → j < S.length → bk i = bk j → i = j
  grd : ∀ j, j < S.length → w.ownsRow base 5 1 (sl j) (sta S j).t.c.length (cellsV (sta S j).t.c)
/-- .. and their rows of numbers. -/
structure SNx (base : Nat) (w : World) (S : List (Sta Grid)) (nx : Nat → Value) : Prop where
  nxt : ∀ j, j < S.length → w.ownsRow base 3 1 (nx j) (sta S j).next.length (natsV (sta S j).next)
theorem SSt.gr {base : Nat} {w w' : World} {v : Value} {S : List (Sta Grid)} {bk : Nat → Nat} {sl nx : Nat → Value} (h : SSt base w v S bk sl nx) (g : Gr w w') : SSt base w' v S bk sl nx :=
  ⟨g.row h.row, fun j hj => g.blk (h.blk j hj), h.lo, h.inj, fun j hj => g.row (h.grd j hj)⟩
theorem SSt.cell {base : Nat} {w : World} {v : Value} {S : List (Sta Grid)} {bk : Nat → Nat} {sl nx : Nat → Value} (h : SSt base w v S bk sl nx) {j : Nat} (hj : j < S.length) (i : Nat) :
    w.cell? ⟨bk j, i, none⟩ = (recS (sta S j) (sl j) (nx j))[i]? := (h.blk j hj).cell i
theorem SSt.ptr {base g cap : Nat} {w : World} {S : List (Sta Grid)} {bk : Nat → Nat} {sl nx : Nat → Value} (h : SSt base w (.slice (some ⟨g, 0, none⟩) S.length cap) S bk sl nx) {j : Nat} (hj : j < S.length) :
    w.cell? ⟨g, j, none⟩ = some (ptrV (bk j)) := own_val h.row j _ hj (ptrsV_get _ _ _ hj)
theorem Tryz.psix (B n cap x : Nat) (hx : x < n) (w : World) : (Instr.indexAt 25 (.slice (some ⟨B, 0, none⟩) n cap) (.int .i64 x)).run Tryz.prog w = .ok (.pointer (some ⟨B, x, none⟩)) w := by
  have hu : Tryz.prog.underlying 25 = some (.slice (Tryz.prog.elem 25)) := by kernel_rfl
  have he : Tryz.prog.elem 25 = 28 := by kernel_rfl
  rw [run_indexAt_slice w 25 ⟨B, 0, none⟩ n cap .i64 x hu, if_pos (by omega), he]
  simp only [Int.toNat_natCast, Tryz.sizeOf28, Result.andThen_ok, add_flat', Nat.mul_one]
theorem Tryz.rf0 (B : Nat) (w : World) : (Instr.fieldAt 34 (.pointer (some ⟨B, 0, none⟩)) 0).run Tryz.prog w = .ok (.pointer (some ⟨B, 0, none⟩)) w := by kernel_rfl
theorem Tryz.rf1 (B : Nat) (w : World) : (Instr.fieldAt 34 (.pointer (some ⟨B, 0, none⟩)) 1).run Tryz.prog w = .ok (.pointer (some ⟨B, 3, none⟩)) w := by kernel_rfl
theorem Tryz.rf2 (B : Nat) (w : World) : (Instr.fieldAt 34 (.pointer (some ⟨B, 0, none⟩)) 2).run Tryz.prog w = .ok (.pointer (some ⟨B, 4, none⟩)) w := by kernel_rfl
theorem Tryz.rf3 (B : Nat) (w : World) : (Instr.fieldAt 34 (.pointer (some ⟨B, 0, none⟩)) 3).run Tryz.prog w = .ok (.pointer (some ⟨B, 5, none⟩)) w := by kernel_rfl
theorem Tryz.rf4 (B : Nat) (w : World) : (Instr.fieldAt 34 (.pointer (some ⟨B, 0, none⟩)) 4).run Tryz.prog w = .ok (.pointer (some ⟨B, 6, none⟩)) w := by kernel_rfl
theorem Tryz.rf5 (B : Nat) (w : World) : (Instr.fieldAt 34 (.pointer (some ⟨B, 0, none⟩)) 5).run Tryz.prog w = .ok (.pointer (some ⟨B, 7, none⟩)) w := by kernel_rfl
theorem Tryz.rf6 (B : Nat) (w : World) : (Instr.fieldAt 34 (.pointer (some ⟨B, 0, none⟩)) 6).run Tryz.prog w = .ok (.pointer (some ⟨B, 8, none⟩)) w := by kernel_rfl
def plV (S : List (Sta Grid)) (x : Grid) : Int := match findS S x with
  | some k => k
  | none => -1
set_option maxHeartbeats 2000000 in
set_option maxRecDepth 100000 in
theorem rePlace_any (W H base : Nat) (S : List (Sta Grid)) (v : Value) (bk : Nat → Nat) (sl nx : Nat → Value) (x : Grid) (w : World) (hs : SSt base w v S bk sl nx) (h1 : 1 ≤ W) (h2 : 1 ≤ H) (hx : Sized W H x) (hS : ∀ j, j < S.length → Sized W H (sta S j).t) (hl : S.length ≤ 300) :
    Calls Tryz.prog 16 #[v, .string (txtG x)] w (Ret (.int .i64 (plV S x)) w) := by
  have gg := Gr.refl w
  obtain ⟨p, m, q, rfl⟩ := own_slice hs.row
  obtain rfl : m = S.length := own_len hs.row
  have HS := hidI hs
  have HT := hidI (fun j hj => txt_eq (hS j hj) hx h1 h2)
  clear hs hx hS
  go_enter Tryz.func16, Tryz.ntmps16
  go_wp2
  go_loopw [9] (fun iv wr => ∃ k : Nat, k ≤ S.length ∧ iv = .int .i64 k ∧ Gr w wr ∧ Hid (∀ j, j < k → (sta S j).t ≠ x)) (fun iv _ => S.length - (intOf iv).toNat)
  case atStart => exact ⟨0, Nat.zero_le _, rfl, gg, hidI (fun j hj => by omega)⟩
  case round =>
    obtain ⟨k, hk, rfl, gg, HN⟩ := hrel
    by_cases hlt : k < S.length
    · obtain ⟨g, cap, e, -, -⟩ := own_shape HS.out.row (by omega)
      cases e
      have HW := hidI (HS.out.gr gg)
      have hc0 := HW.out.ptr hlt
      have hc3 : wr.cell? ⟨bk k, 3, none⟩ = some (.string (txtG (sta S k).t)) := HW.out.cell hlt 3
      by_cases he : (sta S k).t = x
      · have HE := hidI (show decide (txtG (sta S k).t = txtG x) = true from by rw [decide_eq_true_eq, he])
        have HV := hidI (show (k : Int) = plV S x from by unfold plV; rw [findS_first hlt he HN.out])
        clear he
        go_wp2_with (first | (refine r_idx 25 _ _ (.slice (some ⟨g, 0, none⟩) S.length cap) (.int .i64 k) _ rfl rfl (Tryz.psix g S.length cap k hlt _) rfl ?_) | (refine r_ldc 28 _ ⟨g, k, none⟩ (ptrV (bk k)) rfl (Tryz.isAgg28 _) hc0 rfl ?_) | (refine r_nil _ ⟨bk k, 0, none⟩ rfl rfl ?_) | (refine r_fld 34 _ 1 (.pointer (some ⟨bk k, 0, none⟩)) (.pointer (some ⟨bk k, 3, none⟩)) rfl (Tryz.rf1 _ _) rfl ?_) | (refine r_ldc 9 _ ⟨bk k, 3, none⟩ (.string (txtG (sta S k).t)) rfl (Tryz.isAgg9 _) hc3 rfl ?_) | (refine r_eqS _ _ (txtG (sta S k).t) (txtG x) true rfl rfl HE.out rfl ?_))
        go_ret
        exact ⟨ret_int HV.out, gg⟩
      · have HE := hidI (show decide (txtG (sta S k).t = txtG x) = false from by rw [decide_eq_false_iff_not]; exact fun h => he ((HT.out k hlt).1 h))
        have HN2 := hidI (show ∀ j, j < k + 1 → (sta S j).t ≠ x from fun j hj => if h : j < k then HN.out j h else by rw [show j = k by omega]; exact he)
        clear he
        go_wp2_with (first | (refine r_idx 25 _ _ (.slice (some ⟨g, 0, none⟩) S.length cap) (.int .i64 k) _ rfl rfl (Tryz.psix g S.length cap k hlt _) rfl ?_) | (refine r_ldc 28 _ ⟨g, k, none⟩ (ptrV (bk k)) rfl (Tryz.isAgg28 _) hc0 rfl ?_) | (refine r_nil _ ⟨bk k, 0, none⟩ rfl rfl ?_) | (refine r_fld 34 _ 1 (.pointer (some ⟨bk k, 0, none⟩)) (.pointer (some ⟨bk k, 3, none⟩)) rfl (Tryz.rf1 _ _) rfl ?_) | (refine r_ldc 9 _ ⟨bk k, 3, none⟩ (.string (txtG (sta S k).t)) rfl (Tryz.isAgg9 _) hc3 rfl ?_) | (refine r_eqS _ _ (txtG (sta S k).t) (txtG x) false rfl rfl HE.out rfl ?_))
        go_roundw
        case rel => exact ⟨k + 1, by omega, by go_num, gg, HN2⟩
        case measure => simp [intOf]; omega
    · obtain rfl : k = S.length := by omega
      have HV := hidI (show (-1 : Int) = plV S x from by
        unfold plV
        cases hf : findS S x with
        | none => rfl
        | some j => obtain ⟨a1, a2, -⟩ := findS_some hf; exact absurd a2 (HN.out j a1))
      clear hlt
      go_wp2
      go_ret
      exact ⟨ret_int HV.out, gg⟩
end Go.Proofs.YtpdmfbhjneodeaaGreatDoor
