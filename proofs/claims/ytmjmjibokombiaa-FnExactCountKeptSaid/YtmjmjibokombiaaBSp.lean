/-
  What the model's functions on single cells return: whether a text is one cell, how many cells have a text.
  What the model's functions that return texts of cells return: one cell, and the text of a whole grid.
  What the model's text of a grid is, and the text of a grid that is a tray.
  What the model's functions that change a tray's cells return: one cell put, and all balls taken out.
  What the model's copy of a grid is, and its grid with all balls taken out.
-/
import Derived.Test.YtmjmjibokombiaaBTy
import Derived.Test.YtmjmjibokombiaaBIm
namespace Go.Proofs.Ytmjmjibokombiaa
open Go.RowKit
theorem beq_byte {b c : UInt8} (h : b = c) : ((b.toNat : Int) == (c.toNat : Int)) = true := by rw [h]; simp
theorem bne_byte {b c : UInt8} (h : ¬ b = c) : ((b.toNat : Int) == (c.toNat : Int)) = false := by
  rw [beq_eq_false_iff_ne]; intro e; exact h (UInt8.toNat_inj.1 (by omega))
theorem own_new {w : World} {base : Nat} {e : TypeId} {size : Nat} {v : Value} {n : Nat} {xs : List Value} (hr : w.ownsRow base e size v n xs) {B : Nat} (hB : w.heap.size ≤ B) : v.ownBlock ≠ some B := fun h => by
  have := (hr.lt B h).2
  omega
end Go.Proofs.Ytmjmjibokombiaa
namespace Go.Proofs.Ytmjmjibokombiaa
open Go.RowKit
def btw (x lo h : Int) : Bool := decide (lo ≤ x) && decide (x ≤ h)
theorem btw_inB (x : Int) (n : Nat) : btw x 0 ((n : Int) - 1) = inB x n := by
  unfold btw inB
  congr 1
  apply decide_eq_decide.2
  omega
set_option maxHeartbeats 400000 in
theorem l1In_any (x lo h : Int) (w : World) : Calls Try.prog 7 #[.int .i64 x, .int .i64 lo, .int .i64 h] w fun e w' => e = .returned (.bool (btw x lo h)) ∧ w = w' := by
  by_cases h1 : lo ≤ x
  · have HV := hidI (show btw x lo h = decide (x ≤ h) from by unfold btw; rw [decide_eq_true h1]; rfl)
    go_enter Try.func7, Try.ntmps7
    go_wp2
    go_ret
    exact ⟨ret_bool HV.out.symm, rfl⟩
  · have HV := hidI (show btw x lo h = false from by unfold btw; rw [decide_eq_false h1]; rfl)
    have h1' : x < lo := by omega
    clear h1
    go_enter Try.func7, Try.ntmps7
    go_wp2
    go_ret
    exact ⟨ret_bool HV.out.symm, rfl⟩
end Go.Proofs.Ytmjmjibokombiaa
namespace Go.Proofs.Ytmjmjibokombiaa
open Go.RowKit
theorem cat_first (W : Nat) (c : List UInt8) : txtB W 0 c ++ rowB W c 0 = txtB W 1 c := by
  unfold txtB rowB
  rw [mkB_append, txtL_zero, txtL_one]
  rfl
theorem cat_next (W : Nat) (c : List UInt8) (k : Nat) (h : 0 < k) : (txtB W k c ++ ⟨#[47]⟩) ++ rowB W c k = txtB W (k + 1) c := by
  unfold txtB rowB
  rw [show (⟨#[47]⟩ : ByteArray) = ⟨[(47 : UInt8)].toArray⟩ from rfl, mkB_append, mkB_append, txtL_succ W c k h]
theorem own_row {w : World} {base : Nat} {e : TypeId} {g n cap W y : Nat} {c : List UInt8} (hr : w.ownsRow base e 1 (.slice (some ⟨g, 0, none⟩) n cap) n (c.map byteV)) (hn : n = c.length) (hle : nn W y + W ≤ c.length) :
    Lib.Bytes w g (nn W y) (rowB W c y) := bytes_row fun i hi => own_cell hr (nn W y + i) (by omega) hn
end Go.Proofs.Ytmjmjibokombiaa
namespace Go.Proofs.Ytmjmjibokombiaa
open Go.RowKit
theorem cellsV_set (c : List UInt8) (j : Nat) (b : UInt8) : (cellsV c).set j (byteV b) = cellsV (c.set j b) := by
  unfold cellsV
  rw [List.map_set]
/-- It returns a grid of the model, its cells in new memory. -/
def RetG (T : TypeId) (W H : Int) (c : List UInt8) (w : World) (e : Ending) (w' : World) : Prop :=
  Gr w w' ∧ ∃ sl, e = .returned (.agg (tg W H sl)) ∧ w'.ownsRow w.heap.size T 1 sl c.length (cellsV c)
theorem own_up {w : World} {b0 base : Nat} {e : TypeId} {size : Nat} {v : Value} {n : Nat} {xs : List Value} (hr : w.ownsRow base e size v n xs) (hb : b0 ≤ base) : w.ownsRow b0 e size v n xs := by
  obtain ⟨h1, h2 | ⟨g, cap, cur, rfl, b, c, d⟩⟩ := hr
  · exact ⟨h1, .inl h2⟩
  · exact ⟨h1, .inr ⟨g, cap, cur, rfl, by omega, c, d⟩⟩
end Go.Proofs.Ytmjmjibokombiaa
namespace Go.Proofs.Ytmjmjibokombiaa
open Go.RowKit
section
variable {P : Program} {w : World} {ops : Array Oper} {rest : List Oper} {a : Act} {Q : Exit → Act → World → Prop} {dst : Option Tmp} {ty : TypeId} {pos : String} {aft : Array Edge} {gd : Option (Nat × Bool)}
/-- An empty slice, written out. -/
theorem r_slice0 (t e : TypeId) (hr : (Instr.buildSlice t 0 #[]).run P w = .ok (.slice (some ⟨w.heap.size, 0, none⟩) 0 0) (w.alloc (.cells #[] e)))
    (hgd : Region.wanted ⟨dst, .buildSlice t 0 #[], ty, pos, aft, gd⟩ (yielded ops a.tmps) = true)
    (h : ∀ w1 B, Gr w w1 → w1.ownsRow w.heap.size e 1 (.slice (some ⟨B, 0, none⟩) 0 0) 0 [] → wpList P ops Q rest (a.put dst (.slice (some ⟨B, 0, none⟩) 0 0)) w1) :
    wpList P ops Q (⟨dst, .buildSlice t 0 #[], ty, pos, aft, gd⟩ :: rest) a w :=
  wpList_want hgd fun _ hK => by
    unfold Oper.wp execOp
    simp only [List.map_toArray, List.map_nil, Sem.run_bind, hr, Result.andThen_ok, Sem.run_pure, Oper.upon]
    exact hK _ _ (h _ _ ((Gr.refl w).alloc _) ⟨rfl, .inr ⟨w.heap.size, 0, #[], rfl, Nat.le_refl _, heap_alloc_new w _, Nat.le_refl _, Nat.zero_le _, rfl, rfl⟩⟩)
end
theorem own_slice {w : World} {base : Nat} {e : TypeId} {size : Nat} {v : Value} {n : Nat} {xs : List Value} (hr : w.ownsRow base e size v n xs) : ∃ p m k, v = .slice p m k := by
  obtain ⟨_, ⟨rfl, _⟩ | ⟨g, cap, cur, rfl, _⟩⟩ := hr
  · exact ⟨_, _, _, rfl⟩
  · exact ⟨_, _, _, rfl⟩
end Go.Proofs.Ytmjmjibokombiaa
