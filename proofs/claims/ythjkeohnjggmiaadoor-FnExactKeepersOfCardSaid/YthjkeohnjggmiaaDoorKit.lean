/-
  Small rules of my own for walking a function: worlds that only grow, blocks of known cells, structs loaded and stored whole. They hold over every program.
-/
import Derived.WalkKit
import Derived.WalkSpells
import Derived.WalkLawsBesides
import Derived.Deep.QuietTactic
import Derived.BigQuiet
import Derived.Laws.CopyOwn
import Derived.Lib.SlBytesConst
import Derived.Lib.BufferWrite
namespace Go.Proofs.YthjkeohnjggmiaaDoor
open Go.RowKit

/-! worlds -/
/-- All that was there has stayed; there may be more. -/
def Gr (w w' : World) : Prop := Below w.heap.size w w'
theorem Gr.refl (w : World) : Gr w w := Below.refl _ _
theorem Gr.size {w w' : World} (h : Gr w w') : w.heap.size ≤ w'.heap.size := Below.size h
theorem Gr.trans {a b c : World} (h : Gr a b) (k : Gr b c) : Gr a c := Below.trans h (Below.mono k h.size)
theorem Gr.alloc {a w : World} (h : Gr a w) (o : Obj) : Gr a (w.alloc o) := Below.alloc h h.size o
theorem Gr.drew {a w : World} (h : Gr a w) : Gr a w.drew := Below.drew h
theorem Gr.drewN {a w : World} (h : Gr a w) (n : Nat) : Gr a (w.drewN n) := by
  exact ⟨h.os, h.tape, h.output, h.size, h.block⟩
theorem Gr.lt {w : World} {k : Nat} {o : Obj} (h : w.heap[k]? = some o) : k < w.heap.size := by
  by_cases hk : k < w.heap.size
  · exact hk
  · rw [Array.getElem?_eq_none (by omega)] at h; cases h
theorem Gr.keep {w w' : World} (h : Gr w w') {k : Nat} {o : Obj} (hk : w.heap[k]? = some o) : w'.heap[k]? = some o := (Below.block h k (Gr.lt hk)).trans hk
theorem Gr.cell {w w' : World} (h : Gr w w') {a : Addr} {v : Value} (hc : w.cell? a = some v) : w'.cell? a = some v := by
  exact (Below.cell h (World.block_lt_of_cell? w a hc)).trans hc
theorem Gr.row {w w' : World} (h : Gr w w') {base : Nat} {e : TypeId} {size : Nat} {v : Value} {n : Nat} {xs : List Value} (hr : w.ownsRow base e size v n xs) : w'.ownsRow base e size v n xs := by
  obtain ⟨h1, h2 | ⟨g, cap, cur, a, b, c, d⟩⟩ := hr
  · exact ⟨h1, .inl h2⟩
  · exact ⟨h1, .inr ⟨g, cap, cur, a, b, h.keep c, d⟩⟩
/-- Only block B has changed. -/
structure Upd (B : Nat) (w w' : World) : Prop where
  os : w'.os = w.os
  tape : w'.tape = w.tape
  output : w'.output = w.output
  size : w.heap.size = w'.heap.size
  block : ∀ k, k ≠ B → w'.heap[k]? = w.heap[k]?
theorem Upd.gr {B : Nat} {w0 w w' : World} (h : Upd B w w') (hg : Gr w0 w) (hB : w0.heap.size ≤ B) : Gr w0 w' :=
  ⟨h.os.trans hg.os, h.tape.trans hg.tape, h.output.trans hg.output, by have := h.size; have := hg.size; omega, fun k hk => (h.block k (by omega)).trans (hg.block k hk)⟩
theorem Upd.keep {B : Nat} {w w' : World} (h : Upd B w w') {k : Nat} {o : Obj} (hk : w.heap[k]? = some o) (hne : k ≠ B) : w'.heap[k]? = some o := (h.block k hne).trans hk
theorem Upd.setRow (w : World) (B : Nat) (cs : Array Value) : Upd B w (w.setRow B cs) :=
  ⟨rfl, rfl, rfl, by simp, fun k hk => setRow_other w B k cs hk⟩
theorem Upd.setCell (w : World) (a : Addr) (v : Value) : Upd a.block w (w.setCell a v) :=
  ⟨rfl, rfl, rfl, by simp [World.setCell], fun k hk => heap_setCell_other w a k v hk⟩

theorem ret_bool {a b : Bool} (h : a = b) : Ending.returned (.bool a) = .returned (.bool b) := by rw [h]
theorem ret_int {k : IntKind} {a b : Int} (h : a = b) : Ending.returned (.int k a) = .returned (.int k b) := by rw [h]
theorem hidI {p : Prop} (h : p) : Hid p := h
/-- A product under a name of its own, so that it stays one number. -/
def nn (x y : Nat) : Nat := x * y
theorem nn_int (x y : Nat) : ((nn x y : Nat) : Int) = (x : Int) * (y : Int) := by unfold nn; simp
theorem nn_le {x y a b : Nat} (hx : x ≤ a) (hy : y ≤ b) : nn x y ≤ a * b := Nat.mul_le_mul hx hy
theorem nn_wrap (x y : Nat) (h : nn x y ≤ 9223372036854775807) : wrap64 ((x : Int) * (y : Int)) = (nn x y : Nat) := by
  rw [← nn_int]; exact IntWalk.wrap64_in _ (by omega)
/-- It returns v, and all that was there has stayed. -/
def Ret (v : Value) (w : World) (e : Ending) (w' : World) : Prop := e = .returned v ∧ Gr w w'

section
variable {P : Program} {w : World} {ops : Array Oper} {rest : List Oper} {o : Oper} {a : Act} {Q : Exit → Act → World → Prop} {dst : Option Tmp} {ty : TypeId} {pos : String} {aft : Array Edge} {gd : Option (Nat × Bool)}

/-- A new block of known cells. -/
structure New (w w1 : World) (B : Nat) (cs : Array Value) (T : TypeId) : Prop where
  gr : Gr w w1
  lo : w.heap.size ≤ B
  hi : B < w1.heap.size
  blk : w1.heap[B]? = some (.cells cs T (0, 0))
theorem New.mk' (w : World) (cs : Array Value) (T : TypeId) : New w (w.alloc (.cells cs T)) w.heap.size cs T :=
  ⟨(Gr.refl _).alloc _, Nat.le_refl _, by show _ < (w.heap.push _).size; simp, heap_alloc_new w _⟩

theorem wpList_want (hgd : Region.wanted o (yielded ops a.tmps) = true)
    (h : ∀ K : Act → World → Prop, (∀ a w, wpList P ops Q rest a w → K a w) → o.wp P a w K Q) : wpList P ops Q (o :: rest) a w :=
  wpList_step fun K hK => by rw [if_pos hgd]; exact h K hK

theorem r_box (T : TypeId) (x : Operand) (cs : Array Value) (hx : a.eval x = .agg cs)
    (hgd : Region.wanted ⟨dst, .box T x, ty, pos, aft, gd⟩ (yielded ops a.tmps) = true) (h : ∀ w1 B, New w w1 B cs T → wpList P ops Q rest (a.put dst (.pointer (some ⟨B, 0, none⟩))) w1) : wpList P ops Q (⟨dst, .box T x, ty, pos, aft, gd⟩ :: rest) a w :=
  wpList_want hgd fun _ hK => by
    have hrun : (Instr.box T (.agg cs)).run P w = .ok (.pointer (some ⟨w.heap.size, 0, none⟩)) (w.alloc (.cells cs T)) := rfl
    unfold Oper.wp execOp
    simp only [hx, Sem.run_bind, hrun, Result.andThen_ok, Sem.run_pure, Oper.upon]
    exact hK _ _ (h _ _ (New.mk' w cs T))

theorem run_alloc_zero (T : TypeId) (z : Value) (hz : (zeroValue T).run P w = .ok z w) :
    (Instr.alloc T true (.tuple #[])).run P w = .ok (.pointer (some ⟨w.heap.size, 0, none⟩)) (w.alloc (.cells z.cells T)) := by
  unfold Instr.alloc
  rw [Sem.run_bind, hz]
  rfl

theorem r_alloc (T : TypeId) (z : Value) (hz : ∀ w, (zeroValue T).run P w = .ok z w)
    (hgd : Region.wanted ⟨dst, .alloc T, ty, pos, aft, gd⟩ (yielded ops a.tmps) = true) (h : ∀ w1 B, New w w1 B z.cells T → wpList P ops Q rest (a.put dst (.pointer (some ⟨B, 0, none⟩))) w1) : wpList P ops Q (⟨dst, .alloc T, ty, pos, aft, gd⟩ :: rest) a w :=
  wpList_want hgd fun _ hK => by
    unfold Oper.wp execOp
    simp only [Sem.run_bind, run_alloc_zero T z (hz w), Result.andThen_ok, Sem.run_pure, Oper.upon]
    exact hK _ _ (h _ _ (New.mk' w _ T))

theorem run_store_row (T t : TypeId) (B : Nat) (cs old : Array Value) (hB : w.heap[B]? = some (.cells old t (0, 0))) (hs : (sizeOf T).run P w = .ok cs.size w) (ho : old.size = cs.size) (h1 : ∀ v ∈ cs.toList, v.oneCell' = true) :
    (Instr.storeAt T (.pointer (some ⟨B, 0, none⟩)) (.agg cs)).run P w = .ok () (w.setRow B cs) := by
  have h := run_storeCells_from (P := P) B t cs.toList 0 old w hB (by simp [ho]) h1
  unfold Instr.storeAt storeVar
  simp only [Instr.sureAddr, Sem.run_bind, Sem.run_pure, Result.andThen_ok, hs, Value.cells]
  simp at h ⊢
  exact h

/-- Block B holds the cells cs. -/
def Blk (w : World) (B : Nat) (cs : Array Value) (T : TypeId) : Prop := w.heap[B]? = some (.cells cs T (0, 0))
theorem Gr.blk {w w' : World} (h : Gr w w') {B : Nat} {cs : Array Value} {T : TypeId} (hk : Blk w B cs T) : Blk w' B cs T := h.keep hk
theorem Upd.blk {B' : Nat} {w w' : World} (h : Upd B' w w') {B : Nat} {cs : Array Value} {T : TypeId} (hk : Blk w B cs T) (hne : B ≠ B') : Blk w' B cs T := h.keep hk hne
theorem heap_alloc_keep {w : World} {B : Nat} {cs : Array Value} {T : TypeId} {o : Obj} (hk : Blk w B cs T) : Blk (w.alloc o) B cs T := ((Gr.refl w).alloc o).blk hk
/-- Block B is the object o. -/
def Own (w : World) (B : Nat) (o : Obj) : Prop := w.heap[B]? = some o
theorem Gr.own {w w' : World} (h : Gr w w') {B : Nat} {o : Obj} (hk : Own w B o) : Own w' B o := h.keep hk
theorem Own.new (w : World) (o : Obj) : Own (w.alloc o) w.heap.size o := heap_alloc_new w o
theorem Own.cell {w : World} {B : Nat} {cs : Array Value} {T : TypeId} {fr : Nat × Nat} (hk : Own w B (.cells cs T fr)) (j : Nat) : w.cell? ⟨B, j, none⟩ = cs[j]? := cell_of_row w B j cs T fr hk
theorem Blk.lt {w : World} {B : Nat} {cs : Array Value} {T : TypeId} (hk : Blk w B cs T) : B < w.heap.size := Gr.lt hk
theorem Blk.cell {w : World} {B : Nat} {cs : Array Value} {T : TypeId} (hk : Blk w B cs T) (j : Nat) : w.cell? ⟨B, j, none⟩ = cs[j]? := cell_of_row w B j cs T _ hk
theorem Blk.free {w : World} {B : Nat} {cs : Array Value} {T : TypeId} (hk : Blk w B cs T) (j : Nat) : w.frozen? ⟨B, j, none⟩ = false := frozen_of_row w B j cs T hk

theorem r_store_row (T t : TypeId) (p x : Operand) (B : Nat) (hp : a.eval p = .pointer (some ⟨B, 0, none⟩)) (cs old : Array Value) (hx : a.eval x = .agg cs)
    (hB : Blk w B old t) (hs : ∀ w, (sizeOf T).run P w = .ok cs.size w) (hsz : old.size = cs.size) (h1 : ∀ v ∈ cs.toList, v.oneCell' = true)
    (hgd : Region.wanted ⟨dst, .store T p x, ty, pos, aft, gd⟩ (yielded ops a.tmps) = true) (h : ∀ w1, Upd B w w1 → Blk w1 B cs t → wpList P ops Q rest (a.put dst undef) w1) : wpList P ops Q (⟨dst, .store T p x, ty, pos, aft, gd⟩ :: rest) a w :=
  wpList_want hgd fun _ hK => by
    unfold Oper.wp execOp
    simp only [hp, hx, Sem.run_bind, run_store_row T t B cs old hB (hs w) hsz h1, Result.andThen_ok, Sem.run_pure, Oper.upon]
    exact hK _ _ (h _ (Upd.setRow w B cs) (setRow_heap w B old cs t _ hB))

theorem r_load_row (T : TypeId) (x : Operand)
    (B : Nat) (hx : a.eval x = .pointer (some ⟨B, 0, none⟩)) (t : TypeId) (cs : Array Value) (d : TypeDesc) (hg : Blk w B cs t)
    (hu : P.underlying T = some d) (hd : (match d with | .struct _ | .array _ _ => true | _ => false) = true) (hi : (P.info? T).map (·.size) = some cs.size)
    (hgd : Region.wanted ⟨dst, .load T x, ty, pos, aft, gd⟩ (yielded ops a.tmps) = true) (h : wpList P ops Q rest (a.put dst (.agg cs)) w) : wpList P ops Q (⟨dst, .load T x, ty, pos, aft, gd⟩ :: rest) a w :=
  wpList_want hgd fun _ hK => wp_load_row T x rfl B hx t cs (0, 0) d hg hu hd hi (hK _ _ h)

theorem r_build (T : TypeId) (l : List (Nat × Operand)) (ps : List (Nat × Value)) (v : Value) (hr : (Instr.build T ps.toArray).run P w = .ok v w)
    (hp : l.map (fun x => (x.1, a.eval x.2)) = ps) (hgd : Region.wanted ⟨dst, .build T l.toArray, ty, pos, aft, gd⟩ (yielded ops a.tmps) = true) (h : wpList P ops Q rest (a.put dst v) w) : wpList P ops Q (⟨dst, .build T l.toArray, ty, pos, aft, gd⟩ :: rest) a w :=
  wpList_want hgd fun _ hK => by
    unfold Oper.wp execOp
    simp only [List.map_toArray]
    rw [show (l.map fun x => (x.1, a.eval x.2)) = ps from hp]
    simp only [Sem.run_bind, hr, Result.andThen_ok, Sem.run_pure, Oper.upon]
    exact hK _ _ h

theorem r_copy_string (d s : Operand) (dT sT elem t : TypeId)
    (hu : P.underlying dT = some (.slice elem)) (hs : (P.info? elem).map (·.size) = some 1) (B off dLen dCap : Nat) (cur : Array Value) (str : ByteArray)
    (hd : a.eval d = .slice (some ⟨B, off, none⟩) dLen dCap) (hx : a.eval s = .string str) (hB : Blk w B cur t) (hle : str.size ≤ dLen) (hfit : off + str.size ≤ cur.size)
    (hgd : Region.wanted ⟨dst, .call { callee := .builtin .copy, args := #[d, s], argTypes := #[dT, sT] }, ty, pos, aft, gd⟩ (yielded ops a.tmps) = true) (h : ∀ w1, Upd B w w1 → Blk w1 B (cur.toList.take off ++ Lib.byteCells str.data.toList ++ cur.toList.drop (off + str.size)).toArray t → wpList P ops Q rest (a.put dst (goInt str.size)) w1) : wpList P ops Q (⟨dst, .call { callee := .builtin .copy, args := #[d, s], argTypes := #[dT, sT] }, ty, pos, aft, gd⟩ :: rest) a w :=
  wpList_want hgd fun _ hK => by
    have hr := Lib.run_copy_row_string w dT sT ty elem B off dLen dCap str cur t hu hs hB hle hfit
    unfold Oper.wp execOp
    simp only [resolve, invoke, builtin, Sem.run_bind, Sem.run_pure, Result.andThen_ok, List.map_toArray, List.map_cons, List.map_nil, hd, hx, hr, Oper.upon]
    exact hK _ _ (h _ (Upd.setRow w B _) (setRow_heap w B cur _ t _ hB))
end

theorem results_row {P : Program} {fn : Func} {p : Tmp} {T : TypeId} (h : fn.results = #[.cell p T]) (tmps : Array Value) (w : World) (B : Nat) (t : TypeId) (cs : Array Value) (d : TypeDesc)
    (hp : tmps.getD p undef = .pointer (some ⟨B, 0, none⟩)) (hg : Blk w B cs t)
    (hu : P.underlying T = some d) (hd : (match d with | .struct _ | .array _ _ => true | _ => false) = true) (hi : (P.info? T).map (·.size) = some cs.size) :
    (results fn tmps).run P w = .ok (.agg cs) w := results_cell_row h tmps w B t cs (0, 0) d hp hg hu hd hi

theorem results_row_bool {P : Program} {fn : Func} {p q : Tmp} {T : TypeId} (h : fn.results = #[.cell p T, .tmp q]) (tmps : Array Value) (w : World) (B : Nat) (t : TypeId) (cs : Array Value) (d : TypeDesc)
    (hp : tmps.getD p undef = .pointer (some ⟨B, 0, none⟩)) (hg : Blk w B cs t)
    (hu : P.underlying T = some d) (hd : (match d with | .struct _ | .array _ _ => true | _ => false) = true) (hi : (P.info? T).map (·.size) = some cs.size) :
    (results fn tmps).run P w = .ok (.tuple #[.agg cs, tmps.getD q undef]) w := by
  have hp' : tmps[p]?.getD undef = .pointer (some ⟨B, 0, none⟩) := by simpa using hp
  simp [results, h, hp', asAddr, run_loadVar_row w B t T cs (0, 0) d hg hu hd hi]
end Go.Proofs.YthjkeohnjggmiaaDoor
