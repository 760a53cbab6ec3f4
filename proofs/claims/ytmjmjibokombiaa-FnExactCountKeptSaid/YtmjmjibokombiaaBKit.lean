/-
  Small rules of my own for walking a function: worlds that only grow, blocks of known cells, structs loaded and stored whole. They hold over every program.
  Rules of my own for a statement whose order of evaluation is left open: operations that only read may be taken first while the others keep what they read; the rest comes in its one order.
  Rules of my own on slices that a call makes itself: appending, new short slices, single cells loaded and stored.
  Rules of my own for a statement whose order of evaluation is left open: all operations but the last ones leave alone what they read (calls may make new memory), and the last ones come in their one order: one walk in the order of the text serves every order.
  Rules of my own for a statement whose order of evaluation is left open and that writes more than once: what only reads may be taken first if all operations from the first write on wait for it; what reads nothing may always be taken first.
-/
import Derived.WalkKit
import Derived.WalkSpells
import Derived.WalkLawsBesides
import Derived.Deep.QuietTactic
import Derived.BigQuiet
import Derived.Laws.CopyOwn
import Derived.Lib.SlBytesConst
import Derived.Lib.BufferWrite
import Derived.Deep.RegionHeld3
import Derived.StillTail
import Derived.Lib.SlBytesRow
namespace Go.Proofs.Ytmjmjibokombiaa
open Go.RowKit

/-! worlds -/
/-- All that was there has stayed; there may be more. -/
def Gr (w w' : World) : Prop := Below w.heap.size w w'
theorem Gr.refl (w : World) : Gr w w := Below.refl _ _
theorem Gr.size {w w' : World} (h : Gr w w') : w.heap.size ≤ w'.heap.size := Below.size h
theorem Gr.trans {a b c : World} (h : Gr a b) (k : Gr b c) : Gr a c := Below.trans h (Below.mono k h.size)
theorem Gr.alloc {a w : World} (h : Gr a w) (o : Obj) : Gr a (w.alloc o) := Below.alloc h h.size o
theorem Gr.drew {a w : World} (h : Gr a w) : Gr a w.drew := Below.drew h
theorem Gr.drewN {a w : World} (h : Gr a w) (n : Nat) : Gr a (w.drewN n) := by
  exact ⟨h.os, h.tape, h.output, h.size, h.block⟩
theorem Gr.lt {w : World} {k : Nat} {o : Obj} (h : w.heap[k]? = some o) : k < w.heap.size := by
  by_cases hk : k < w.heap.size
  · exact hk
  · rw [Array.getElem?_eq_none (by omega)] at h; cases h
theorem Gr.keep {w w' : World} (h : Gr w w') {k : Nat} {o : Obj} (hk : w.heap[k]? = some o) : w'.heap[k]? = some o := (Below.block h k (Gr.lt hk)).trans hk
theorem Gr.cell {w w' : World} (h : Gr w w') {a : Addr} {v : Value} (hc : w.cell? a = some v) : w'.cell? a = some v := by
  exact (Below.cell h (World.block_lt_of_cell? w a hc)).trans hc
theorem Gr.row {w w' : World} (h : Gr w w') {base : Nat} {e : TypeId} {size : Nat} {v : Value} {n : Nat} {xs : List Value} (hr : w.ownsRow base e size v n xs) : w'.ownsRow base e size v n xs := by
  obtain ⟨h1, h2 | ⟨g, cap, cur, a, b, c, d⟩⟩ := hr
  · exact ⟨h1, .inl h2⟩
  · exact ⟨h1, .inr ⟨g, cap, cur, a, b, h.keep c, d⟩⟩
/-- Only block B has changed. -/
structure Upd (B : Nat) (w w' : World) : Prop where
  os : w'.os = w.os
  tape : w'.tape = w.tape
  output : w'.output = w.output
  size : w.heap.size = w'.heap.size
  block : ∀ k, k ≠ B → w'.heap[k]? = w.heap[k]?
theorem Upd.gr {B : Nat} {w0 w w' : World} (h : Upd B w w') (hg : Gr w0 w) (hB : w0.heap.size ≤ B) : Gr w0 w' :=
  ⟨h.os.trans hg.os, h.tape.trans hg.tape, h.output.trans hg.output, by have := h.size; have := hg.size; omega, fun k hk => (h.block k (by omega)).trans (hg.block k hk)⟩
theorem Upd.keep {B : Nat} {w w' : World} (h : Upd B w w') {k : Nat} {o : Obj} (hk : w.heap[k]? = some o) (hne : k ≠ B) : w'.heap[k]? = some o := (h.block k hne).trans hk
theorem Upd.setRow (w : World) (B : Nat) (cs : Array Value) : Upd B w (w.setRow B cs) :=
  ⟨rfl, rfl, rfl, by simp, fun k hk => setRow_other w B k cs hk⟩
theorem Upd.setCell (w : World) (a : Addr) (v : Value) : Upd a.block w (w.setCell a v) :=
  ⟨rfl, rfl, rfl, by simp [World.setCell], fun k hk => heap_setCell_other w a k v hk⟩

theorem ret_bool {a b : Bool} (h : a = b) : Ending.returned (.bool a) = .returned (.bool b) := by rw [h]
theorem ret_int {k : IntKind} {a b : Int} (h : a = b) : Ending.returned (.int k a) = .returned (.int k b) := by rw [h]
theorem hidI {p : Prop} (h : p) : Hid p := h
/-- A product under a name of its own, so that it stays one number. -/
def nn (x y : Nat) : Nat := x * y
theorem nn_int (x y : Nat) : ((nn x y : Nat) : Int) = (x : Int) * (y : Int) := by unfold nn; simp
theorem nn_le {x y a b : Nat} (hx : x ≤ a) (hy : y ≤ b) : nn x y ≤ a * b := Nat.mul_le_mul hx hy
theorem nn_wrap (x y : Nat) (h : nn x y ≤ 9223372036854775807) : wrap64 ((x : Int) * (y : Int)) = (nn x y : Nat) := by
  rw [← nn_int]; exact IntWalk.wrap64_in _ (by omega)
/-- It returns v, and all that was there has stayed. -/
def Ret (v : Value) (w : World) (e : Ending) (w' : World) : Prop := e = .returned v ∧ Gr w w'

section
variable {P : Program} {w : World} {ops : Array Oper} {rest : List Oper} {o : Oper} {a : Act} {Q : Exit → Act → World → Prop} {dst : Option Tmp} {ty : TypeId} {pos : String} {aft : Array Edge} {gd : Option (Nat × Bool)}

/-- A new block of known cells. -/
structure New (w w1 : World) (B : Nat) (cs : Array Value) (T : TypeId) : Prop where
  gr : Gr w w1
  lo : w.heap.size ≤ B
  hi : B < w1.heap.size
  blk : w1.heap[B]? = some (.cells cs T (0, 0))
theorem New.mk' (w : World) (cs : Array Value) (T : TypeId) : New w (w.alloc (.cells cs T)) w.heap.size cs T :=
  ⟨(Gr.refl _).alloc _, Nat.le_refl _, by show _ < (w.heap.push _).size; simp, heap_alloc_new w _⟩

theorem wpList_want (hgd : Region.wanted o (yielded ops a.tmps) = true)
    (h : ∀ K : Act → World → Prop, (∀ a w, wpList P ops Q rest a w → K a w) → o.wp P a w K Q) : wpList P ops Q (o :: rest) a w :=
  wpList_step fun K hK => by rw [if_pos hgd]; exact h K hK

theorem r_box (T : TypeId) (x : Operand) (cs : Array Value) (hx : a.eval x = .agg cs)
    (hgd : Region.wanted ⟨dst, .box T x, ty, pos, aft, gd⟩ (yielded ops a.tmps) = true) (h : ∀ w1 B, New w w1 B cs T → wpList P ops Q rest (a.put dst (.pointer (some ⟨B, 0, none⟩))) w1) : wpList P ops Q (⟨dst, .box T x, ty, pos, aft, gd⟩ :: rest) a w :=
  wpList_want hgd fun _ hK => by
    have hrun : (Instr.box T (.agg cs)).run P w = .ok (.pointer (some ⟨w.heap.size, 0, none⟩)) (w.alloc (.cells cs T)) := rfl
    unfold Oper.wp execOp
    simp only [hx, Sem.run_bind, hrun, Result.andThen_ok, Sem.run_pure, Oper.upon]
    exact hK _ _ (h _ _ (New.mk' w cs T))

theorem run_alloc_zero (T : TypeId) (z : Value) (hz : (zeroValue T).run P w = .ok z w) :
    (Instr.alloc T true (.tuple #[])).run P w = .ok (.pointer (some ⟨w.heap.size, 0, none⟩)) (w.alloc (.cells z.cells T)) := by
  unfold Instr.alloc
  rw [Sem.run_bind, hz]
  rfl

theorem r_alloc (T : TypeId) (z : Value) (hz : ∀ w, (zeroValue T).run P w = .ok z w)
    (hgd : Region.wanted ⟨dst, .alloc T, ty, pos, aft, gd⟩ (yielded ops a.tmps) = true) (h : ∀ w1 B, New w w1 B z.cells T → wpList P ops Q rest (a.put dst (.pointer (some ⟨B, 0, none⟩))) w1) : wpList P ops Q (⟨dst, .alloc T, ty, pos, aft, gd⟩ :: rest) a w :=
  wpList_want hgd fun _ hK => by
    unfold Oper.wp execOp
    simp only [Sem.run_bind, run_alloc_zero T z (hz w), Result.andThen_ok, Sem.run_pure, Oper.upon]
    exact hK _ _ (h _ _ (New.mk' w _ T))

theorem run_store_row (T t : TypeId) (B : Nat) (cs old : Array Value) (hB : w.heap[B]? = some (.cells old t (0, 0))) (hs : (sizeOf T).run P w = .ok cs.size w) (ho : old.size = cs.size) (h1 : ∀ v ∈ cs.toList, v.oneCell' = true) :
    (Instr.storeAt T (.pointer (some ⟨B, 0, none⟩)) (.agg cs)).run P w = .ok () (w.setRow B cs) := by
  have h := run_storeCells_from (P := P) B t cs.toList 0 old w hB (by simp [ho]) h1
  unfold Instr.storeAt storeVar
  simp only [Instr.sureAddr, Sem.run_bind, Sem.run_pure, Result.andThen_ok, hs, Value.cells]
  simp at h ⊢
  exact h

/-- Block B holds the cells cs. -/
def Blk (w : World) (B : Nat) (cs : Array Value) (T : TypeId) : Prop := w.heap[B]? = some (.cells cs T (0, 0))
theorem Gr.blk {w w' : World} (h : Gr w w') {B : Nat} {cs : Array Value} {T : TypeId} (hk : Blk w B cs T) : Blk w' B cs T := h.keep hk
theorem Upd.blk {B' : Nat} {w w' : World} (h : Upd B' w w') {B : Nat} {cs : Array Value} {T : TypeId} (hk : Blk w B cs T) (hne : B ≠ B') : Blk w' B cs T := h.keep hk hne
theorem heap_alloc_keep {w : World} {B : Nat} {cs : Array Value} {T : TypeId} {o : Obj} (hk : Blk w B cs T) : Blk (w.alloc o) B cs T := ((Gr.refl w).alloc o).blk hk
/-- Block B is the object o. -/
def Own (w : World) (B : Nat) (o : Obj) : Prop := w.heap[B]? = some o
theorem Gr.own {w w' : World} (h : Gr w w') {B : Nat} {o : Obj} (hk : Own w B o) : Own w' B o := h.keep hk
theorem Own.new (w : World) (o : Obj) : Own (w.alloc o) w.heap.size o := heap_alloc_new w o
theorem Own.cell {w : World} {B : Nat} {cs : Array Value} {T : TypeId} {fr : Nat × Nat} (hk : Own w B (.cells cs T fr)) (j : Nat) : w.cell? ⟨B, j, none⟩ = cs[j]? := cell_of_row w B j cs T fr hk
theorem Blk.lt {w : World} {B : Nat} {cs : Array Value} {T : TypeId} (hk : Blk w B cs T) : B < w.heap.size := Gr.lt hk
theorem Blk.cell {w : World} {B : Nat} {cs : Array Value} {T : TypeId} (hk : Blk w B cs T) (j : Nat) : w.cell? ⟨B, j, none⟩ = cs[j]? := cell_of_row w B j cs T _ hk
theorem Blk.free {w : World} {B : Nat} {cs : Array Value} {T : TypeId} (hk : Blk w B cs T) (j : Nat) : w.frozen? ⟨B, j, none⟩ = false := frozen_of_row w B j cs T hk

theorem r_store_row (T t : TypeId) (p x : Operand) (B : Nat) (hp : a.eval p = .pointer (some ⟨B, 0, none⟩)) (cs old : Array Value) (hx : a.eval x = .agg cs)
    (hB : Blk w B old t) (hs : ∀ w, (sizeOf T).run P w = .ok cs.size w) (hsz : old.size = cs.size) (h1 : ∀ v ∈ cs.toList, v.oneCell' = true)
    (hgd : Region.wanted ⟨dst, .store T p x, ty, pos, aft, gd⟩ (yielded ops a.tmps) = true) (h : ∀ w1, Upd B w w1 → Blk w1 B cs t → wpList P ops Q rest (a.put dst undef) w1) : wpList P ops Q (⟨dst, .store T p x, ty, pos, aft, gd⟩ :: rest) a w :=
  wpList_want hgd fun _ hK => by
    unfold Oper.wp execOp
    simp only [hp, hx, Sem.run_bind, run_store_row T t B cs old hB (hs w) hsz h1, Result.andThen_ok, Sem.run_pure, Oper.upon]
    exact hK _ _ (h _ (Upd.setRow w B cs) (setRow_heap w B old cs t _ hB))

theorem r_load_row (T : TypeId) (x : Operand)
    (B : Nat) (hx : a.eval x = .pointer (some ⟨B, 0, none⟩)) (t : TypeId) (cs : Array Value) (d : TypeDesc) (hg : Blk w B cs t)
    (hu : P.underlying T = some d) (hd : (match d with | .struct _ | .array _ _ => true | _ => false) = true) (hi : (P.info? T).map (·.size) = some cs.size)
    (hgd : Region.wanted ⟨dst, .load T x, ty, pos, aft, gd⟩ (yielded ops a.tmps) = true) (h : wpList P ops Q rest (a.put dst (.agg cs)) w) : wpList P ops Q (⟨dst, .load T x, ty, pos, aft, gd⟩ :: rest) a w :=
  wpList_want hgd fun _ hK => wp_load_row T x rfl B hx t cs (0, 0) d hg hu hd hi (hK _ _ h)

theorem r_build (T : TypeId) (l : List (Nat × Operand)) (ps : List (Nat × Value)) (v : Value) (hr : (Instr.build T ps.toArray).run P w = .ok v w)
    (hp : l.map (fun x => (x.1, a.eval x.2)) = ps) (hgd : Region.wanted ⟨dst, .build T l.toArray, ty, pos, aft, gd⟩ (yielded ops a.tmps) = true) (h : wpList P ops Q rest (a.put dst v) w) : wpList P ops Q (⟨dst, .build T l.toArray, ty, pos, aft, gd⟩ :: rest) a w :=
  wpList_want hgd fun _ hK => by
    unfold Oper.wp execOp
    simp only [List.map_toArray]
    rw [show (l.map fun x => (x.1, a.eval x.2)) = ps from hp]
    simp only [Sem.run_bind, hr, Result.andThen_ok, Sem.run_pure, Oper.upon]
    exact hK _ _ h

theorem r_copy_string (d s : Operand) (dT sT elem t : TypeId)
    (hu : P.underlying dT = some (.slice elem)) (hs : (P.info? elem).map (·.size) = some 1) (B off dLen dCap : Nat) (cur : Array Value) (str : ByteArray)
    (hd : a.eval d = .slice (some ⟨B, off, none⟩) dLen dCap) (hx : a.eval s = .string str) (hB : Blk w B cur t) (hle : str.size ≤ dLen) (hfit : off + str.size ≤ cur.size)
    (hgd : Region.wanted ⟨dst, .call { callee := .builtin .copy, args := #[d, s], argTypes := #[dT, sT] }, ty, pos, aft, gd⟩ (yielded ops a.tmps) = true) (h : ∀ w1, Upd B w w1 → Blk w1 B (cur.toList.take off ++ Lib.byteCells str.data.toList ++ cur.toList.drop (off + str.size)).toArray t → wpList P ops Q rest (a.put dst (goInt str.size)) w1) : wpList P ops Q (⟨dst, .call { callee := .builtin .copy, args := #[d, s], argTypes := #[dT, sT] }, ty, pos, aft, gd⟩ :: rest) a w :=
  wpList_want hgd fun _ hK => by
    have hr := Lib.run_copy_row_string w dT sT ty elem B off dLen dCap str cur t hu hs hB hle hfit
    unfold Oper.wp execOp
    simp only [resolve, invoke, builtin, Sem.run_bind, Sem.run_pure, Result.andThen_ok, List.map_toArray, List.map_cons, List.map_nil, hd, hx, hr, Oper.upon]
    exact hK _ _ (h _ (Upd.setRow w B _) (setRow_heap w B cur _ t _ hB))
end

theorem results_row {P : Program} {fn : Func} {p : Tmp} {T : TypeId} (h : fn.results = #[.cell p T]) (tmps : Array Value) (w : World) (B : Nat) (t : TypeId) (cs : Array Value) (d : TypeDesc)
    (hp : tmps.getD p undef = .pointer (some ⟨B, 0, none⟩)) (hg : Blk w B cs t)
    (hu : P.underlying T = some d) (hd : (match d with | .struct _ | .array _ _ => true | _ => false) = true) (hi : (P.info? T).map (·.size) = some cs.size) :
    (results fn tmps).run P w = .ok (.agg cs) w := results_cell_row h tmps w B t cs (0, 0) d hp hg hu hd hi

theorem results_row_bool {P : Program} {fn : Func} {p q : Tmp} {T : TypeId} (h : fn.results = #[.cell p T, .tmp q]) (tmps : Array Value) (w : World) (B : Nat) (t : TypeId) (cs : Array Value) (d : TypeDesc)
    (hp : tmps.getD p undef = .pointer (some ⟨B, 0, none⟩)) (hg : Blk w B cs t)
    (hu : P.underlying T = some d) (hd : (match d with | .struct _ | .array _ _ => true | _ => false) = true) (hi : (P.info? T).map (·.size) = some cs.size) :
    (results fn tmps).run P w = .ok (.tuple #[.agg cs, tmps.getD q undef]) w := by
  have hp' : tmps[p]?.getD undef = .pointer (some ⟨B, 0, none⟩) := by simpa using hp
  simp [results, h, hp', asAddr, run_loadVar_row w B t T cs (0, 0) d hg hu hd hi]
end Go.Proofs.Ytmjmjibokombiaa
namespace Go.Proofs.Ytmjmjibokombiaa
open Go.RowKit
section
variable {P : Program} {md : Region.Mode} {ops : Array Oper} {Q : Exit → Act → World → Prop} {F : World → Prop} {k : Nat}

/-- Any order, and behind each operation but number k the fact F holds. -/
def AnyK (P : Program) (md : Region.Mode) (ops : Array Oper) (Q : Exit → Act → World → Prop) (F : World → Prop) (k : Nat) : Nat → Array Bool → Act → World → Prop
  | 0, l, a, w => Region.ready md ops l = [] ∧ Q .normal a w
  | n + 1, l, a, w => (Region.ready md ops l = [] → Q .normal a w) ∧
      ∀ i ∈ Region.ready md ops l, wpOp P ops Q i (fun a' w' => (i ≠ k → F w') ∧ AnyK P md ops Q F k n (l.setIfInBounds i true) a' w') a w

theorem AnyK.any : ∀ (n : Nat) (l : Array Bool) (a : Act) (w : World), AnyK P md ops Q F k n l a w → wpAny P md ops Q n l a w
  | 0, _, _, _, h => h
  | n + 1, _, _, _, h => ⟨h.1, fun i hi => wpOp_mono (fun a' w' q => AnyK.any n _ a' w' q.2) (h.2 i hi)⟩

/-- Number k waits for number i itself. -/
def waitsOn (md : Region.Mode) (ops : Array Oper) (k i : Nat) : Bool := ((ops[k]?).map fun o => o.after.any fun e => Region.binds md e && e.on == i).getD true

theorem not_ready {i : Nat} {l : Array Bool} (hw : waitsOn md ops k i = true) (hi : l.getD i true = false) : k ∉ Region.ready md ops l := by
  intro hk
  obtain ⟨_, o, ho, hall⟩ := mem_ready.1 hk
  unfold waitsOn at hw
  rw [ho] at hw
  simp only [Option.map_some, Option.getD_some, Array.any_eq_true', Bool.and_eq_true, beq_iff_eq] at hw
  obtain ⟨e, he, hb, rfl⟩ := hw
  have := hall e he hb
  rcases Nat.lt_or_ge e.on l.size with h | h
  · simp [h] at this hi; rw [hi] at this; cases this
  · simp [Array.getElem?_eq_none h] at this

theorem AnyK.first {i : Nat} {oi : Oper} {v : Value} (hi : ops[i]? = some oi) (hsel : Region.noSelect ops = true) (hik : i ≠ k) (hw : waitsOn md ops k i = true)
    (hQ : ∀ c a w, Q (.panic c) (a.put oi.dst v) w → Q (.panic c) a w) :
    ∀ (n : Nat) (l : Array Bool) (a : Act) (w : World),
      (∀ j oj, ops[j]? = some oj → j ≠ i → l.getD j true = false → (∀ e ∈ oj.after, Region.binds md e = true → e.on ≠ i) → oi.apart ops oj = true) →
      i ∈ Region.ready md ops l → YieldsIf P ops F oi v a → F w → AnyK P md ops Q F k n (l.setIfInBounds i true) (a.put oi.dst v) w → AnyK P md ops Q F k (n + 1) l a w := by
  intro n
  have take : ∀ {K : Act → World → Prop} {a : Act} {w : World}, YieldsIf P ops F oi v a → F w → K (a.put oi.dst v) w → wpOp P ops Q i K a w := fun hy hF h => hy.wpOp hi hF h
  induction n with
  | zero =>
    intro l a w _ hr hy hF H
    constructor
    · intro h0; rw [h0] at hr; cases hr
    · intro j hj
      by_cases e : j = i
      · subst e; exact take hy hF ⟨fun _ => hF, H⟩
      · have h1 := ready_mono hj e
        rw [H.1] at h1; cases h1
  | succ n ih =>
    intro l a w hfree hr hy hF H
    constructor
    · intro h0; rw [h0] at hr; cases hr
    · intro j hj
      by_cases e : j = i
      · subst e; exact take hy hF ⟨fun _ => hF, H⟩
      · have hil : l.getD i true = false := by
          have := (mem_ready.1 hr).1; exact this
        have hjk : j ≠ k := fun e2 => not_ready hw hil (e2 ▸ hj)
        obtain ⟨hjl, oj, hoj, hall⟩ := mem_ready.1 hj
        have hno : ∀ x ∈ oj.after, Region.binds md x = true → x.on ≠ i := by
          intro x hx hb e3
          have h4 := hall x hx hb
          rw [e3] at h4
          rcases Nat.lt_or_ge i l.size with h | h
          · simp [h] at h4 hil; rw [hil] at h4; cases h4
          · simp [Array.getElem?_eq_none h] at h4
        have h2 := wpOp_putIf hoj (hfree j oj hoj e hjl hno) (fun cs b => Region.noSelect_spec hsel i oi cs b hi) (fun cs b => Region.noSelect_spec hsel j oj cs b hoj) hQ hy (H.2 j (ready_mono hj e))
        refine wpOp_mono (fun a' w' q => ⟨fun _ => q.2.1 hjk, ih _ a' w' ?_ (ready_mono hr (Ne.symm e)) q.1 (q.2.1 hjk) ?_⟩) h2
        · intro m om hm hmi hml hmn
          refine hfree m om hm hmi ?_ hmn
          by_cases e5 : j = m
          · subst e5; exact hjl
          · rwa [getD_set_ne true e5] at hml
        · have := q.2.2
          rwa [Array.setIfInBounds_comm _ _ (Ne.symm e)] at this

def nthOp : List Oper → Nat → Option Oper
  | [], _ => none
  | o :: _, 0 => some o
  | _ :: r, n + 1 => nthOp r n
theorem nthOp_get : ∀ (l : List Oper) (i : Nat) {o : Oper}, nthOp l i = some o → l.toArray[i]? = some o
  | [], _, _, h => by cases h
  | _ :: _, 0, _, h => by simpa [nthOp] using h
  | _ :: r, n + 1, _, h => by have := nthOp_get r n h; simpa using this

/-- The next one only reads: take it first. -/
theorem K_take {L : List Oper} (i : Nat) (l' : Array Bool) {oi : Oper} {v : Value} {n : Nat} {l : Array Bool} {a : Act} {w : World} (hi : nthOp L i = some oi)
    (hc : (Region.noSelect L.toArray && decide (i ≠ k) && waitsOn md L.toArray k i && Region.free md L.toArray l i && (Region.ready md L.toArray l).contains i && decide (l.setIfInBounds i true = l')) = true)
    (hQ : ∀ c a w, Q (.panic c) (a.put oi.dst v) w → Q (.panic c) a w) (hwt : Region.wanted oi (yielded L.toArray a.tmps) = true) (hy : ∀ w, F w → (execOp a.eval oi).run P w = .ok (.value v) w) (hF : F w)
    (h : AnyK P md L.toArray Q F k n l' (a.put oi.dst v) w) : AnyK P md L.toArray Q F k (n + 1) l a w := by
  simp only [Bool.and_eq_true, decide_eq_true_eq] at hc
  obtain ⟨⟨⟨⟨⟨c1, c2⟩, c3⟩, c4⟩, c5⟩, c6⟩ := hc
  subst c6
  exact AnyK.first (nthOp_get L i hi) c1 c2 c3 hQ n l a w (Region.free_spec (nthOp_get L i hi) c4) (by simpa using c5) (.inl ⟨hwt, hy⟩) hF h

theorem wp_then {o : Oper} {a : Act} {w : World} {K : Act → World → Prop} (h : o.wp P a w K (Exit.then K Q)) : o.wp P a w K Q := by
  unfold Oper.wp at *
  generalize (execOp a.eval o).run P w = r at *
  cases r with
  | ok n w' =>
    cases n with
    | enter f args =>
      refine Calls.mono h fun e w'' he => ?_
      cases e <;> exact he
    | _ => exact h
  | halt x w' => cases x <;> exact h
/-- One alone may come up. -/
theorem K_one {L : List Oper} (i : Nat) (l' : Array Bool) {oi : Oper} {n : Nat} {l : Array Bool} {a : Act} {w : World} (hi : nthOp L i = some oi)
    (hr : (decide (Region.ready md L.toArray l = [i]) && decide (l.setIfInBounds i true = l')) = true)
    (h : wpList P L.toArray (Exit.then (fun a' w' => (i ≠ k → F w') ∧ AnyK P md L.toArray Q F k n l' a' w') Q) [oi] a w) : AnyK P md L.toArray Q F k (n + 1) l a w := by
  simp only [Bool.and_eq_true, decide_eq_true_eq] at hr
  obtain ⟨hr, e⟩ := hr
  subst e
  refine ⟨fun h0 => by (rw [hr] at h0; cases h0), ?_⟩
  intro j hj
  rw [hr] at hj
  obtain rfl : j = i := by simpa using hj
  unfold wpOp
  simp only [nthOp_get L j hi]
  unfold wpList at h
  split at h
  · rename_i hw
    rw [if_pos hw]
    rcases h with h | ⟨h1, h2⟩
    · exact .inl (wp_then h)
    · exact .inr ⟨h1, h2⟩
  · rename_i hw
    rw [if_neg hw]
    exact h

theorem K_done' {n : Nat} {l : Array Bool} {a : Act} {w : World} (hr : Region.ready md ops l = []) (h : Q .normal a w) : AnyK P md ops (NoPanic Q) F k n l a w := by
  cases n with
  | zero => exact ⟨hr, h⟩
  | succ n => exact ⟨fun _ => h, fun i hi => by (rw [hr] at hi; cases hi)⟩
theorem K_done {n : Nat} {l : Array Bool} {a : Act} {w : World} (hr : Region.ready md ops l = []) (h : Q .normal a w) : AnyK P md ops Q F k n l a w := by
  cases n with
  | zero => exact ⟨hr, h⟩
  | succ n => exact ⟨fun _ => h, fun i hi => by rw [hr] at hi; cases hi⟩

theorem K_begin {id : Nat} {a : Act} {w : World} (F : World → Prop) (k n : Nat) (l : Array Bool) (hn : ops.size = n) (hl : Array.replicate n false = l) (hm : P.follows .mixedOrders = true)
    (h : AnyK P .any ops (NoPanic Q) F k n l a w.drew) : (Code.region id ops true).wp P Q a w := by
  subst hn; subst hl
  exact wp_region_noPanic (wp_region_any hm (AnyK.any _ _ _ _ h))
end
end Go.Proofs.Ytmjmjibokombiaa
namespace Go.Proofs.Ytmjmjibokombiaa
open Go.RowKit
section
variable {P : Program} {w : World} {ops : Array Oper} {rest : List Oper} {a : Act} {Q : Exit → Act → World → Prop} {dst : Option Tmp} {ty : TypeId} {pos : String} {aft : Array Edge} {gd : Option (Nat × Bool)}

/-- What the table says of an element type. -/
structure ElemInfo (P : Program) (t e : TypeId) (z : Value) (size bytes : Nat) : Prop where
  under : P.underlying t = some (.slice e)
  info : (P.info? e).map (fun i => (i.zero, i.size, i.bytes)) = some (some z, size, bytes)
  cells : z.cells.size = size
  pos : 0 < size

/-- w' is w but for new blocks and for block B (where it is told). -/
structure Grb (B : Option Nat) (w w' : World) : Prop where
  g : w.grownBy w' B
theorem Grb.size {B : Option Nat} {w w' : World} (h : Grb B w w') : w.heap.size ≤ w'.heap.size := h.g.size
theorem Grb.keep {B : Option Nat} {w w' : World} (h : Grb B w w') {k : Nat} {o : Obj} (hk : w.heap[k]? = some o) (hne : B ≠ some k) : w'.heap[k]? = some o :=
  (h.g.block k (Gr.lt hk) (fun e => hne e.symm)).trans hk
theorem Grb.blk {B : Option Nat} {w w' : World} (h : Grb B w w') {k : Nat} {cs : Array Value} {T : TypeId} (hk : Blk w k cs T) (hne : B ≠ some k) : Blk w' k cs T := h.keep hk hne
theorem Grb.own {B : Option Nat} {w w' : World} (h : Grb B w w') {k : Nat} {o : Obj} (hk : Own w k o) (hne : B ≠ some k) : Own w' k o := h.keep hk hne
theorem Grb.gr {B : Option Nat} {w0 w w' : World} (h : Grb B w w') (hg : Gr w0 w) (hB : ∀ k, B = some k → w0.heap.size ≤ k) : Gr w0 w' := Below.grown hg h.g hg.size hB
theorem Grb.row {B : Option Nat} {w w' : World} (h : Grb B w w') {base : Nat} {e : TypeId} {size : Nat} {v : Value} {n : Nat} {xs : List Value} (hr : w.ownsRow base e size v n xs) (hne : v.ownBlock = none ∨ v.ownBlock ≠ B) : w'.ownsRow base e size v n xs := hr.kept h.g hne

theorem Upd.row {B : Nat} {w w' : World} (h : Upd B w w') {base : Nat} {e : TypeId} {size : Nat} {v : Value} {n : Nat} {xs : List Value} (hr : w.ownsRow base e size v n xs) (hne : v.ownBlock ≠ some B) : w'.ownsRow base e size v n xs := by
  obtain ⟨h1, h2 | ⟨g, cap, cur, rfl, b, c, d⟩⟩ := hr
  · exact ⟨h1, .inl h2⟩
  · exact ⟨h1, .inr ⟨g, cap, cur, rfl, b, h.keep c (fun e => hne (by rw [← e]; rfl)), d⟩⟩
theorem own_gr {w0 w : World} {base : Nat} {e : TypeId} {size : Nat} {v : Value} {n : Nat} {xs : List Value} (hr : w.ownsRow base e size v n xs) (hb : w0.heap.size ≤ base) : ∀ k, v.ownBlock = some k → w0.heap.size ≤ k :=
  fun k hk => Nat.le_trans hb (hr.lt k hk).1
/-- A row of one element type is no block of another. -/
theorem own_ne {w : World} {base : Nat} {e : TypeId} {size : Nat} {v : Value} {n : Nat} {xs : List Value} (hr : w.ownsRow base e size v n xs) {B : Nat} {cs : Array Value} {T : TypeId} (hB : Blk w B cs T) (hT : T ≠ e) : v.ownBlock ≠ some B := by
  obtain ⟨_, ⟨rfl, _⟩ | ⟨g, cap, cur, rfl, _, hg, _⟩⟩ := hr
  · intro h; cases h
  · intro h
    obtain rfl : g = B := by simpa [Value.ownBlock] using h
    unfold Blk at hB
    rw [hB] at hg
    cases hg
    exact hT rfl
theorem own_below {w : World} {base : Nat} {e : TypeId} {size : Nat} {v : Value} {n : Nat} {xs : List Value} (hr : w.ownsRow base e size v n xs) {B : Nat} (hB : B < base) : v.ownBlock ≠ some B := by
  intro h
  have := (hr.lt B h).1
  omega

theorem own_shape {w : World} {base : Nat} {e : TypeId} {size : Nat} {v : Value} {n : Nat} {xs : List Value} (hr : w.ownsRow base e size v n xs) (hn : 0 < n) : ∃ g cap, v = .slice (some ⟨g, 0, none⟩) n cap ∧ base ≤ g ∧ n ≤ cap := by
  obtain ⟨_, ⟨_, h0⟩ | ⟨g, cap, cur, rfl, b, _, d, _⟩⟩ := hr
  · omega
  · exact ⟨g, cap, rfl, b, d⟩
theorem r_append (s x : Operand) (t e : TypeId) (z : Value) (size bytes base : Nat) (I : ElemInfo P t e z size bytes)
    (v : Value) (n : Nat) (xs : List Value) (hs : a.eval s = v) (hown : w.ownsRow base e size v n xs)
    (ad : Addr) (m c : Nat) (news : List Value) (hx : a.eval x = .slice (some ad) m c) (hl : news.length = m * size) (hnews : ∀ j u, news[j]? = some u → w.cell? (ad.add j) = some u) (h1 : ∀ u ∈ news, u.oneCell' = true)
    (h63 : n + m ≤ 1073741824) (hbytes : bytes ≤ 65536) (hbase : base ≤ w.heap.size)
    (hgd : Region.wanted ⟨dst, .call { callee := .builtin .append, args := #[s, x], argTypes := #[t, t] }, ty, pos, aft, gd⟩ (yielded ops a.tmps) = true)
    (h : ∀ v' w', w'.ownsRow base e size v' (n + m) (xs ++ news) → Grb v.ownBlock w w' → wpList P ops Q rest (a.put dst v') w') :
    wpList P ops Q (⟨dst, .call { callee := .builtin .append, args := #[s, x], argTypes := #[t, t] }, ty, pos, aft, gd⟩ :: rest) a w := by
  obtain ⟨i, hi, hz, hsize, hby⟩ := info_parts I.info
  refine wpList_want hgd fun _ hK => wp_append_own w s x t rfl base e i z size bytes I.under hi hz hsize hby I.cells I.pos v n xs hs hown ad m c news hx hl hnews h1 ?_ ?_ hbase fun v' w' h2 h3 _ => hK _ _ (h v' w' h2 ⟨h3⟩)
  · unfold maxLen; omega
  · have : (n + m) * bytes ≤ 1073741824 * 65536 := Nat.mul_le_mul h63 hbytes
    omega

/-- A slice of one element, written out. -/
theorem r_slice1 (t e : TypeId) (x : Operand) (u : Value) (hx : a.eval x = u)
    (hr : (Instr.buildSlice t 1 #[(0, u)]).run P w = .ok (.slice (some ⟨w.heap.size, 0, none⟩) 1 1) (w.alloc (.cells #[u] e)))
    (hgd : Region.wanted ⟨dst, .buildSlice t 1 #[(0, x)], ty, pos, aft, gd⟩ (yielded ops a.tmps) = true)
    (h : ∀ w1 B, New w w1 B #[u] e → wpList P ops Q rest (a.put dst (.slice (some ⟨B, 0, none⟩) 1 1)) w1) :
    wpList P ops Q (⟨dst, .buildSlice t 1 #[(0, x)], ty, pos, aft, gd⟩ :: rest) a w :=
  wpList_want hgd fun _ hK => by
    unfold Oper.wp execOp
    simp only [List.map_toArray, List.map_cons, List.map_nil, hx, Sem.run_bind, hr, Result.andThen_ok, Sem.run_pure, Oper.upon]
    exact hK _ _ (h _ _ (New.mk' w _ e))

theorem New.cell1 {w w1 : World} {B : Nat} {u : Value} {e : TypeId} (h : New w w1 B #[u] e) : ∀ (j : Nat) v, [u][j]? = some v → w1.cell? ((⟨B, 0, none⟩ : Addr).add j) = some v := by
  intro j v hj
  cases j with
  | zero => simp at hj; subst hj; exact (Blk.cell h.blk 0)
  | succ j => simp at hj

/-- One cell of a known block is written. -/
theorem r_store_cell (T t : TypeId) (p x : Operand) (B off : Nat) (hp : a.eval p = .pointer (some ⟨B, off, none⟩)) (u : Value) (hx : a.eval x = u) (cs : Array Value)
    (hB : Blk w B cs t) (hoff : off < cs.size) (hs : ∀ w, (sizeOf T).run P w = .ok 1 w) (h1 : u.oneCell' = true)
    (hgd : Region.wanted ⟨dst, .store T p x, ty, pos, aft, gd⟩ (yielded ops a.tmps) = true)
    (h : ∀ w1, Upd B w w1 → Blk w1 B (cs.setIfInBounds off u) t → wpList P ops Q rest (a.put dst undef) w1) : wpList P ops Q (⟨dst, .store T p x, ty, pos, aft, gd⟩ :: rest) a w :=
  wpList_want hgd fun _ hK => by
    have hc : u.cells = #[u] := by cases u <;> first | rfl | cases h1
    have hrun : (Instr.storeAt T (.pointer (some ⟨B, off, none⟩)) u).run P w = .ok () (w.setCell ⟨B, off, none⟩ u) := by
      have hst := run_storeCells_cells (P := P) B off [u] 0 w (fun j hj => by
        have : j = 0 := by simpa using hj
        subst this
        rw [show off + 0 + 0 = off from rfl, hB.cell off]
        simp [hoff]) (fun j _ => hB.free _) (by simpa using h1)
      unfold Instr.storeAt storeVar
      simp only [Instr.sureAddr, Sem.run_bind, Sem.run_pure, Result.andThen_ok, hs w, hc]
      simpa [World.setCells] using hst
    unfold Oper.wp execOp
    simp only [hp, hx, Sem.run_bind, hrun, Result.andThen_ok, Sem.run_pure, Oper.upon]
    exact hK _ _ (h _ (Upd.setCell w ⟨B, off, none⟩ u) (heap_setCell_same w B off cs t u hB))

/-- The run of a load of one cell. -/
theorem e_load (T : TypeId) (x : Operand) (A : Addr) (v : Value) (hx : a.eval x = .pointer (some A)) (hg : (isAgg T).run P w = .ok false w) (hc : w.cell? A = some v) :
    (execOp a.eval ⟨dst, .load T x, ty, pos, aft, gd⟩).run P w = .ok (.value v) w := by
  unfold execOp Instr.loadAt loadVar
  simp only [hx, Instr.sureAddr, Sem.run_bind, Sem.run_pure, Result.andThen_ok, hg]
  simp [load, Sem.run, hc, Result.andThen]
theorem e_val (s : Sem Value) (v : Value) (hs : s.run P w = .ok v w) : ((do pure (Next.value (← s))) : Sem Next).run P w = .ok (.value v) w := by
  simp only [Sem.run_bind, hs, Result.andThen_ok, Sem.run_pure]
end
end Go.Proofs.Ytmjmjibokombiaa
namespace Go.Proofs.Ytmjmjibokombiaa
open Go.RowKit
section
variable {P : Program} {ops : Array Oper} {md : Region.Mode} {C : World → Prop}

def wpAnyLQ (P : Program) (md : Region.Mode) (ops : Array Oper) (C : World → Prop) (n : Nat) (L : Array Bool → Act → Prop) : Nat → Array Bool → Act → Prop
  | 0, listed, a => L listed a
  | f + 1, listed, a =>
    Region.ready md ops listed ≠ [] ∧ ∀ i ∈ Region.ready md ops listed, i < n ∧ qOp P ops C i (wpAnyLQ P md ops C n L f (listed.setIfInBounds i true)) a

theorem wpAny_of_headQ {n g : Nat} {L : Array Bool → Act → Prop} {Q' : Exit → Act → World → Prop} (hL : ∀ listed a w, C w → L listed a → wpAny P md ops Q' g listed a w) :
    ∀ (f : Nat) (listed : Array Bool) (a : Act) (w : World), C w → wpAnyLQ P md ops C n L f listed a → wpAny P md ops Q' (f + g) listed a w
  | 0, listed, a, w, hw, h => by rw [Nat.zero_add]; exact hL _ _ _ hw h
  | f + 1, listed, a, w, hw, h => by
    rw [show f + 1 + g = (f + g) + 1 by omega]
    exact ⟨fun h0 => absurd h0 h.1, fun i hi => wpOp_of_qOp hw (fun a' w' hw' h' => wpAny_of_headQ hL f _ a' w' hw' h') (h.2 i hi).2⟩

theorem wpAnyLQ_first {n i : Nat} {oi : Oper} {v : Value} {L : Array Bool → Act → Prop} (hi : ops[i]? = some oi) (hsel : ∀ (j : Nat) (o : Oper) cs b, ops[j]? = some o → o.op ≠ .select cs b)
    (hs : Region.sinkB md ops n = true) (hc : Region.chainB md ops n = true) (hn : n < ops.size) (hin : i < n)
    (hdone : ∀ listed a, L listed a → ∀ j ∈ Region.ready md ops listed, n ≤ j) :
    ∀ (f : Nat) (listed : Array Bool) (a : Act), HeadInv md ops n listed →
      (∀ j oj, ops[j]? = some oj → j ≠ i → listed.getD j true = false → (∀ e ∈ oj.after, Region.binds md e = true → e.on ≠ i) → oi.apart ops oj = true) →
      i ∈ Region.ready md ops listed → YieldsIn P ops C oi v a →
      wpAnyLQ P md ops C n L f (listed.setIfInBounds i true) (a.put oi.dst v) → wpAnyLQ P md ops C n L (f + 1) listed a := by
  intro f
  induction f with
  | zero =>
    intro listed a inv _ hr hy H
    have hun := (mem_ready.1 hr).1
    refine ⟨fun h => (by rw [h] at hr; cases hr), fun j hj => ?_⟩
    have hjn : j < n := by
      rcases Nat.lt_or_ge j n with h | h
      · exact h
      · exact absurd hj (tail_waits hs hc hn inv _ i rfl hin hun j h)
    refine ⟨hjn, ?_⟩
    by_cases hji : j = i
    · subst hji; exact hy.qOp hi H
    · have := hdone _ _ H j (ready_mono hj hji)
      omega
  | succ f ih =>
    intro listed a inv hfree hr hy H
    have hun := (mem_ready.1 hr).1
    refine ⟨fun h => (by rw [h] at hr; cases hr), fun j hj => ?_⟩
    have hjn : j < n := by
      rcases Nat.lt_or_ge j n with h | h
      · exact h
      · exact absurd hj (tail_waits hs hc hn inv _ i rfl hin hun j h)
    refine ⟨hjn, ?_⟩
    by_cases hji : j = i
    · subst hji; exact hy.qOp hi H
    · have h1 := (H.2 j (ready_mono hj hji)).2
      obtain ⟨hjun, oj, hoj, hall⟩ := mem_ready.1 hj
      have hnot : ∀ e ∈ oj.after, Region.binds md e = true → e.on ≠ i := fun e he hb heq => by
        have h1 := hall e he hb
        rw [heq, getD_both hun] at h1
        cases h1
      have h2 := qOp_put hoj (hfree j oj hoj hji hjun hnot) (fun cs b => hsel i oi cs b hi) (fun cs b => hsel j oj cs b hoj) hy h1
      have hfree' : ∀ k ok, ops[k]? = some ok → k ≠ i → (listed.setIfInBounds j true).getD k true = false →
          (∀ e ∈ ok.after, Region.binds md e = true → e.on ≠ i) → oi.apart ops ok = true := fun k ok hk hki hun hno => by
        refine hfree k ok hk hki ?_ hno
        by_cases hjk : j = k
        · subst hjk; exact hjun
        · rw [getD_set_ne true hjk] at hun; exact hun
      refine qOp_mono (fun a' h3 => ih (listed.setIfInBounds j true) a' (inv.set hj hjn) hfree' (ready_mono hr (Ne.symm hji)) h3.1 ?_) h2
      rw [Array.setIfInBounds_comm _ _ hji]
      exact h3.2

theorem wpAnyLQ_lex {n g : Nat} {Lq : Act → Prop} (hsel : Region.noSelect ops = true) (hs : Region.sinkB md ops n = true) (hc : Region.chainB md ops n = true) (hn : n < ops.size) :
    ∀ (l : List Oper) (k : Nat) (listed : Array Bool) (a : Act), (∀ j, j < l.length → l[j]? = ops[k + j]?) → k + l.length = n → HeadInv md ops n listed →
    Region.lexHead md ops g l.length k listed = true → wpQuiet P ops C Lq l a →
    wpAnyLQ P md ops C n (fun listed' a' => Region.seqB md ops g n listed' = true ∧ Lq a') l.length listed a
  | [], k, listed, a, _, hk, _, hB, h => by
    have : k = n := by simpa using hk
    subst this
    exact ⟨by simpa [Region.lexHead] using hB, h⟩
  | o :: l, k, listed, a, hl, hk, inv, hB, h => by
    have h0 : ops[k]? = some o := by simpa using (hl 0 (by simp)).symm
    simp only [List.length_cons, Region.lexHead, Bool.and_eq_true] at hB
    obtain ⟨⟨hr, hf⟩, hB'⟩ := hB
    have hkn : k < n := by simp only [List.length_cons] at hk; omega
    have hr' : k ∈ Region.ready md ops listed := by simpa using hr
    have hst : qOp P ops C k (wpQuiet P ops C Lq l) a := by unfold qOp; simp only [h0]; exact h
    obtain ⟨v, hy, hK⟩ := yieldsIn_of_qOp h0 hst
    exact wpAnyLQ_first h0 (Region.noSelect_spec hsel) hs hc hn hkn (fun listed' a' hL => seqB_ready hL.1) l.length listed a inv (Region.free_spec h0 hf) hr' hy
      (wpAnyLQ_lex hsel hs hc hn l (k + 1) _ _ (fun j hj => by have := hl (j + 1) (by simp; omega); simpa [Nat.add_assoc, Nat.add_comm 1 j] using this) (by simp only [List.length_cons] at hk; omega) (inv.set hr' hkn) hB' hK)

/-- The first n operations are quiet in the class, the others come in their one order. -/
theorem wp_region_quiet_tail {id : Nat} {Q : Exit → Act → World → Prop} {a : Act} {w : World} {l : List Oper} (n : Nat) (C : World → Prop) (hm : P.follows .mixedOrders = true) (hB : Region.lexTailB .any l.toArray n = true)
    (hC : C w.drew) (h : wpQuiet P l.toArray C (fun a' => ∀ w', C w' → wpList P l.toArray Q (l.drop n) a' w') (l.take n) a) : (Code.region id l.toArray true).wp P Q a w := by
  simp only [Region.lexTailB, Bool.and_eq_true, decide_eq_true_eq] at hB
  obtain ⟨⟨⟨⟨hsel, hn⟩, hs⟩, hc⟩, hlex⟩ := hB
  have hn' : n < l.length := by simpa using hn
  have htl : (l.take n).length = n := by simp; omega
  have hdl : (l.drop n).length = l.toArray.size - n := by simp
  have inv0 : HeadInv .any l.toArray n (Array.replicate l.toArray.size false) :=
    ⟨by simp, fun j oj _ hl => (by rw [getD_replicate_false] at hl; cases hl), fun t _ ht => getD_in (by simpa using ht) (getD_replicate_false _ _)⟩
  have H := wpAnyLQ_lex (md := .any) (C := C) (g := l.toArray.size - n) hsel hs hc hn (l.take n) 0 _ a (fun j hj => by
    have hj' : j < n := by rw [htl] at hj; exact hj
    simp [hj']) (by simpa using htl) inv0 (by rw [htl]; exact hlex) h
  refine wp_region_any hm ?_
  have := wpAny_of_headQ (Q' := Q) (g := l.toArray.size - n) (fun listed a' w' hw' hL => by
    have := wpAny_of_seq (md := .any) (Q' := Q) (l.drop n) n listed a' w' (fun j => by simp [List.getElem?_drop]) (by rw [hdl]; exact hL.1) (hL.2 w' hw')
    rwa [hdl] at this) _ _ _ w.drew hC H
  rw [htl, show n + (l.toArray.size - n) = l.toArray.size by omega] at this
  exact this
end

section
variable {P : Program} {C : World → Prop} {ops : Array Oper} {rest : List Oper} {a : Act} {Q : Act → Prop} {dst : Option Tmp} {ty : TypeId} {pos : String} {aft : Array Edge} {gd : Option (Nat × Bool)}
/-- .. with the class of worlds that have grown. -/
theorem q_begin {id : Nat} {Q : Exit → Act → World → Prop} {w : World} {l : List Oper} (n : Nat) (hm : P.follows .mixedOrders = true) (hB : Region.lexTailB .any l.toArray n = true)
    (h : wpQuiet P l.toArray (fun w' => Gr w w') (fun a' => ∀ w', Gr w w' → wpList P l.toArray Q (l.drop n) a' w') (l.take n) a) : (Code.region id l.toArray true).wp P Q a w :=
  wp_region_quiet_tail n (fun w' => Gr w w') hm hB (Gr.refl w).drew h
theorem q_take {o : Oper} (v : Value) (hwt : Region.wanted o (yielded ops a.tmps) = true) (hy : ∀ w', C w' → (execOp a.eval o).run P w' = .ok (.value v) w')
    (h : wpQuiet P ops C Q rest (a.put o.dst v)) : wpQuiet P ops C Q (o :: rest) a :=
  wpQuiet_step fun K hK => by
    rw [if_pos hwt]
    exact ⟨v, fun w' hw' => by unfold Oper.quietAt; rw [hy w' hw']; exact ⟨rfl, rfl⟩, hK _ h⟩
theorem q_move (x : Operand) (v : Value) (hx : a.eval x = v) (hwt : Region.wanted ⟨dst, .move x, ty, pos, aft, gd⟩ (yielded ops a.tmps) = true)
    (h : wpQuiet P ops C Q rest (a.put dst v)) : wpQuiet P ops C Q (⟨dst, .move x, ty, pos, aft, gd⟩ :: rest) a :=
  q_take v hwt (fun w' _ => by unfold execOp; simp only [hx]; rfl) h
theorem q_assign (x : Operand) (v : Value) (hx : a.eval x = v) (hwt : Region.wanted ⟨dst, .assign x, ty, pos, aft, gd⟩ (yielded ops a.tmps) = true)
    (h : wpQuiet P ops C Q rest (a.put dst v)) : wpQuiet P ops C Q (⟨dst, .assign x, ty, pos, aft, gd⟩ :: rest) a :=
  q_take v hwt (fun w' _ => by unfold execOp; simp only [hx]; rfl) h
theorem q_call (f : FuncId) (xs : List Operand) (ts : Array TypeId) (vs : List Value) (v : Value) (hcf : ∀ args w, (callFunc f args).run P w = .ok (.enter f args) w) (hvs : xs.map a.eval = vs)
    (hwt : Region.wanted ⟨dst, .call { callee := .value (.func f), args := xs.toArray, argTypes := ts }, ty, pos, aft, gd⟩ (yielded ops a.tmps) = true)
    (hc : ∀ w', C w' → Calls P f vs.toArray w' fun e w'' => e = .returned v ∧ C w'')
    (h : wpQuiet P ops C Q rest (a.put dst v)) : wpQuiet P ops C Q (⟨dst, .call { callee := .value (.func f), args := xs.toArray, argTypes := ts }, ty, pos, aft, gd⟩ :: rest) a :=
  wpQuiet_step fun K hK => by
    rw [if_pos hwt]
    refine ⟨v, fun w' hw' => ?_, hK _ h⟩
    have e : (execOp a.eval ⟨dst, .call { callee := .value (.func f), args := xs.toArray, argTypes := ts }, ty, pos, aft, gd⟩).run P w' = .ok (.enter f vs.toArray) w' := by
      unfold execOp resolve
      simp only [List.map_toArray, hvs, Act.eval, Deferred.ofValue, Sem.run_bind, Sem.run_pure, Result.andThen_ok, invoke, Array.append_empty, Array.empty_append]
      exact hcf _ _
    unfold Oper.quietAt
    rw [e]
    exact ⟨rfl, hc w' hw'⟩
theorem run_mul {w : World} (T : TypeId) (m n r : Int) (hr : m * n = r) (h : -9223372036854775808 ≤ r ∧ r ≤ 9223372036854775807) : (binOp .mul T (.int .i64 m) (.int .i64 n)).run P w = .ok (.int .i64 r) w := by
  have hw := IntWalk.i64_in r h
  rw [← hr] at hw ⊢
  simp [binOp, Op.intArith]
  exact hw
theorem run_add {w : World} (T : TypeId) (m n r : Int) (hr : m + n = r) (h : -9223372036854775808 ≤ r ∧ r ≤ 9223372036854775807) : (binOp .add T (.int .i64 m) (.int .i64 n)).run P w = .ok (.int .i64 r) w := by
  have hw := IntWalk.i64_in r h
  rw [← hr] at hw ⊢
  simp [binOp, Op.intArith]
  exact hw
theorem run_sub {w : World} (T : TypeId) (m n r : Int) (hr : m - n = r) (h : -9223372036854775808 ≤ r ∧ r ≤ 9223372036854775807) : (binOp .sub T (.int .i64 m) (.int .i64 n)).run P w = .ok (.int .i64 r) w := by
  have hw := IntWalk.i64_in r h
  rw [← hr] at hw ⊢
  simp [binOp, Op.intArith]
  exact hw
theorem q_mul (T : TypeId) (x y : Operand) (yt : TypeId) (m n r : Int) (hx : a.eval x = .int .i64 m) (hy : a.eval y = .int .i64 n) (hr : m * n = r) (h0 : -9223372036854775808 ≤ r ∧ r ≤ 9223372036854775807)
    (hwt : Region.wanted ⟨dst, .binOp .mul T x y yt, ty, pos, aft, gd⟩ (yielded ops a.tmps) = true)
    (h : wpQuiet P ops C Q rest (a.put dst (.int .i64 r))) : wpQuiet P ops C Q (⟨dst, .binOp .mul T x y yt, ty, pos, aft, gd⟩ :: rest) a :=
  q_take (.int .i64 r) hwt (fun w' _ => by
    unfold execOp
    simp only [hx, hy, eqGuard_mul, Sem.run_bind, Sem.run_pure, Result.andThen_ok, run_mul T m n r hr h0]) h
theorem q_add (T : TypeId) (x y : Operand) (yt : TypeId) (m n r : Int) (hx : a.eval x = .int .i64 m) (hy : a.eval y = .int .i64 n) (hr : m + n = r) (h0 : -9223372036854775808 ≤ r ∧ r ≤ 9223372036854775807)
    (hwt : Region.wanted ⟨dst, .binOp .add T x y yt, ty, pos, aft, gd⟩ (yielded ops a.tmps) = true)
    (h : wpQuiet P ops C Q rest (a.put dst (.int .i64 r))) : wpQuiet P ops C Q (⟨dst, .binOp .add T x y yt, ty, pos, aft, gd⟩ :: rest) a :=
  q_take (.int .i64 r) hwt (fun w' _ => by
    unfold execOp
    simp only [hx, hy, eqGuard_add, Sem.run_bind, Sem.run_pure, Result.andThen_ok, run_add T m n r hr h0]) h
theorem q_sub (T : TypeId) (x y : Operand) (yt : TypeId) (m n r : Int) (hx : a.eval x = .int .i64 m) (hy : a.eval y = .int .i64 n) (hr : m - n = r) (h0 : -9223372036854775808 ≤ r ∧ r ≤ 9223372036854775807)
    (hwt : Region.wanted ⟨dst, .binOp .sub T x y yt, ty, pos, aft, gd⟩ (yielded ops a.tmps) = true)
    (h : wpQuiet P ops C Q rest (a.put dst (.int .i64 r))) : wpQuiet P ops C Q (⟨dst, .binOp .sub T x y yt, ty, pos, aft, gd⟩ :: rest) a :=
  q_take (.int .i64 r) hwt (fun w' _ => by
    unfold execOp
    simp only [hx, hy, eqGuard_sub, Sem.run_bind, Sem.run_pure, Result.andThen_ok, run_sub T m n r hr h0]) h
theorem run_quo {w : World} (T : TypeId) (m n : Nat) (hn : 0 < n) (hm : m ≤ 9223372036854775807) : (binOp .quo T (.int .i64 m) (.int .i64 n)).run P w = .ok (.int .i64 (m / n : Nat)) w := by
  have hn0 : ¬ n = 0 := by omega
  have hw := IntWalk.i64_quo (m : Int) (n : Int) ⟨by omega, by omega, by omega⟩
  have e : ((m / n : Nat) : Int) = (m : Int) / (n : Int) := by simp
  rw [e]
  simp [binOp, Op.intDiv, hn0]
  exact hw
theorem run_rem {w : World} (T : TypeId) (m n : Nat) (hn : 0 < n) : (binOp .rem T (.int .i64 m) (.int .i64 n)).run P w = .ok (.int .i64 (m % n : Nat)) w := by
  have hn0 : ¬ n = 0 := by omega
  have e : ((m % n : Nat) : Int) = (m : Int).tmod (n : Int) := rfl
  rw [e]
  simp [binOp, Op.intDiv, hn0]
theorem q_quo (T : TypeId) (x y : Operand) (yt : TypeId) (m n : Nat) (hx : a.eval x = .int .i64 m) (hy : a.eval y = .int .i64 n) (hn : 0 < n) (hm : m ≤ 9223372036854775807)
    (hwt : Region.wanted ⟨dst, .binOp .quo T x y yt, ty, pos, aft, gd⟩ (yielded ops a.tmps) = true)
    (h : wpQuiet P ops C Q rest (a.put dst (.int .i64 (m / n : Nat)))) : wpQuiet P ops C Q (⟨dst, .binOp .quo T x y yt, ty, pos, aft, gd⟩ :: rest) a :=
  q_take (.int .i64 (m / n : Nat)) hwt (fun w' _ => by
    unfold execOp
    simp only [hx, hy, eqGuard_quo, Sem.run_bind, Sem.run_pure, Result.andThen_ok, run_quo T m n hn hm]) h
theorem q_rem (T : TypeId) (x y : Operand) (yt : TypeId) (m n : Nat) (hx : a.eval x = .int .i64 m) (hy : a.eval y = .int .i64 n) (hn : 0 < n)
    (hwt : Region.wanted ⟨dst, .binOp .rem T x y yt, ty, pos, aft, gd⟩ (yielded ops a.tmps) = true)
    (h : wpQuiet P ops C Q rest (a.put dst (.int .i64 (m % n : Nat)))) : wpQuiet P ops C Q (⟨dst, .binOp .rem T x y yt, ty, pos, aft, gd⟩ :: rest) a :=
  q_take (.int .i64 (m % n : Nat)) hwt (fun w' _ => by
    unfold execOp
    simp only [hx, hy, eqGuard_rem, Sem.run_bind, Sem.run_pure, Result.andThen_ok, run_rem T m n hn]) h
/-- The run of a load of a whole block. -/
theorem e_load_row {w : World} (T : TypeId) (x : Operand) (B : Nat) (t : TypeId) (cs : Array Value) (d : TypeDesc) (hx : a.eval x = .pointer (some ⟨B, 0, none⟩)) (hg : Blk w B cs t)
    (hu : P.underlying T = some d) (hd : (match d with | .struct _ | .array _ _ => true | _ => false) = true) (hi : (P.info? T).map (·.size) = some cs.size) :
    (execOp a.eval ⟨dst, .load T x, ty, pos, aft, gd⟩).run P w = .ok (.value (.agg cs)) w := by
  unfold execOp Instr.loadAt
  simp only [hx, Instr.sureAddr, Sem.run_bind, Sem.run_pure, Result.andThen_ok, run_loadVar_row w B t T cs (0, 0) d hg hu hd hi]
end

section
variable {P : Program} {w : World} {ops : Array Oper} {rest : List Oper} {a : Act} {Q : Exit → Act → World → Prop} {dst : Option Tmp} {ty : TypeId} {pos : String} {aft : Array Edge} {gd : Option (Nat × Bool)}
/-- A conversion whose run is known. -/
theorem r_conv (src dt : TypeId) (x : Operand) (v u : Value) (hx : a.eval x = v) (hr : (convert src dt v).run P w = .ok u w)
    (hgd : Region.wanted ⟨dst, .convert src dt x, ty, pos, aft, gd⟩ (yielded ops a.tmps) = true) (h : wpList P ops Q rest (a.put dst u) w) : wpList P ops Q (⟨dst, .convert src dt x, ty, pos, aft, gd⟩ :: rest) a w :=
  wpList_want hgd fun _ hK => by
    unfold Oper.wp execOp
    simp only [hx, Sem.run_bind, hr, Result.andThen_ok, Sem.run_pure, Oper.upon]
    exact hK _ _ h
theorem r_make (t e : TypeId) (z : Value) (size bytes : Nat) (I : ElemInfo P t e z size bytes) (x y : Operand) (n : Nat)
    (hx : a.eval x = .int .i64 n) (hy : a.eval y = .int .i64 n) (hcells : n * size ≤ 16777216) (hbytes : bytes * n ≤ 281474976710656) (h63 : n ≤ 9223372036854775807)
    (hgd : Region.wanted ⟨dst, .makeSlice t x y, ty, pos, aft, gd⟩ (yielded ops a.tmps) = true)
    (h : ∀ w1 B, New w w1 B (madeCells z.cells (n * size)) e → wpList P ops Q rest (a.put dst (.slice (some ⟨B, 0, none⟩) n n)) w1) : wpList P ops Q (⟨dst, .makeSlice t x y, ty, pos, aft, gd⟩ :: rest) a w :=
  wpList_want hgd fun _ hK => by
    obtain ⟨i, hi, hz, hsize, hby⟩ := info_parts I.info
    subst hsize hby
    have hr := run_makeSlice w t e i z I.under hi hz .i64 .i64 n n (by omega) (Int.le_refl _) (by rw [Int.toNat_natCast]; exact hcells) (by rw [← Int.natCast_mul]; omega) (by omega)
    simp only [Int.toNat_natCast] at hr
    unfold Oper.wp execOp
    simp only [hx, hy, Sem.run_bind, hr, Result.andThen_ok, Sem.run_pure, Oper.upon]
    exact hK _ _ (h _ _ (New.mk' w _ e))
/-- One cell of a row of our own is written. -/
theorem r_store_own (T e : TypeId) (p x : Operand) (g j n cap base : Nat) (xs : List Value) (hp : a.eval p = .pointer (some ⟨g, j, none⟩)) (u : Value) (hx : a.eval x = u)
    (hr : w.ownsRow base e 1 (.slice (some ⟨g, 0, none⟩) n cap) n xs) (hj : j < n) (hs : ∀ w, (sizeOf T).run P w = .ok 1 w) (h1 : u.oneCell' = true)
    (hgd : Region.wanted ⟨dst, .store T p x, ty, pos, aft, gd⟩ (yielded ops a.tmps) = true)
    (h : ∀ w1, Upd g w w1 → w1.ownsRow base e 1 (.slice (some ⟨g, 0, none⟩) n cap) n (xs.set j u) → wpList P ops Q rest (a.put dst undef) w1) : wpList P ops Q (⟨dst, .store T p x, ty, pos, aft, gd⟩ :: rest) a w := by
  rcases hr.2 with ⟨h', _⟩ | ⟨g', cap', cur, h', hb, hg, hnc, hcm, hcs, htake⟩
  · cases h'
  · simp only [Value.slice.injEq, Option.some.injEq, Addr.mk.injEq, and_true, true_and] at h'
    obtain ⟨rfl, rfl⟩ := h'
    refine r_store_cell T e p x g j hp u hx cur hg (by simp only [Nat.mul_one] at hcs; omega) hs h1 hgd fun w1 u1 b1 => h w1 u1 ?_
    refine ⟨by simpa using hr.1, .inr ⟨g, cap, cur.setIfInBounds j u, rfl, hb, b1, hnc, hcm, by simpa using hcs, ?_⟩⟩
    rw [Array.toList_setIfInBounds, ← htake, List.take_set]
end
end Go.Proofs.Ytmjmjibokombiaa
namespace Go.Proofs.Ytmjmjibokombiaa
open Go.RowKit
section
variable {P : Program} {md : Region.Mode} {ops : Array Oper} {Q : Exit → Act → World → Prop} {F : World → Prop} {k : Nat}

/-- Any order, and as long as number k has not come up the fact F holds. -/
def AnyF (P : Program) (md : Region.Mode) (ops : Array Oper) (Q : Exit → Act → World → Prop) (F : World → Prop) (k : Nat) : Nat → Array Bool → Act → World → Prop
  | 0, l, a, w => Region.ready md ops l = [] ∧ Q .normal a w
  | n + 1, l, a, w => (Region.ready md ops l = [] → Q .normal a w) ∧
      ∀ i ∈ Region.ready md ops l, wpOp P ops Q i (fun a' w' => ((l.setIfInBounds i true).getD k true = false → F w') ∧ AnyF P md ops Q F k n (l.setIfInBounds i true) a' w') a w

theorem AnyF.any : ∀ (n : Nat) (l : Array Bool) (a : Act) (w : World), AnyF P md ops Q F k n l a w → wpAny P md ops Q n l a w
  | 0, _, _, _, h => h
  | n + 1, _, _, _, h => ⟨h.1, fun i hi => wpOp_mono (fun a' w' q => AnyF.any n _ a' w' q.2) (h.2 i hi)⟩

theorem unset {l : Array Bool} {i k : Nat} (h : (l.setIfInBounds i true).getD k true = false) : l.getD k true = false := by
  by_cases e : i = k
  · subst e
    rcases Nat.lt_or_ge i l.size with h1 | h1
    · simp [h1] at h
    · simp at h
  · rwa [getD_set_ne true e] at h

/-- One that yields the same in every world of a class may be taken first; where the class is not all worlds, k waits for it. -/
theorem AnyF.first {i : Nat} {oi : Oper} {v : Value} {C : World → Prop} (hi : ops[i]? = some oi) (hsel : Region.noSelect ops = true) (hik : i ≠ k)
    (hQ : ∀ c a w, Q (.panic c) (a.put oi.dst v) w → Q (.panic c) a w) :
    ∀ (n : Nat) (l : Array Bool) (a : Act) (w : World),
      ((∀ w, C w) ∨ ((∀ w, F w → C w) ∧ waitsOn md ops k i = true ∧ l.getD k true = false)) →
      (∀ j oj, ops[j]? = some oj → j ≠ i → l.getD j true = false → (∀ e ∈ oj.after, Region.binds md e = true → e.on ≠ i) → oi.apart ops oj = true) →
      i ∈ Region.ready md ops l → YieldsIf P ops C oi v a → C w → (l.getD k true = false → F w) → AnyF P md ops Q F k n (l.setIfInBounds i true) (a.put oi.dst v) w → AnyF P md ops Q F k (n + 1) l a w := by
  intro n
  have take : ∀ {K : Act → World → Prop} {a : Act} {w : World}, YieldsIf P ops C oi v a → C w → K (a.put oi.dst v) w → wpOp P ops Q i K a w := fun hy hF h => hy.wpOp hi hF h
  induction n with
  | zero =>
    intro l a w _ _ hr hy hC hF H
    constructor
    · intro h0; rw [h0] at hr; cases hr
    · intro j hj
      by_cases e : j = i
      · subst e; exact take hy hC ⟨fun h => hF (unset h), H⟩
      · have h1 := ready_mono hj e
        rw [H.1] at h1; cases h1
  | succ n ih =>
    intro l a w hw hfree hr hy hC hF H
    constructor
    · intro h0; rw [h0] at hr; cases hr
    · intro j hj
      by_cases e : j = i
      · subst e; exact take hy hC ⟨fun h => hF (unset h), H⟩
      · have hil : l.getD i true = false := (mem_ready.1 hr).1
        obtain ⟨hjl, oj, hoj, hall⟩ := mem_ready.1 hj
        have hno : ∀ x ∈ oj.after, Region.binds md x = true → x.on ≠ i := by
          intro x hx hb e3
          have h4 := hall x hx hb
          rw [e3] at h4
          rcases Nat.lt_or_ge i l.size with h | h
          · simp [h] at h4 hil; rw [hil] at h4; cases h4
          · simp [Array.getElem?_eq_none h] at h4
        have h2 := wpOp_putIf hoj (hfree j oj hoj e hjl hno) (fun cs b => Region.noSelect_spec hsel i oi cs b hi) (fun cs b => Region.noSelect_spec hsel j oj cs b hoj) hQ hy (H.2 j (ready_mono hj e))
        refine wpOp_mono (fun a' w' q => ?_) h2
        have hFj : (l.setIfInBounds j true).getD k true = false → F w' := fun h => q.2.1 (by
          rw [Array.setIfInBounds_comm _ _ (Ne.symm e), getD_set_ne true hik]
          exact h)
        have hw' : (∀ w, C w) ∨ ((∀ w, F w → C w) ∧ waitsOn md ops k i = true ∧ (l.setIfInBounds j true).getD k true = false) := by
          rcases hw with hw | ⟨h1, h2, h3⟩
          · exact .inl hw
          · refine .inr ⟨h1, h2, ?_⟩
            have hjk : j ≠ k := fun e2 => not_ready h2 hil (e2 ▸ hj)
            rw [getD_set_ne true hjk]
            exact h3
        have hC' : C w' := by
          rcases hw' with hw | ⟨h1, _, h3⟩
          · exact hw w'
          · exact h1 w' (hFj h3)
        refine ⟨hFj, ih _ a' w' hw' ?_ (ready_mono hr (Ne.symm e)) q.1 hC' hFj ?_⟩
        · intro m om hm hmi hml hmn
          refine hfree m om hm hmi ?_ hmn
          by_cases e5 : j = m
          · subst e5; exact hjl
          · rwa [getD_set_ne true e5] at hml
        · have := q.2.2
          rwa [Array.setIfInBounds_comm _ _ (Ne.symm e)] at this

/-- The next one only reads, and k waits for it: take it first. -/
theorem F_take {L : List Oper} (i : Nat) (l' : Array Bool) {oi : Oper} {v : Value} {n : Nat} {l : Array Bool} {a : Act} {w : World} (hi : nthOp L i = some oi)
    (hc : (Region.noSelect L.toArray && decide (i ≠ k) && waitsOn md L.toArray k i && decide (l.getD k true = false) && Region.free md L.toArray l i && (Region.ready md L.toArray l).contains i && decide (l.setIfInBounds i true = l')) = true)
    (hQ : ∀ c a w, Q (.panic c) (a.put oi.dst v) w → Q (.panic c) a w) (hwt : Region.wanted oi (yielded L.toArray a.tmps) = true) (hy : ∀ w, F w → (execOp a.eval oi).run P w = .ok (.value v) w) (hF : F w)
    (h : AnyF P md L.toArray Q F k n l' (a.put oi.dst v) w) : AnyF P md L.toArray Q F k (n + 1) l a w := by
  simp only [Bool.and_eq_true, decide_eq_true_eq] at hc
  obtain ⟨⟨⟨⟨⟨⟨c1, c2⟩, c3⟩, c7⟩, c4⟩, c5⟩, c6⟩ := hc
  subst c6
  exact AnyF.first (C := F) (nthOp_get L i hi) c1 c2 hQ n l a w (.inr ⟨fun _ h => h, c3, c7⟩) (Region.free_spec (nthOp_get L i hi) c4) (by simpa using c5) (.inl ⟨hwt, hy⟩) hF (fun _ => hF) h

/-- The next one reads nothing of the world: take it first. -/
theorem F_free {L : List Oper} (i : Nat) (l' : Array Bool) {oi : Oper} {v : Value} {n : Nat} {l : Array Bool} {a : Act} {w : World} (hi : nthOp L i = some oi)
    (hc : (Region.noSelect L.toArray && decide (i ≠ k) && Region.free md L.toArray l i && (Region.ready md L.toArray l).contains i && decide (l.setIfInBounds i true = l')) = true)
    (hQ : ∀ c a w, Q (.panic c) (a.put oi.dst v) w → Q (.panic c) a w) (hwt : Region.wanted oi (yielded L.toArray a.tmps) = true) (hy : ∀ w, (execOp a.eval oi).run P w = .ok (.value v) w) (hF : F w)
    (h : AnyF P md L.toArray Q F k n l' (a.put oi.dst v) w) : AnyF P md L.toArray Q F k (n + 1) l a w := by
  simp only [Bool.and_eq_true, decide_eq_true_eq] at hc
  obtain ⟨⟨⟨⟨c1, c2⟩, c4⟩, c5⟩, c6⟩ := hc
  subst c6
  exact AnyF.first (C := fun _ => True) (nthOp_get L i hi) c1 c2 hQ n l a w (.inl fun _ => trivial) (Region.free_spec (nthOp_get L i hi) c4) (by simpa using c5) (.inl ⟨hwt, fun w _ => hy w⟩) trivial (fun _ => hF) h

/-- One alone may come up. -/
theorem F_one {L : List Oper} (i : Nat) (l' : Array Bool) {oi : Oper} {n : Nat} {l : Array Bool} {a : Act} {w : World} (hi : nthOp L i = some oi)
    (hr : (decide (Region.ready md L.toArray l = [i]) && decide (l.setIfInBounds i true = l')) = true)
    (h : wpList P L.toArray (Exit.then (fun a' w' => (l'.getD k true = false → F w') ∧ AnyF P md L.toArray Q F k n l' a' w') Q) [oi] a w) : AnyF P md L.toArray Q F k (n + 1) l a w := by
  simp only [Bool.and_eq_true, decide_eq_true_eq] at hr
  obtain ⟨hr, e⟩ := hr
  subst e
  refine ⟨fun h0 => by (rw [hr] at h0; cases h0), ?_⟩
  intro j hj
  rw [hr] at hj
  obtain rfl : j = i := by simpa using hj
  unfold wpOp
  simp only [nthOp_get L j hi]
  unfold wpList at h
  split at h
  · rename_i hw
    rw [if_pos hw]
    rcases h with h | ⟨h1, h2⟩
    · exact .inl (wp_then h)
    · exact .inr ⟨h1, h2⟩
  · rename_i hw
    rw [if_neg hw]
    exact h

theorem F_done {n : Nat} {l : Array Bool} {a : Act} {w : World} (hr : Region.ready md ops l = []) (h : Q .normal a w) : AnyF P md ops (NoPanic Q) F k n l a w := by
  cases n with
  | zero => exact ⟨hr, h⟩
  | succ n => exact ⟨fun _ => h, fun i hi => by (rw [hr] at hi; cases hi)⟩

theorem F_begin {id : Nat} {a : Act} {w : World} (F : World → Prop) (k n : Nat) (l : Array Bool) (hn : ops.size = n) (hl : Array.replicate n false = l) (hm : P.follows .mixedOrders = true)
    (h : AnyF P .any ops (NoPanic Q) F k n l a w.drew) : (Code.region id ops true).wp P Q a w := by
  subst hn; subst hl
  exact wp_region_noPanic (wp_region_any hm (AnyF.any _ _ _ _ h))
end
section
variable {P : Program} {w : World} {ops : Array Oper} {rest : List Oper} {a : Act} {Q : Exit → Act → World → Prop} {dst : Option Tmp} {ty : TypeId} {pos : String} {aft : Array Edge} {gd : Option (Nat × Bool)}
theorem e_mul {T yt : TypeId} (x y : Operand) (m n r : Int) (hx : a.eval x = .int .i64 m) (hy : a.eval y = .int .i64 n) (hr : m * n = r) (h : -9223372036854775808 ≤ r ∧ r ≤ 9223372036854775807) :
    (execOp a.eval ⟨dst, .binOp .mul T x y yt, ty, pos, aft, gd⟩).run P w = .ok (.value (.int .i64 r)) w := by
  unfold execOp
  simp only [hx, hy, eqGuard_mul, Sem.run_bind, Sem.run_pure, Result.andThen_ok, run_mul T m n r hr h]
theorem e_add {T yt : TypeId} (x y : Operand) (m n r : Int) (hx : a.eval x = .int .i64 m) (hy : a.eval y = .int .i64 n) (hr : m + n = r) (h : -9223372036854775808 ≤ r ∧ r ≤ 9223372036854775807) :
    (execOp a.eval ⟨dst, .binOp .add T x y yt, ty, pos, aft, gd⟩).run P w = .ok (.value (.int .i64 r)) w := by
  unfold execOp
  simp only [hx, hy, eqGuard_add, Sem.run_bind, Sem.run_pure, Result.andThen_ok, run_add T m n r hr h]
/-- Any operation whose run is known. -/
theorem r_val {o : Oper} (v : Value) (hr : (execOp a.eval o).run P w = .ok (.value v) w) (hgd : Region.wanted o (yielded ops a.tmps) = true) (h : wpList P ops Q rest (a.put o.dst v) w) : wpList P ops Q (o :: rest) a w :=
  wpList_want hgd fun _ hK => by
    unfold Oper.wp
    simp only [hr, Oper.upon]
    exact hK _ _ h
/-- A region all of whose operations leave alone what they read: one walk in the order of the text, in the class of worlds that have grown. -/
theorem q_whole {id : Nat} {Q : Exit → Act → World → Prop} {w : World} {l : List Oper} (hm : P.follows .mixedOrders = true) (hB : Region.lexB .any l.toArray = true)
    (h : wpQuiet P l.toArray (fun w' => Gr w w') (fun a' => ∀ w', Gr w w' → Q .normal a' w') l a) : (Code.region id l.toArray true).wp P Q a w :=
  wp_region_quiet (C := fun w' => Gr w w') hm hB (Gr.refl w).drew h
end
end Go.Proofs.Ytmjmjibokombiaa
