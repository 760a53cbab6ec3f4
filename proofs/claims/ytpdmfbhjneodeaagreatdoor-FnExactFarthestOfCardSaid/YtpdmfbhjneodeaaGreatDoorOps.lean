/-
  Rules of my own for single operations, each with the operation written out: an element's and a field's address, a cell read, numbers compared and added, a map made, looked up and written.
-/
import Derived.Test.YtpdmfbhjneodeaaGreatDoorFlat
import Derived.Test.YtpdmfbhjneodeaaGreatDoorBMv
import Derived.Carry
namespace Go.Proofs.YtpdmfbhjneodeaaGreatDoor
open Go.RowKit
section
variable {P : Program} {w : World} {ops : Array Oper} {rest : List Oper} {a : Act} {Q : Exit → Act → World → Prop} {dst : Option Tmp} {ty : TypeId} {pos : String} {aft : Array Edge} {gd : Option (Nat × Bool)}
theorem r_idx (T : TypeId) (x y : Operand) (v i u : Value) (hx : a.eval x = v) (hy : a.eval y = i) (hr : (Instr.indexAt T v i).run P w = .ok u w)
    (hgd : Region.wanted ⟨dst, .indexAddr T x y, ty, pos, aft, gd⟩ (yielded ops a.tmps) = true) (h : wpList P ops Q rest (a.put dst u) w) : wpList P ops Q (⟨dst, .indexAddr T x y, ty, pos, aft, gd⟩ :: rest) a w :=
  wpList_want hgd fun _ hK => by
    unfold Oper.wp execOp
    simp only [hx, hy, Sem.run_bind, hr, Result.andThen_ok, Sem.run_pure, Oper.upon]
    exact hK _ _ h
theorem r_fld (T : TypeId) (x : Operand) (k : Nat) (v u : Value) (hx : a.eval x = v) (hr : (Instr.fieldAt T v k).run P w = .ok u w)
    (hgd : Region.wanted ⟨dst, .fieldAddr T x k, ty, pos, aft, gd⟩ (yielded ops a.tmps) = true) (h : wpList P ops Q rest (a.put dst u) w) : wpList P ops Q (⟨dst, .fieldAddr T x k, ty, pos, aft, gd⟩ :: rest) a w :=
  wpList_want hgd fun _ hK => by
    unfold Oper.wp execOp
    simp only [hx, Sem.run_bind, hr, Result.andThen_ok, Sem.run_pure, Oper.upon]
    exact hK _ _ h
theorem r_ldc (T : TypeId) (x : Operand) (A : Addr) (v : Value) (hx : a.eval x = .pointer (some A)) (hg : (isAgg T).run P w = .ok false w) (hc : w.cell? A = some v)
    (hgd : Region.wanted ⟨dst, .load T x, ty, pos, aft, gd⟩ (yielded ops a.tmps) = true) (h : wpList P ops Q rest (a.put dst v) w) : wpList P ops Q (⟨dst, .load T x, ty, pos, aft, gd⟩ :: rest) a w :=
  r_val v (e_load T x A v hx hg hc) hgd h
theorem e_eqI {T yt : TypeId} (x y : Operand) (m n : Int) (b : Bool) (hx : a.eval x = .int .i64 m) (hy : a.eval y = .int .i64 n) (hb : decide (m = n) = b) :
    (execOp a.eval ⟨dst, .binOp .eql T x y yt, ty, pos, aft, gd⟩).run P w = .ok (.value (.bool b)) w := by
  subst hb
  unfold execOp
  simp [hx, hy, eqGuard, binOp, Op.intCmp]
  rw [Bool.eq_iff_iff, beq_iff_eq, decide_eq_true_eq]
theorem r_eqI {T yt : TypeId} (x y : Operand) (m n : Int) (b : Bool) (hx : a.eval x = .int .i64 m) (hy : a.eval y = .int .i64 n) (hb : decide (m = n) = b)
    (hgd : Region.wanted ⟨dst, .binOp .eql T x y yt, ty, pos, aft, gd⟩ (yielded ops a.tmps) = true) (h : wpList P ops Q rest (a.put dst (.bool b)) w) : wpList P ops Q (⟨dst, .binOp .eql T x y yt, ty, pos, aft, gd⟩ :: rest) a w :=
  r_val (.bool b) (e_eqI x y m n b hx hy hb) hgd h
theorem e_addw {T yt : TypeId} (x y : Operand) (m n : Int) (hx : a.eval x = .int .i64 m) (hy : a.eval y = .int .i64 n) :
    (execOp a.eval ⟨dst, .binOp .add T x y yt, ty, pos, aft, gd⟩).run P w = .ok (.value (.int .i64 (wrap64 (m + n)))) w := by
  unfold execOp
  simp [hx, hy, eqGuard, binOp, Op.intArith]
  rw [IntKind.wrap_i64]
  unfold wrap64
  rfl
theorem r_addI {T yt : TypeId} (x y : Operand) (m n r : Int) (hx : a.eval x = .int .i64 m) (hy : a.eval y = .int .i64 n) (hr : m + n = r) (hb : -9223372036854775808 ≤ r ∧ r ≤ 9223372036854775807)
    (hgd : Region.wanted ⟨dst, .binOp .add T x y yt, ty, pos, aft, gd⟩ (yielded ops a.tmps) = true) (h : wpList P ops Q rest (a.put dst (.int .i64 r)) w) : wpList P ops Q (⟨dst, .binOp .add T x y yt, ty, pos, aft, gd⟩ :: rest) a w :=
  r_val (.int .i64 r) (e_add x y m n r hx hy hr hb) hgd h
theorem r_mkmap (T : TypeId)
    (hgd : Region.wanted ⟨dst, .makeMap T none, ty, pos, aft, gd⟩ (yielded ops a.tmps) = true) (h : ∀ w1 B, w1 = w.alloc (.map #[] 0) → B = w.heap.size → wpList P ops Q rest (a.put dst (.map (some B))) w1) : wpList P ops Q (⟨dst, .makeMap T none, ty, pos, aft, gd⟩ :: rest) a w :=
  wpList_want hgd fun _ hK => by
    unfold Oper.wp execOp
    simp only [Option.map_none, Sem.run_bind, run_makeMap T w, Result.andThen_ok, Sem.run_pure, Oper.upon]
    exact hK _ _ (h _ _ rfl rfl)
theorem r_mapup (T : TypeId) (m x v : Operand) (mv key val : Value) (Φ : World → Prop) (hm : a.eval m = mv) (hx : a.eval x = key) (hv : a.eval v = val) (hr : ∃ w', (Instr.mapUpdate T mv key val).run P w = .ok () w' ∧ Φ w')
    (hgd : Region.wanted ⟨dst, .mapUpdate T m x v, ty, pos, aft, gd⟩ (yielded ops a.tmps) = true) (h : ∀ w', Φ w' → wpList P ops Q rest (a.put dst undef) w') : wpList P ops Q (⟨dst, .mapUpdate T m x v, ty, pos, aft, gd⟩ :: rest) a w :=
  wpList_want hgd fun _ hK => by
    obtain ⟨w', hr, hp⟩ := hr
    unfold Oper.wp execOp
    simp only [hm, hx, hv, Sem.run_bind, hr, Result.andThen_ok, Sem.run_pure, Oper.upon]
    exact hK _ _ (h _ hp)
theorem r_mapins (T : TypeId) (m x v : Operand) (mv key val : Value) (Φ : World → Prop) (hm : a.eval m = mv) (hx : a.eval x = key) (hv : a.eval v = val) (hr : ∃ w', (Instr.mapUpdate T mv key val).run P w = .ok () w' ∧ Φ w')
    (hgd : Region.wanted ⟨dst, .insert T m x v, ty, pos, aft, gd⟩ (yielded ops a.tmps) = true) (h : ∀ w', Φ w' → wpList P ops Q rest (a.put dst undef) w') : wpList P ops Q (⟨dst, .insert T m x v, ty, pos, aft, gd⟩ :: rest) a w :=
  wpList_want hgd fun _ hK => by
    obtain ⟨w', hr, hp⟩ := hr
    unfold Oper.wp execOp
    simp only [hm, hx, hv, Sem.run_bind, hr, Result.andThen_ok, Sem.run_pure, Oper.upon]
    exact hK _ _ (h _ hp)
theorem r_look (T : TypeId) (m x : Operand) (c : Bool) (mv key u : Value) (hm : a.eval m = mv) (hx : a.eval x = key) (hr : (Instr.lookup T mv key c).run P w = .ok u w)
    (hgd : Region.wanted ⟨dst, .lookup T m x c, ty, pos, aft, gd⟩ (yielded ops a.tmps) = true) (h : wpList P ops Q rest (a.put dst u) w) : wpList P ops Q (⟨dst, .lookup T m x c, ty, pos, aft, gd⟩ :: rest) a w :=
  wpList_want hgd fun _ hK => by
    unfold Oper.wp execOp
    simp only [hm, hx, Sem.run_bind, hr, Result.andThen_ok, Sem.run_pure, Oper.upon]
    exact hK _ _ h
theorem r_nil (x : Operand) (p : Addr) (hx : a.eval x = .pointer (some p)) (hgd : Region.wanted ⟨dst, .nilCheck x, ty, pos, aft, gd⟩ (yielded ops a.tmps) = true) (h : wpList P ops Q rest (a.put dst (.pointer (some p))) w) : wpList P ops Q (⟨dst, .nilCheck x, ty, pos, aft, gd⟩ :: rest) a w :=
  r_val (.pointer (some p)) (by unfold execOp; simp only [hx]; rfl) hgd h
theorem r_ldm (T : TypeId) (x : Operand) (b o : Nat) (cs : Array Value) (d : TypeDesc) (hx : a.eval x = .pointer (some ⟨b, o, none⟩)) (hc : w.rangeAt b o cs.toList)
    (hu : P.underlying T = some d) (hd : d.isRow = true) (hi : (P.info? T).map (·.size) = some cs.size)
    (hgd : Region.wanted ⟨dst, .load T x, ty, pos, aft, gd⟩ (yielded ops a.tmps) = true) (h : wpList P ops Q rest (a.put dst (.agg cs)) w) : wpList P ops Q (⟨dst, .load T x, ty, pos, aft, gd⟩ :: rest) a w :=
  r_load_mid T x b o cs.toList d hx hc hu hd (by rw [hi, Array.length_toList]) hgd (by rw [Array.toArray_toList]; exact h)
end
/-- New cells are a row of our own. -/
theorem own_made {w w1 : World} {B m base : Nat} {e : TypeId} {l : List Value} (h : New w w1 B l.toArray e) (hb : base ≤ w.heap.size) (hl : l.length = 1 * m) : w1.ownsRow base e m (.slice (some ⟨B, 0, none⟩) 1 1) 1 l :=
  ⟨hl, .inr ⟨B, 1, l.toArray, rfl, Nat.le_trans hb h.lo, h.blk, Nat.le_refl _, by unfold maxLen; omega, by simpa using hl, by rw [List.take_of_length_le (by simp; omega)]⟩⟩
/-- A row of cells lies apart from a map. -/
theorem own_ne_obj {w : World} {base : Nat} {e : TypeId} {size : Nat} {v : Value} {n : Nat} {xs : List Value} (hr : w.ownsRow base e size v n xs) {B : Nat} {es : Array MapEntry} {c : Nat} (hB : w.heap[B]? = some (.map es c)) : v.ownBlock ≠ some B := by
  obtain ⟨_, ⟨rfl, _⟩ | ⟨g, cap, cur, rfl, _, hg, _⟩⟩ := hr
  · intro h; cases h
  · intro h
    obtain rfl : g = B := by simpa [Value.ownBlock] using h
    rw [hB] at hg
    cases hg
/-- A row of one element type is no block of another, frozen or not. -/
theorem own_neF {w : World} {base : Nat} {e : TypeId} {size : Nat} {v : Value} {n : Nat} {xs : List Value} (hr : w.ownsRow base e size v n xs) {B : Nat} {cs : Array Value} {T : TypeId} {fr : Nat × Nat} (hB : w.heap[B]? = some (.cells cs T fr)) (hT : T ≠ e) : v.ownBlock ≠ some B := by
  obtain ⟨_, ⟨rfl, _⟩ | ⟨g, cap, cur, rfl, _, hg, _⟩⟩ := hr
  · intro h; cases h
  · intro h
    obtain rfl : g = B := by simpa [Value.ownBlock] using h
    rw [hB] at hg
    cases hg
    exact hT rfl
theorem add_flat' (B j : Nat) : (⟨B, 0, none⟩ : Addr).add j = ⟨B, j, none⟩ := by
  simp [Addr.add]
  exact fun h => h.symm
theorem New.cellN {w w1 : World} {B : Nat} {l : List Value} {e : TypeId} (h : New w w1 B l.toArray e) : ∀ (j : Nat) v, l[j]? = some v → w1.cell? ((⟨B, 0, none⟩ : Addr).add j) = some v := by
  intro j v hj
  rw [add_flat', Blk.cell h.blk j]
  simpa using hj
end Go.Proofs.YtpdmfbhjneodeaaGreatDoor
