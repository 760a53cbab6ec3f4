/-
  A call of a closure, and a box of one cell.
-/
import Derived.Test.YtmjmjibokombiaaBKit
namespace Go.Proofs.Ytmjmjibokombiaa
open Go.RowKit
section
variable {P : Program} {w : World} {ops : Array Oper} {rest : List Oper} {a : Act} {Q : Exit → Act → World → Prop} {dst : Option Tmp} {ty : TypeId} {pos : String} {aft : Array Edge} {gd : Option (Nat × Bool)}
/-- A call of a closure under a contract. -/
theorem r_callc (f : FuncId) (x : Operand) (xs : List Operand) (ts : Array TypeId) (vs lb : List Value) (v : Value) (Post : World → Prop) (hcf : ∀ args w, (callFunc f args).run P w = .ok (.enter f args) w) (hx : a.eval x = .func (.func f) #[] lb.toArray) (hvs : xs.map a.eval = vs)
    (hgd : Region.wanted ⟨dst, .call { callee := .value x, args := xs.toArray, argTypes := ts }, ty, pos, aft, gd⟩ (yielded ops a.tmps) = true)
    (hc : Calls P f (vs ++ lb).toArray w fun e w' => e = .returned v ∧ Post w')
    (h : ∀ w', Post w' → wpList P ops Q rest (a.put dst v) w') : wpList P ops Q (⟨dst, .call { callee := .value x, args := xs.toArray, argTypes := ts }, ty, pos, aft, gd⟩ :: rest) a w :=
  wpList_want hgd fun _ hK => by
    have e : (execOp a.eval ⟨dst, .call { callee := .value x, args := xs.toArray, argTypes := ts }, ty, pos, aft, gd⟩).run P w = .ok (.enter f (vs ++ lb).toArray) w := by
      unfold execOp resolve
      simp only [List.map_toArray, hvs, hx, Deferred.ofValue, Sem.run_bind, Sem.run_pure, Result.andThen_ok, invoke, List.append_toArray]
      exact hcf _ _
    unfold Oper.wp
    rw [e]
    exact hc.mono fun e w'' ⟨he, hp⟩ => by
      subst he
      exact hK _ _ (h _ hp)
/-- A box of one cell. -/
theorem r_box1 (T : TypeId) (x : Operand) (u : Value) (hx : a.eval x = u) (hb : ∀ w, (Instr.box T u).run P w = .ok (.pointer (some ⟨w.heap.size, 0, none⟩)) (w.alloc (.cells #[u] T)))
    (hgd : Region.wanted ⟨dst, .box T x, ty, pos, aft, gd⟩ (yielded ops a.tmps) = true) (h : ∀ w1 B, New w w1 B #[u] T → wpList P ops Q rest (a.put dst (.pointer (some ⟨B, 0, none⟩))) w1) : wpList P ops Q (⟨dst, .box T x, ty, pos, aft, gd⟩ :: rest) a w :=
  wpList_want hgd fun _ hK => by
    unfold Oper.wp execOp
    simp only [hx, Sem.run_bind, hb w, Result.andThen_ok, Sem.run_pure, Oper.upon]
    exact hK _ _ (h _ _ (New.mk' w _ T))
theorem e_binC {T yt : TypeId} (op : BinOp) (x y : Operand) (u v : Value) {r : Value} (hx : a.eval x = u) (hy : a.eval y = v) (hg : ∀ w, (eqGuard op T x y u v).run P w = .ok () w) (hr : (binOp op T u v).run P w = .ok r w) :
    (execOp a.eval ⟨dst, .binOp op T x y yt, ty, pos, aft, gd⟩).run P w = .ok (.value r) w := by
  unfold execOp
  simp only [hx, hy, Sem.run_bind, hg w, hr, Result.andThen_ok, Sem.run_pure]
theorem r_binC {T yt : TypeId} (op : BinOp) (x y : Operand) (u v r : Value) (hx : a.eval x = u) (hy : a.eval y = v) (hg : ∀ w, (eqGuard op T x y u v).run P w = .ok () w) (hr : (binOp op T u v).run P w = .ok r w)
    (hgd : Region.wanted ⟨dst, .binOp op T x y yt, ty, pos, aft, gd⟩ (yielded ops a.tmps) = true) (h : wpList P ops Q rest (a.put dst r) w) : wpList P ops Q (⟨dst, .binOp op T x y yt, ty, pos, aft, gd⟩ :: rest) a w :=
  r_val r (e_binC op x y u v hx hy hg hr) hgd h
end
section
variable {P : Program} {md : Region.Mode} {Q : Exit → Act → World → Prop} {F : World → Prop} {k : Nat}
/-- One that is not wanted may be passed over first. -/
theorem K_skip {L : List Oper} (i : Nat) (l' : Array Bool) {oi : Oper} {n : Nat} {l : Array Bool} {a : Act} {w : World} (hi : nthOp L i = some oi)
    (hc : (Region.noSelect L.toArray && decide (i ≠ k) && waitsOn md L.toArray k i && Region.free md L.toArray l i && (Region.ready md L.toArray l).contains i && decide (l.setIfInBounds i true = l')) = true)
    (hQ : ∀ c a w, Q (.panic c) (a.put oi.dst undef) w → Q (.panic c) a w) (hwt : Region.wanted oi (yielded L.toArray a.tmps) = false) (hF : F w)
    (h : AnyK P md L.toArray Q F k n l' (a.put oi.dst undef) w) : AnyK P md L.toArray Q F k (n + 1) l a w := by
  simp only [Bool.and_eq_true, decide_eq_true_eq] at hc
  obtain ⟨⟨⟨⟨⟨c1, c2⟩, c3⟩, c4⟩, c5⟩, c6⟩ := hc
  subst c6
  exact AnyK.first (nthOp_get L i hi) c1 c2 c3 hQ n l a w (Region.free_spec (nthOp_get L i hi) c4) (by simpa using c5) (.inr ⟨hwt, rfl⟩) hF h
end
theorem box_cell {w : World} {B : Nat} {u : Value} {T : TypeId} (h : Blk w B #[u] T) : w.cell? ⟨B, 0, none⟩ = some u := h.cell 0
theorem blk_ne {w : World} {B B' : Nat} {cs cs' : Array Value} {T T' : TypeId} (h : Blk w B cs T) (h' : Blk w B' cs' T') (hT : T ≠ T') : B ≠ B' := fun e => by
  subst e
  unfold Blk at h h'
  rw [h] at h'
  cases h'
  exact hT rfl
end Go.Proofs.Ytmjmjibokombiaa
