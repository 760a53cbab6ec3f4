/-
  Rules of my own for a statement whose order of evaluation is left open and that writes more than once: what only reads may be taken first if all operations from the first write on wait for it; what reads nothing may always be taken first.
-/
import Derived.Test.YthjkeohnjggmiaaDoorQTail
namespace Go.Proofs.YthjkeohnjggmiaaDoor
open Go.RowKit
section
variable {P : Program} {md : Region.Mode} {ops : Array Oper} {Q : Exit → Act → World → Prop} {F : World → Prop} {k : Nat}

/-- Any order, and as long as number k has not come up the fact F holds. -/
def AnyF (P : Program) (md : Region.Mode) (ops : Array Oper) (Q : Exit → Act → World → Prop) (F : World → Prop) (k : Nat) : Nat → Array Bool → Act → World → Prop
  | 0, l, a, w => Region.ready md ops l = [] ∧ Q .normal a w
  | n + 1, l, a, w => (Region.ready md ops l = [] → Q .normal a w) ∧
      ∀ i ∈ Region.ready md ops l, wpOp P ops Q i (fun a' w' => ((l.setIfInBounds i true).getD k true = false → F w') ∧ AnyF P md ops Q F k n (l.setIfInBounds i true) a' w') a w

theorem AnyF.any : ∀ (n : Nat) (l : Array Bool) (a : Act) (w : World), AnyF P md ops Q F k n l a w → wpAny P md ops Q n l a w
  | 0, _, _, _, h => h
  | n + 1, _, _, _, h => ⟨h.1, fun i hi => wpOp_mono (fun a' w' q => AnyF.any n _ a' w' q.2) (h.2 i hi)⟩

theorem unset {l : Array Bool} {i k : Nat} (h : (l.setIfInBounds i true).getD k true = false) : l.getD k true = false := by
  by_cases e : i = k
  · subst e
    rcases Nat.lt_or_ge i l.size with h1 | h1
    · simp [h1] at h
    · simp at h
  · rwa [getD_set_ne true e] at h

/-- One that yields the same in every world of a class may be taken first; where the class is not all worlds, k waits for it. -/
theorem AnyF.first {i : Nat} {oi : Oper} {v : Value} {C : World → Prop} (hi : ops[i]? = some oi) (hsel : Region.noSelect ops = true) (hik : i ≠ k)
    (hQ : ∀ c a w, Q (.panic c) (a.put oi.dst v) w → Q (.panic c) a w) :
    ∀ (n : Nat) (l : Array Bool) (a : Act) (w : World),
      ((∀ w, C w) ∨ ((∀ w, F w → C w) ∧ waitsOn md ops k i = true ∧ l.getD k true = false)) →
      (∀ j oj, ops[j]? = some oj → j ≠ i → l.getD j true = false → (∀ e ∈ oj.after, Region.binds md e = true → e.on ≠ i) → oi.apart ops oj = true) →
      i ∈ Region.ready md ops l → YieldsIf P ops C oi v a → C w → (l.getD k true = false → F w) → AnyF P md ops Q F k n (l.setIfInBounds i true) (a.put oi.dst v) w → AnyF P md ops Q F k (n + 1) l a w := by
  intro n
  have take : ∀ {K : Act → World → Prop} {a : Act} {w : World}, YieldsIf P ops C oi v a → C w → K (a.put oi.dst v) w → wpOp P ops Q i K a w := fun hy hF h => hy.wpOp hi hF h
  induction n with
  | zero =>
    intro l a w _ _ hr hy hC hF H
    constructor
    · intro h0; rw [h0] at hr; cases hr
    · intro j hj
      by_cases e : j = i
      · subst e; exact take hy hC ⟨fun h => hF (unset h), H⟩
      · have h1 := ready_mono hj e
        rw [H.1] at h1; cases h1
  | succ n ih =>
    intro l a w hw hfree hr hy hC hF H
    constructor
    · intro h0; rw [h0] at hr; cases hr
    · intro j hj
      by_cases e : j = i
      · subst e; exact take hy hC ⟨fun h => hF (unset h), H⟩
      · have hil : l.getD i true = false := (mem_ready.1 hr).1
        obtain ⟨hjl, oj, hoj, hall⟩ := mem_ready.1 hj
        have hno : ∀ x ∈ oj.after, Region.binds md x = true → x.on ≠ i := by
          intro x hx hb e3
          have h4 := hall x hx hb
          rw [e3] at h4
          rcases Nat.lt_or_ge i l.size with h | h
          · simp [h] at h4 hil; rw [hil] at h4; cases h4
          · simp [Array.getElem?_eq_none h] at h4
        have h2 := wpOp_putIf hoj (hfree j oj hoj e hjl hno) (fun cs b => Region.noSelect_spec hsel i oi cs b hi) (fun cs b => Region.noSelect_spec hsel j oj cs b hoj) hQ hy (H.2 j (ready_mono hj e))
        refine wpOp_mono (fun a' w' q => ?_) h2
        have hFj : (l.setIfInBounds j true).getD k true = false → F w' := fun h => q.2.1 (by
          rw [Array.setIfInBounds_comm _ _ (Ne.symm e), getD_set_ne true hik]
          exact h)
        have hw' : (∀ w, C w) ∨ ((∀ w, F w → C w) ∧ waitsOn md ops k i = true ∧ (l.setIfInBounds j true).getD k true = false) := by
          rcases hw with hw | ⟨h1, h2, h3⟩
          · exact .inl hw
          · refine .inr ⟨h1, h2, ?_⟩
            have hjk : j ≠ k := fun e2 => not_ready h2 hil (e2 ▸ hj)
            rw [getD_set_ne true hjk]
            exact h3
        have hC' : C w' := by
          rcases hw' with hw | ⟨h1, _, h3⟩
          · exact hw w'
          · exact h1 w' (hFj h3)
        refine ⟨hFj, ih _ a' w' hw' ?_ (ready_mono hr (Ne.symm e)) q.1 hC' hFj ?_⟩
        · intro m om hm hmi hml hmn
          refine hfree m om hm hmi ?_ hmn
          by_cases e5 : j = m
          · subst e5; exact hjl
          · rwa [getD_set_ne true e5] at hml
        · have := q.2.2
          rwa [Array.setIfInBounds_comm _ _ (Ne.symm e)] at this

/-- The next one only reads, and k waits for it: take it first. -/
theorem F_take {L : List Oper} (i : Nat) (l' : Array Bool) {oi : Oper} {v : Value} {n : Nat} {l : Array Bool} {a : Act} {w : World} (hi : nthOp L i = some oi)
    (hc : (Region.noSelect L.toArray && decide (i ≠ k) && waitsOn md L.toArray k i && decide (l.getD k true = false) && Region.free md L.toArray l i && (Region.ready md L.toArray l).contains i && decide (l.setIfInBounds i true = l')) = true)
    (hQ : ∀ c a w, Q (.panic c) (a.put oi.dst v) w → Q (.panic c) a w) (hwt : Region.wanted oi (yielded L.toArray a.tmps) = true) (hy : ∀ w, F w → (execOp a.eval oi).run P w = .ok (.value v) w) (hF : F w)
    (h : AnyF P md L.toArray Q F k n l' (a.put oi.dst v) w) : AnyF P md L.toArray Q F k (n + 1) l a w := by
  simp only [Bool.and_eq_true, decide_eq_true_eq] at hc
  obtain ⟨⟨⟨⟨⟨⟨c1, c2⟩, c3⟩, c7⟩, c4⟩, c5⟩, c6⟩ := hc
  subst c6
  exact AnyF.first (C := F) (nthOp_get L i hi) c1 c2 hQ n l a w (.inr ⟨fun _ h => h, c3, c7⟩) (Region.free_spec (nthOp_get L i hi) c4) (by simpa using c5) (.inl ⟨hwt, hy⟩) hF (fun _ => hF) h

/-- The next one reads nothing of the world: take it first. -/
theorem F_free {L : List Oper} (i : Nat) (l' : Array Bool) {oi : Oper} {v : Value} {n : Nat} {l : Array Bool} {a : Act} {w : World} (hi : nthOp L i = some oi)
    (hc : (Region.noSelect L.toArray && decide (i ≠ k) && Region.free md L.toArray l i && (Region.ready md L.toArray l).contains i && decide (l.setIfInBounds i true = l')) = true)
    (hQ : ∀ c a w, Q (.panic c) (a.put oi.dst v) w → Q (.panic c) a w) (hwt : Region.wanted oi (yielded L.toArray a.tmps) = true) (hy : ∀ w, (execOp a.eval oi).run P w = .ok (.value v) w) (hF : F w)
    (h : AnyF P md L.toArray Q F k n l' (a.put oi.dst v) w) : AnyF P md L.toArray Q F k (n + 1) l a w := by
  simp only [Bool.and_eq_true, decide_eq_true_eq] at hc
  obtain ⟨⟨⟨⟨c1, c2⟩, c4⟩, c5⟩, c6⟩ := hc
  subst c6
  exact AnyF.first (C := fun _ => True) (nthOp_get L i hi) c1 c2 hQ n l a w (.inl fun _ => trivial) (Region.free_spec (nthOp_get L i hi) c4) (by simpa using c5) (.inl ⟨hwt, fun w _ => hy w⟩) trivial (fun _ => hF) h

/-- One alone may come up. -/
theorem F_one {L : List Oper} (i : Nat) (l' : Array Bool) {oi : Oper} {n : Nat} {l : Array Bool} {a : Act} {w : World} (hi : nthOp L i = some oi)
    (hr : (decide (Region.ready md L.toArray l = [i]) && decide (l.setIfInBounds i true = l')) = true)
    (h : wpList P L.toArray (Exit.then (fun a' w' => (l'.getD k true = false → F w') ∧ AnyF P md L.toArray Q F k n l' a' w') Q) [oi] a w) : AnyF P md L.toArray Q F k (n + 1) l a w := by
  simp only [Bool.and_eq_true, decide_eq_true_eq] at hr
  obtain ⟨hr, e⟩ := hr
  subst e
  refine ⟨fun h0 => by (rw [hr] at h0; cases h0), ?_⟩
  intro j hj
  rw [hr] at hj
  obtain rfl : j = i := by simpa using hj
  unfold wpOp
  simp only [nthOp_get L j hi]
  unfold wpList at h
  split at h
  · rename_i hw
    rw [if_pos hw]
    rcases h with h | ⟨h1, h2⟩
    · exact .inl (wp_then h)
    · exact .inr ⟨h1, h2⟩
  · rename_i hw
    rw [if_neg hw]
    exact h

theorem F_done {n : Nat} {l : Array Bool} {a : Act} {w : World} (hr : Region.ready md ops l = []) (h : Q .normal a w) : AnyF P md ops (NoPanic Q) F k n l a w := by
  cases n with
  | zero => exact ⟨hr, h⟩
  | succ n => exact ⟨fun _ => h, fun i hi => by (rw [hr] at hi; cases hi)⟩

theorem F_begin {id : Nat} {a : Act} {w : World} (F : World → Prop) (k n : Nat) (l : Array Bool) (hn : ops.size = n) (hl : Array.replicate n false = l) (hm : P.follows .mixedOrders = true)
    (h : AnyF P .any ops (NoPanic Q) F k n l a w.drew) : (Code.region id ops true).wp P Q a w := by
  subst hn; subst hl
  exact wp_region_noPanic (wp_region_any hm (AnyF.any _ _ _ _ h))
end
section
variable {P : Program} {w : World} {ops : Array Oper} {rest : List Oper} {a : Act} {Q : Exit → Act → World → Prop} {dst : Option Tmp} {ty : TypeId} {pos : String} {aft : Array Edge} {gd : Option (Nat × Bool)}
theorem e_mul {T yt : TypeId} (x y : Operand) (m n r : Int) (hx : a.eval x = .int .i64 m) (hy : a.eval y = .int .i64 n) (hr : m * n = r) (h : -9223372036854775808 ≤ r ∧ r ≤ 9223372036854775807) :
    (execOp a.eval ⟨dst, .binOp .mul T x y yt, ty, pos, aft, gd⟩).run P w = .ok (.value (.int .i64 r)) w := by
  unfold execOp
  simp only [hx, hy, eqGuard_mul, Sem.run_bind, Sem.run_pure, Result.andThen_ok, run_mul T m n r hr h]
theorem e_add {T yt : TypeId} (x y : Operand) (m n r : Int) (hx : a.eval x = .int .i64 m) (hy : a.eval y = .int .i64 n) (hr : m + n = r) (h : -9223372036854775808 ≤ r ∧ r ≤ 9223372036854775807) :
    (execOp a.eval ⟨dst, .binOp .add T x y yt, ty, pos, aft, gd⟩).run P w = .ok (.value (.int .i64 r)) w := by
  unfold execOp
  simp only [hx, hy, eqGuard_add, Sem.run_bind, Sem.run_pure, Result.andThen_ok, run_add T m n r hr h]
/-- Any operation whose run is known. -/
theorem r_val {o : Oper} (v : Value) (hr : (execOp a.eval o).run P w = .ok (.value v) w) (hgd : Region.wanted o (yielded ops a.tmps) = true) (h : wpList P ops Q rest (a.put o.dst v) w) : wpList P ops Q (o :: rest) a w :=
  wpList_want hgd fun _ hK => by
    unfold Oper.wp
    simp only [hr, Oper.upon]
    exact hK _ _ h
/-- A region all of whose operations leave alone what they read: one walk in the order of the text, in the class of worlds that have grown. -/
theorem q_whole {id : Nat} {Q : Exit → Act → World → Prop} {w : World} {l : List Oper} (hm : P.follows .mixedOrders = true) (hB : Region.lexB .any l.toArray = true)
    (h : wpQuiet P l.toArray (fun w' => Gr w w') (fun a' => ∀ w', Gr w w' → Q .normal a' w') l a) : (Code.region id l.toArray true).wp P Q a w :=
  wp_region_quiet (C := fun w' => Gr w w') hm hB (Gr.refl w).drew h
end
end Go.Proofs.YthjkeohnjggmiaaDoor
