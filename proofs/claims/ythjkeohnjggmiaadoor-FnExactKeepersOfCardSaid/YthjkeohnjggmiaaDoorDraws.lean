/-
  Rules of my own for a statement whose order of evaluation is left open: operations that only read may be taken first while the others keep what they read; the rest comes in its one order.
-/
import Derived.Test.YthjkeohnjggmiaaDoorKit
import Derived.Deep.RegionHeld3
namespace Go.Proofs.YthjkeohnjggmiaaDoor
open Go.RowKit
section
variable {P : Program} {md : Region.Mode} {ops : Array Oper} {Q : Exit → Act → World → Prop} {F : World → Prop} {k : Nat}

/-- Any order, and behind each operation but number k the fact F holds. -/
def AnyK (P : Program) (md : Region.Mode) (ops : Array Oper) (Q : Exit → Act → World → Prop) (F : World → Prop) (k : Nat) : Nat → Array Bool → Act → World → Prop
  | 0, l, a, w => Region.ready md ops l = [] ∧ Q .normal a w
  | n + 1, l, a, w => (Region.ready md ops l = [] → Q .normal a w) ∧
      ∀ i ∈ Region.ready md ops l, wpOp P ops Q i (fun a' w' => (i ≠ k → F w') ∧ AnyK P md ops Q F k n (l.setIfInBounds i true) a' w') a w

theorem AnyK.any : ∀ (n : Nat) (l : Array Bool) (a : Act) (w : World), AnyK P md ops Q F k n l a w → wpAny P md ops Q n l a w
  | 0, _, _, _, h => h
  | n + 1, _, _, _, h => ⟨h.1, fun i hi => wpOp_mono (fun a' w' q => AnyK.any n _ a' w' q.2) (h.2 i hi)⟩

/-- Number k waits for number i itself. -/
def waitsOn (md : Region.Mode) (ops : Array Oper) (k i : Nat) : Bool := ((ops[k]?).map fun o => o.after.any fun e => Region.binds md e && e.on == i).getD true

theorem not_ready {i : Nat} {l : Array Bool} (hw : waitsOn md ops k i = true) (hi : l.getD i true = false) : k ∉ Region.ready md ops l := by
  intro hk
  obtain ⟨_, o, ho, hall⟩ := mem_ready.1 hk
  unfold waitsOn at hw
  rw [ho] at hw
  simp only [Option.map_some, Option.getD_some, Array.any_eq_true', Bool.and_eq_true, beq_iff_eq] at hw
  obtain ⟨e, he, hb, rfl⟩ := hw
  have := hall e he hb
  rcases Nat.lt_or_ge e.on l.size with h | h
  · simp [h] at this hi; rw [hi] at this; cases this
  · simp [Array.getElem?_eq_none h] at this

theorem AnyK.first {i : Nat} {oi : Oper} {v : Value} (hi : ops[i]? = some oi) (hsel : Region.noSelect ops = true) (hik : i ≠ k) (hw : waitsOn md ops k i = true)
    (hQ : ∀ c a w, Q (.panic c) (a.put oi.dst v) w → Q (.panic c) a w) :
    ∀ (n : Nat) (l : Array Bool) (a : Act) (w : World),
      (∀ j oj, ops[j]? = some oj → j ≠ i → l.getD j true = false → (∀ e ∈ oj.after, Region.binds md e = true → e.on ≠ i) → oi.apart ops oj = true) →
      i ∈ Region.ready md ops l → YieldsIf P ops F oi v a → F w → AnyK P md ops Q F k n (l.setIfInBounds i true) (a.put oi.dst v) w → AnyK P md ops Q F k (n + 1) l a w := by
  intro n
  have take : ∀ {K : Act → World → Prop} {a : Act} {w : World}, YieldsIf P ops F oi v a → F w → K (a.put oi.dst v) w → wpOp P ops Q i K a w := fun hy hF h => hy.wpOp hi hF h
  induction n with
  | zero =>
    intro l a w _ hr hy hF H
    constructor
    · intro h0; rw [h0] at hr; cases hr
    · intro j hj
      by_cases e : j = i
      · subst e; exact take hy hF ⟨fun _ => hF, H⟩
      · have h1 := ready_mono hj e
        rw [H.1] at h1; cases h1
  | succ n ih =>
    intro l a w hfree hr hy hF H
    constructor
    · intro h0; rw [h0] at hr; cases hr
    · intro j hj
      by_cases e : j = i
      · subst e; exact take hy hF ⟨fun _ => hF, H⟩
      · have hil : l.getD i true = false := by
          have := (mem_ready.1 hr).1; exact this
        have hjk : j ≠ k := fun e2 => not_ready hw hil (e2 ▸ hj)
        obtain ⟨hjl, oj, hoj, hall⟩ := mem_ready.1 hj
        have hno : ∀ x ∈ oj.after, Region.binds md x = true → x.on ≠ i := by
          intro x hx hb e3
          have h4 := hall x hx hb
          rw [e3] at h4
          rcases Nat.lt_or_ge i l.size with h | h
          · simp [h] at h4 hil; rw [hil] at h4; cases h4
          · simp [Array.getElem?_eq_none h] at h4
        have h2 := wpOp_putIf hoj (hfree j oj hoj e hjl hno) (fun cs b => Region.noSelect_spec hsel i oi cs b hi) (fun cs b => Region.noSelect_spec hsel j oj cs b hoj) hQ hy (H.2 j (ready_mono hj e))
        refine wpOp_mono (fun a' w' q => ⟨fun _ => q.2.1 hjk, ih _ a' w' ?_ (ready_mono hr (Ne.symm e)) q.1 (q.2.1 hjk) ?_⟩) h2
        · intro m om hm hmi hml hmn
          refine hfree m om hm hmi ?_ hmn
          by_cases e5 : j = m
          · subst e5; exact hjl
          · rwa [getD_set_ne true e5] at hml
        · have := q.2.2
          rwa [Array.setIfInBounds_comm _ _ (Ne.symm e)] at this

def nthOp : List Oper → Nat → Option Oper
  | [], _ => none
  | o :: _, 0 => some o
  | _ :: r, n + 1 => nthOp r n
theorem nthOp_get : ∀ (l : List Oper) (i : Nat) {o : Oper}, nthOp l i = some o → l.toArray[i]? = some o
  | [], _, _, h => by cases h
  | _ :: _, 0, _, h => by simpa [nthOp] using h
  | _ :: r, n + 1, _, h => by have := nthOp_get r n h; simpa using this

/-- The next one only reads: take it first. -/
theorem K_take {L : List Oper} (i : Nat) (l' : Array Bool) {oi : Oper} {v : Value} {n : Nat} {l : Array Bool} {a : Act} {w : World} (hi : nthOp L i = some oi)
    (hc : (Region.noSelect L.toArray && decide (i ≠ k) && waitsOn md L.toArray k i && Region.free md L.toArray l i && (Region.ready md L.toArray l).contains i && decide (l.setIfInBounds i true = l')) = true)
    (hQ : ∀ c a w, Q (.panic c) (a.put oi.dst v) w → Q (.panic c) a w) (hwt : Region.wanted oi (yielded L.toArray a.tmps) = true) (hy : ∀ w, F w → (execOp a.eval oi).run P w = .ok (.value v) w) (hF : F w)
    (h : AnyK P md L.toArray Q F k n l' (a.put oi.dst v) w) : AnyK P md L.toArray Q F k (n + 1) l a w := by
  simp only [Bool.and_eq_true, decide_eq_true_eq] at hc
  obtain ⟨⟨⟨⟨⟨c1, c2⟩, c3⟩, c4⟩, c5⟩, c6⟩ := hc
  subst c6
  exact AnyK.first (nthOp_get L i hi) c1 c2 c3 hQ n l a w (Region.free_spec (nthOp_get L i hi) c4) (by simpa using c5) (.inl ⟨hwt, hy⟩) hF h

theorem wp_then {o : Oper} {a : Act} {w : World} {K : Act → World → Prop} (h : o.wp P a w K (Exit.then K Q)) : o.wp P a w K Q := by
  unfold Oper.wp at *
  generalize (execOp a.eval o).run P w = r at *
  cases r with
  | ok n w' =>
    cases n with
    | enter f args =>
      refine Calls.mono h fun e w'' he => ?_
      cases e <;> exact he
    | _ => exact h
  | halt x w' => cases x <;> exact h
/-- One alone may come up. -/
theorem K_one {L : List Oper} (i : Nat) (l' : Array Bool) {oi : Oper} {n : Nat} {l : Array Bool} {a : Act} {w : World} (hi : nthOp L i = some oi)
    (hr : (decide (Region.ready md L.toArray l = [i]) && decide (l.setIfInBounds i true = l')) = true)
    (h : wpList P L.toArray (Exit.then (fun a' w' => (i ≠ k → F w') ∧ AnyK P md L.toArray Q F k n l' a' w') Q) [oi] a w) : AnyK P md L.toArray Q F k (n + 1) l a w := by
  simp only [Bool.and_eq_true, decide_eq_true_eq] at hr
  obtain ⟨hr, e⟩ := hr
  subst e
  refine ⟨fun h0 => by (rw [hr] at h0; cases h0), ?_⟩
  intro j hj
  rw [hr] at hj
  obtain rfl : j = i := by simpa using hj
  unfold wpOp
  simp only [nthOp_get L j hi]
  unfold wpList at h
  split at h
  · rename_i hw
    rw [if_pos hw]
    rcases h with h | ⟨h1, h2⟩
    · exact .inl (wp_then h)
    · exact .inr ⟨h1, h2⟩
  · rename_i hw
    rw [if_neg hw]
    exact h

theorem K_done' {n : Nat} {l : Array Bool} {a : Act} {w : World} (hr : Region.ready md ops l = []) (h : Q .normal a w) : AnyK P md ops (NoPanic Q) F k n l a w := by
  cases n with
  | zero => exact ⟨hr, h⟩
  | succ n => exact ⟨fun _ => h, fun i hi => by (rw [hr] at hi; cases hi)⟩
theorem K_done {n : Nat} {l : Array Bool} {a : Act} {w : World} (hr : Region.ready md ops l = []) (h : Q .normal a w) : AnyK P md ops Q F k n l a w := by
  cases n with
  | zero => exact ⟨hr, h⟩
  | succ n => exact ⟨fun _ => h, fun i hi => by rw [hr] at hi; cases hi⟩

theorem K_begin {id : Nat} {a : Act} {w : World} (F : World → Prop) (k n : Nat) (l : Array Bool) (hn : ops.size = n) (hl : Array.replicate n false = l) (hm : P.follows .mixedOrders = true)
    (h : AnyK P .any ops (NoPanic Q) F k n l a w.drew) : (Code.region id ops true).wp P Q a w := by
  subst hn; subst hl
  exact wp_region_noPanic (wp_region_any hm (AnyK.any _ _ _ _ h))
end
end Go.Proofs.YthjkeohnjggmiaaDoor
