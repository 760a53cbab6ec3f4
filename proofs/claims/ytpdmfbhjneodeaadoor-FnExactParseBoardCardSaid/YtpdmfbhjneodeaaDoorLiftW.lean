/-
  At the open fence, in a round of a range over a function or in none: a statement without a defer is walked by the everyday rules, calls as well.
-/
import Derived.OrdersIn
import Derived.TacticsIn
import Derived.OwnWalkIn
import Derived.RangeFuncCalls
import Derived.Test.YtpdmfbhjneodeaaDoorBKit
namespace Go.Proofs.YtpdmfbhjneodeaaDoor
open Go.RowKit
/-- A fence that holds nothing back. -/
structure OpenF (F : Fence) : Prop where
  fn : ∀ f, F.fn f
  depth : F.depth = none
  same : ∀ P, Machine.fenced P F = Machine.fenced P Fence.wide
theorem OpenF.wide : OpenF Fence.wide := ⟨fun _ => trivial, rfl, fun _ => rfl⟩
theorem OpenF.inRound (l : Nat) : OpenF (Fence.wide.inRound l) := ⟨fun _ => trivial, rfl, fun _ => rfl⟩
section
variable {P : Program} {F : Fence} {n : Nat} {md : Region.Mode} {ops : Array Oper} {Q : Exit → Act → World → Prop}
theorem OpenF.calls (hF : OpenF F) {f : FuncId} {args : Array Value} {w : World} {R : Ending → World → Prop} (h : Calls P f args w R) : CallsIn F n P f args w R :=
  ⟨hF.fn f, fun cs _ => by
    rw [hF.same]
    exact (callsIn_wide (n := n).2 h).2 cs (room_wide _)⟩
theorem OpenF.rows (hF : OpenF F) {r : String} {args : Array Value} {w : World} {R : Value → World → Prop} (h : Rows P r args w R) : RowsIn F n P r args w R := fun c cs _ => by
  rw [hF.same]
  obtain ⟨v, w', h1, s⟩ := h c cs
  exact ⟨v, w', h1, stepsIn_wide.2 s⟩
def noDefer (o : Oper) : Bool := match o.op with
  | .defer _ => false
  | _ => true
theorem noDefer_plain {o : Oper} (ho : noDefer o = true) : ∀ c, o.op ≠ .defer c := by
  intro c hc
  unfold noDefer at ho
  rw [hc] at ho
  cases ho
theorem open_wp (hF : OpenF F) {o : Oper} (ho : noDefer o = true) {a : Act} {w : World} {K : Act → World → Prop} (h : o.wp P a w K Q) : o.wpIn F n P a w K Q := by
  unfold Oper.wp at h
  unfold Oper.wpIn
  refine ⟨fun f _ => hF.fn f, ?_⟩
  rw [Oper.semAt_eq _ _ o (noDefer_plain ho)]
  have hd : F.depth.isSome = true → 1 ≤ n := fun h => by rw [hF.depth] at h; cases h
  cases hr : (execOp a.eval o).run P w with
  | ok x w' =>
    rw [hr] at h
    cases x <;> first | exact h | exact ⟨hd, hF.calls h⟩ | exact ⟨hd, hF.rows h⟩ | exact False.elim h
  | halt y w' =>
    rw [hr] at h
    cases y <;> exact h
theorem open_op (hF : OpenF F) (hL : ¬ LetsOut Q) (hT : ∀ (i : Nat) (o : Oper), ops[i]? = some o → noDefer o = true) {i : Nat} {a : Act} {w : World} {K : Act → World → Prop} (h : wpOp P ops Q i K a w) : wpOpIn F n P ops Q i K a w := by
  unfold wpOp at h
  unfold wpOpIn
  cases ho : ops[i]? with
  | none => rw [ho] at h; exact h
  | some o =>
    rw [ho] at h
    simp only at h ⊢
    split at h
    · rename_i hw
      rw [if_pos hw]
      exact open_wp hF (hT i o ho) (h.resolve_right fun q => hL q.2)
    · rename_i hw
      rw [if_neg hw]
      exact ⟨fun f _ => hF.fn f, h⟩
theorem any_open (hF : OpenF F) (hL : ¬ LetsOut Q) (hT : ∀ (i : Nat) (o : Oper), ops[i]? = some o → noDefer o = true) : ∀ (k : Nat) (l : Array Bool) (a : Act) (w : World), wpAny P md ops Q k l a w → wpAnyIn F n P md ops Q k l a w
  | 0, _, _, _, h => h
  | k + 1, l, a, w, h => ⟨h.1, fun i hi => by
      have h1 := open_op (F := F) (n := n) hF hL hT (h.2 i hi)
      unfold wpOpIn at h1 ⊢
      cases ho : ops[i]? with
      | none => rw [ho] at h1; exact any_open hF hL hT k _ _ _ h1
      | some o =>
        rw [ho] at h1
        simp only at h1 ⊢
        split at h1
        · rename_i hw
          rw [if_pos hw]
          exact Oper.wpIn_mono (fun a w q => any_open hF hL hT k _ a w q) h1
        · rename_i hw
          rw [if_neg hw]
          exact ⟨h1.1, any_open hF hL hT k _ _ _ h1.2⟩⟩
theorem noDefers {l : List Oper} (h : l.all noDefer = true) : ∀ (i : Nat) (o : Oper), l.toArray[i]? = some o → noDefer o = true := fun i o ho => by
  rw [List.getElem?_toArray] at ho
  exact List.all_eq_true.1 h o (List.mem_of_getElem? ho)
theorem lets_not {Q : Exit → Act → World → Prop} (h : ∀ a w, ¬ Q .outgrown a w) : ¬ LetsOut Q := fun ⟨a, w, q⟩ => h a w q
/-- A statement that draws its order. -/
theorem O_begin (hF : OpenF F) {id : Nat} {a : Act} {w : World} {l : List Oper} (G : World → Prop) (k m : Nat) (z : Array Bool) (hn : l.toArray.size = m) (hl : Array.replicate m false = z) (hm : P.follows .mixedOrders = true) (hT : l.all noDefer = true)
    (hL : ∀ a w, ¬ Q .outgrown a w) (h : AnyF P .any l.toArray (NoPanic Q) G k m z a w.drew) : (Code.region id l.toArray true).wpIn F n P Q a w := by
  subst hn; subst hl
  exact wpIn_mono (wpIn_region_any hm (any_open (Q := NoPanic Q) hF (lets_not (fun a w q => hL a w q)) (noDefers hT) _ _ _ _ (AnyF.any _ _ _ _ h))) NoPanic.imp
/-- Nothing but the everyday end. -/
def Calm (Q : Exit → Act → World → Prop) : Exit → Act → World → Prop
  | .normal, a, w => Q .normal a w
  | _, _, _ => False
theorem Calm.imp {Q : Exit → Act → World → Prop} : ∀ e a w, Calm Q e a w → Q e a w
  | .normal, _, _, h => h
/-- The same, whatever the end behind it may be. -/
theorem O_beginC (hF : OpenF F) {id : Nat} {a : Act} {w : World} {l : List Oper} (G : World → Prop) (k m : Nat) (z : Array Bool) (hn : l.toArray.size = m) (hl : Array.replicate m false = z) (hm : P.follows .mixedOrders = true) (hT : l.all noDefer = true)
    (h : AnyF P .any l.toArray (NoPanic (Calm Q)) G k m z a w.drew) : (Code.region id l.toArray true).wpIn F n P Q a w :=
  wpIn_mono (O_begin (Q := Calm Q) hF G k m z hn hl hm hT (fun _ _ h => h) h) Calm.imp
theorem list_open (hF : OpenF F) (hL : ¬ LetsOut Q) : ∀ (l : List Oper) (a : Act) (w : World), l.all noDefer = true → wpList P ops Q l a w → wpListIn F n P ops Q l a w
  | [], _, _, _, h => h
  | o :: r, a, w, hT, h => by
    rw [List.all_cons, Bool.and_eq_true] at hT
    unfold wpList at h
    unfold wpListIn
    split at h
    · rename_i hw
      rw [if_pos hw]
      exact Oper.wpIn_mono (fun a w q => list_open hF hL r a w hT.2 q) (open_wp hF hT.1 (h.resolve_right fun q => hL q.2))
    · rename_i hw
      rw [if_neg hw]
      exact ⟨fun f _ => hF.fn f, list_open hF hL r _ _ hT.2 h⟩
/-- A statement in its one order. -/
theorem O_list (hF : OpenF F) {id : Nat} {a : Act} {w : World} {l : List Oper} (hT : l.all noDefer = true) (hL : ∀ a w, ¬ Q .outgrown a w) (h : wpList P l.toArray Q l a w) : (Code.region id l.toArray false).wpIn F n P Q a w :=
  wpIn_region_lit (list_open hF (lets_not hL) l a w hT h)
theorem O_listC (hF : OpenF F) {id : Nat} {a : Act} {w : World} {l : List Oper} (hT : l.all noDefer = true) (h : wpList P l.toArray (Calm Q) l a w) : (Code.region id l.toArray false).wpIn F n P Q a w :=
  wpIn_mono (O_list (Q := Calm Q) hF hT (fun _ _ h => h) h) Calm.imp
end
end Go.Proofs.YtpdmfbhjneodeaaDoor
