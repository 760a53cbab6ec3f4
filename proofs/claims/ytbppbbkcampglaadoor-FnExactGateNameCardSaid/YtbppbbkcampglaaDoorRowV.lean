/-
  The frame of a law's row whose program reads a table of texts: the listed variables read as listed, and the walk may use it.
-/
import Derived.Test.YtbppbbkcampglaaDoorRowKit
import Derived.Test.YtbppbbkcampglaaDoorGateN
import Derived.OpenVars
import Derived.MakeChecks
namespace Go.Proofs.YtbppbbkcampglaaDoor
open Go.ChangeShapes Go.WideShapes Go.ChangeAt Go.RowKit
variable {H : Type} {enc : TypeId × Value → H}
/-- The listed variables, the condition on them and the world's shape, all at hand. -/
theorem handed_laid {a : Assume} {C : Checked} {os : Os} {f : FuncId} {fn : Func} {s : ChangeSpec} {conds : List PathCond} {apart fresh handsOn again : Bool} {X : World → Array Value → Prop}
    (hX : ∀ (w w' : World) (args : Array Value), w.heap = w'.heap → X w args → X w' args)
    (own : ownKnob C.prog.godebug = none) (started : os.Started) (noInit : C.prog.inits.idxOf? f = none) (hfn : C.prog.funcs[f]? = some fn)
    (witness : ∃ (w : World) (tape : Tape) (i : Input), w.os = os ∧ (w.forCall tape i).Shaped C.prog ∧ i.vars = [] ∧ Input.okWide C.prog (w.forCall tape i) .any w.heap.size f i ∧
      ((s.pre enc C.prog fn conds apart (w.forCall tape i).memory i.args ∧ X (w.forCall tape i).memory i.args) ∧ sizedMet enc C.prog fn (OpenSpec.ofChange s) apart (w.forCall tape i).memory i.args) ∧ a.holds C.prog (lone (Frame.enter C.prog f i.args .normal) [] (w.forCall tape i)))
    (contract : ∀ (W : World) (base : Nat) (args : Array Value) (ds gs : List (DataW H)) (before : List MemPlace),
      (∀ (j : Nat) t v, fn.params[j]? = some t → args[j]? = some v → Value.okWide C.prog W .any base t v) →
      DataW.Whole enc C.prog fn.params.toList s.vars apart W args.toList ds gs before → W.ShapedOpen C.prog → X W args →
      Calls C.prog f args W fun e W' => ∃ v, e = .returned v ∧ s.post enc C.prog fn apart fresh handsOn again W args v W') :
    ReturnsInHanded a C os f .any (fun w args => (s.pre enc C.prog fn conds apart w args ∧ X w args) ∧ sizedMet enc C.prog fn (OpenSpec.ofChange s) apart w args) (s.post enc C.prog fn apart fresh handsOn again) := by
  refine returnsInHanded_of_calls own started noInit witness fun w tape i _ hsh _ hok hpre _ => ?_
  obtain ⟨_, _, _, g, hg, _, _, _, _, hval⟩ := hok
  obtain rfl : g = fn := Option.some.inj (hg.symm.trans hfn)
  obtain ⟨⟨⟨ds, gs, before, hw, _⟩, hx⟩, _⟩ := hpre
  refine (contract (w.forCall tape i) w.heap.size i.args ds gs before hval (DataW.Whole.of_heap (by rfl) hw) hsh (hX _ _ _ (by rfl) hx)).mono fun e W' ⟨v, he, hp⟩ => ?_
  subst he
  exact ChangeSpec.post_blind hp
/-- One cell that reads as a text holds it. -/
theorem string_of_trod {P : Program} {w : World} {base : Nat} {sp : Nat → Bool} {held : Bool} {fuel : Nat} {t : TypeId} {c : Value} {y : DataW H × List MemPlace}
    (ht : P.underlying t = some .string) (h : DataW.trod enc P w base sp held fuel t [c] = some y) : ∃ s, c = .string s ∧ y.1 = .lit (.string s.data.toList) := by
  cases fuel with
  | zero => simp [DataW.trod] at h
  | succ fuel =>
    cases c <;> simp [DataW.trod, ht] at h
    rename_i s
    exact ⟨s, rfl, by rw [← h.2]⟩
theorem Tryd.gateVar : Tryd.prog.globalNamed "loop.example/g01199/impl.gateNames" = some 0 := by kernel_rfl
theorem Tryd.gateType : (Tryd.prog.globals[0]?).map (·.type) = some 56 := by kernel_rfl
theorem Tryd.gateCells : Tryd.prog.cellsOf 9 = 1 := by kernel_rfl
theorem Tryd.gateCells16 : Tryd.prog.cellsOf 56 = 16 := by kernel_rfl
theorem gates_met {W : World} {D : DataW Unit} (hD : D = .agg (gnL.map fun s => .lit (.string s.data.toList))) (h : laidMet Tryd.prog [("loop.example/g01199/impl.gateNames", D)] W) : GnAt W := by
  subst hD
  obtain ⟨ps, ⟨g, t, cs, fuel, p, q, hg, ht, hvar, hd, _, _⟩, _⟩ := h
  obtain rfl := Option.some.inj (Tryd.gateVar.symm.trans hg)
  obtain rfl := Option.some.inj (Tryd.gateType.symm.trans ht)
  obtain ⟨xs, m, -, hx, hl, hn, hi⟩ := DataW.trod_array Tryd.underlying56 hd
  rw [Tryd.gateCells16] at hl
  intro n h16
  have h1 := hi n h16
  rw [Tryd.gateCells, Nat.mul_one] at h1
  have hc : cs.toList[n]? = some (cs.toList[n]'(by omega)) := List.getElem?_eq_getElem (by omega)
  rw [List.drop_eq_getElem_cons (by omega : n < cs.toList.length), List.take_succ_cons, List.take_zero] at h1
  have hxn : xs[n]? = some (xs[n]'(by omega)) := List.getElem?_eq_getElem (by omega)
  rw [hxn] at h1
  obtain ⟨s, hs, hy⟩ := string_of_trod Tryd.underlying9 h1
  have hdat : xs.map (·.1) = gnL.map fun s => DataW.lit (.string s.data.toList) := by
    have := congrArg Prod.fst hx
    simpa using this.symm
  have he : (xs.map (·.1))[n]? = some (.lit (.string s.data.toList)) := by rw [List.getElem?_map, hxn, ← hy]; rfl
  rw [hdat, List.getElem?_map] at he
  have hgl : gnL.length = 16 := rfl
  rw [List.getElem?_eq_getElem (by omega)] at he
  have hsv : gnL[n]'(by omega) = s := by
    simp only [Option.map_some, Option.some.injEq, DataW.lit.injEq, Lit.string.injEq] at he
    exact ByteArray.ext (Array.toList_inj.1 he)
  have hcell := World.var?_cell hg hvar n
  rw [hcell, ← Array.getElem?_toList, hc, hs, List.getD_eq_getElem?_getD, List.getElem?_eq_getElem (by omega), hsv]
  rfl
end Go.Proofs.YtbppbbkcampglaaDoor
