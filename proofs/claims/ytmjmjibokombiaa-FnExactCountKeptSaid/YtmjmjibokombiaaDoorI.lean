/-
  A door that some work is done behind: a count that is raised as too great is recovered and asserted there.
-/
import Derived.Test.YtmjmjibokombiaaCallC
import Derived.Test.YtmjmjibokombiaaCntA
import Derived.Defers
import Derived.Recover
import Derived.Laws.Pointers
namespace Go.Proofs.Ytmjmjibokombiaa
open Go.RowKit
section
variable {P : Program} {w : World} {ops : Array Oper} {rest : List Oper} {a : Act} {Q : Exit → Act → World → Prop} {dst : Option Tmp} {ty : TypeId} {pos : String} {aft : Array Edge} {gd : Option (Nat × Bool)}
/-- A call of a closure that panics. -/
theorem r_callp (f : FuncId) (x : Operand) (xs : List Operand) (ts : Array TypeId) (vs lb : List Value) (chain : List PanicEntry) (Post : World → Prop) (hcf : ∀ args w, (callFunc f args).run P w = .ok (.enter f args) w) (hx : a.eval x = .func (.func f) #[] lb.toArray) (hvs : xs.map a.eval = vs)
    (hgd : Region.wanted ⟨dst, .call { callee := .value x, args := xs.toArray, argTypes := ts }, ty, pos, aft, gd⟩ (yielded ops a.tmps) = true)
    (hc : Calls P f (vs ++ lb).toArray w fun e w' => e = .panicked chain ∧ Post w')
    (h : ∀ w', Post w' → Q (.panic chain) a w') : wpList P ops Q (⟨dst, .call { callee := .value x, args := xs.toArray, argTypes := ts }, ty, pos, aft, gd⟩ :: rest) a w :=
  wpList_want hgd fun _ hK => by
    have e : (execOp a.eval ⟨dst, .call { callee := .value x, args := xs.toArray, argTypes := ts }, ty, pos, aft, gd⟩).run P w = .ok (.enter f (vs ++ lb).toArray) w := by
      unfold execOp resolve
      simp only [List.map_toArray, hvs, hx, Deferred.ofValue, Sem.run_bind, Sem.run_pure, Result.andThen_ok, invoke, List.append_toArray]
      exact hcf _ _
    unfold Oper.wp
    rw [e]
    exact hc.mono fun e w'' ⟨he, hp⟩ => by
      subst he
      exact h _ hp
end
abbrev tgE (n : Int) (r : Bool) : PanicEntry := { v := .iface 44 (.int .i64 n), recovered := r }
theorem Try.asGreat (n : Int) (w : World) : (Instr.typeAssert (.iface 44 (.int .i64 n)) 20 44 true).run Try.prog w = .ok (.tuple #[.int .i64 n, .bool true]) w := by kernel_rfl
theorem Try.asNone (w : World) : (Instr.typeAssert .nilIface 20 44 true).run Try.prog w = .ok (.tuple #[.int .i64 0, .bool false]) w := by kernel_rfl
set_option maxHeartbeats 1000000 in
theorem catch_great (p : Addr) (n : Int) (older : List PanicEntry) (w : World) (hc : w.cell? p = some (.bool false)) (hz : w.frozen? p = false) :
    CallsD Try.prog 24 #[.pointer (some p)] (.panicking (tgE n false :: older)) w fun e u' w' =>
      e = .returned (.tuple #[]) ∧ u' = .panicking (tgE n true :: older) ∧ w' = w.setCell p (.bool false) := by
  have hA := Try.asGreat n
  refine callsD_of_wpS Try.func24 rfl fun c₀ cs hu => ?_
  apply wpS_seq
  apply wpS_region
  simp [wpOpsS, go_sem, recoverD, hu, Try.ntmps24, Exit.thenS, hA]
  apply wpS_region
  simp [wpOpsS, go_sem, hc, hz, bodyPostS, results, Try.results24]
set_option maxHeartbeats 1000000 in
theorem catch_none (p : Addr) (w : World) (hc : w.cell? p = some (.bool true)) (hz : w.frozen? p = false) :
    CallsD Try.prog 24 #[.pointer (some p)] .returning w fun e u' w' =>
      e = .returned (.tuple #[]) ∧ u' = .returning ∧ w' = w.setCell p (.bool true) := by
  have hA := Try.asNone
  refine callsD_of_wpS Try.func24 rfl fun c₀ cs hu => ?_
  apply wpS_seq
  apply wpS_region
  simp [wpOpsS, go_sem, recoverD, hu, Try.ntmps24, Exit.thenS, hA]
  apply wpS_region
  simp [wpOpsS, go_sem, hc, hz, bodyPostS, results, Try.results24]
  cases c₀
  simp_all
theorem Try.boZ (w : World) : (zeroValue 4).run Try.prog w = .ok (.bool false) w := by kernel_rfl
theorem cell_of_blk {w : World} {B : Nat} {u : Value} {T : TypeId} (h : Blk w B #[u] T) : w.cell? ⟨B, 0, none⟩ = some u := h.cell 0
theorem gr_setCell_new {w0 w : World} {B : Nat} {v : Value} (g : Gr w0 w) (hB : w0.heap.size ≤ B) : Gr w0 (w.setCell ⟨B, 0, none⟩ v) := (Upd.setCell w ⟨B, 0, none⟩ v).gr g hB
theorem blk_setCell {w : World} {B : Nat} {u v : Value} {T : TypeId} (h : Blk w B #[u] T) : (w.setCell ⟨B, 0, none⟩ v).cell? ⟨B, 0, none⟩ = some v := by
  have h2 : Blk (w.setCell ⟨B, 0, none⟩ v) B #[v] T := heap_setCell_same w B 0 #[u] T v h
  exact h2.cell 0
set_option maxHeartbeats 1000000 in
theorem door_ok (f : FuncId) (cap : Value) (x : Int) (w : World) (hcf : ∀ args w, (callFunc f args).run Try.prog w = .ok (.enter f args) w) (hc : ∀ w', Gr w w' → Calls Try.prog f #[cap] w' (Ret (.int .i64 x) w')) :
    Calls Try.prog 14 #[.func (.func f) #[] #[cap]] w (Ret (.tuple #[.int .i64 x, .bool true]) w) := by
  have gg := Gr.refl w
  have hmf : ∀ (fn : Fn) (first cap : Array Value) (w : World), (Instr.makeFunc fn first cap).run Try.prog w = .ok (.func fn first cap) w := fun _ _ _ _ => rfl
  go_enter_defers Try.func14, Try.ntmps14
  go_wp2_with (first | (refine r_alloc 4 _ Try.boZ rfl ?_; intro w1 B1 N1; have g1 := N1.gr; have b1 : Blk w1 B1 (#[.bool false]) 4 := N1.blk; have l1 := N1.lo; have t1 := N1.hi; have z1 := g1.size; have gg := gg.trans g1; clear N1) | (refine r_callc f (.tmp 5) [] _ [] [cap] (.int .i64 x) (fun w' => Gr w1 w') hcf rfl rfl rfl (hc w1 g1) ?_; intro w2 g2; have b1 := g2.blk b1; have gg := gg.trans g2; have z2 := g2.size) | (refine r_store_cell 4 4 _ _ B1 0 rfl (.bool true) rfl _ b1 (by decide) Try.sizeOf4 rfl rfl ?_; intro w3 u3 b3; have gg := u3.gr gg (by omega); have z3 := u3.size))
  refine leaves_cons (f := 24) (args := #[.pointer (some ⟨B1, 0, none⟩)]) (by simp) (by simp [go_sem]) ?_
  refine (catch_none ⟨B1, 0, none⟩ _ (b3.cell 0) (b3.free 0)).mono ?_
  rintro e u' w'' ⟨rfl, rfl, rfl⟩
  have hcc := blk_setCell (v := .bool true) b3
  simp [Leaves, settle, results, Try.results14, go_sem, hcc]
  exact ⟨rfl, gr_setCell_new gg (by omega)⟩
set_option maxHeartbeats 1000000 in
theorem door_no (f : FuncId) (cap : Value) (n : Int) (w : World) (hcf : ∀ args w, (callFunc f args).run Try.prog w = .ok (.enter f args) w) (hc : ∀ w', Gr w w' → Calls Try.prog f #[cap] w' fun e w'' => e = .panicked [tgE n false] ∧ Gr w' w'') :
    Calls Try.prog 14 #[.func (.func f) #[] #[cap]] w (Ret (.tuple #[.int .i64 0, .bool false]) w) := by
  have gg := Gr.refl w
  have hmf : ∀ (fn : Fn) (first cap : Array Value) (w : World), (Instr.makeFunc fn first cap).run Try.prog w = .ok (.func fn first cap) w := fun _ _ _ _ => rfl
  go_enter_defers Try.func14, Try.ntmps14
  go_wp2_with (first | (refine r_alloc 4 _ Try.boZ rfl ?_; intro w1 B1 N1; have g1 := N1.gr; have b1 : Blk w1 B1 (#[.bool false]) 4 := N1.blk; have l1 := N1.lo; have t1 := N1.hi; have z1 := g1.size; have gg := gg.trans g1; clear N1) | (refine r_callp f (.tmp 5) [] _ [] [cap] [tgE n false] (fun w' => Gr w1 w') hcf rfl rfl rfl (hc w1 g1) ?_; intro w2 g2; have b1 := g2.blk b1; have gg := gg.trans g2; have z2 := g2.size))
  refine leaves_cons (f := 24) (args := #[.pointer (some ⟨B1, 0, none⟩)]) (by simp) (by simp [go_sem]) ?_
  refine (catch_great ⟨B1, 0, none⟩ n [] _ (b1.cell 0) (b1.free 0)).mono ?_
  rintro e u' w'' ⟨rfl, rfl, rfl⟩
  have hcc := blk_setCell (v := .bool false) b1
  simp [Leaves, settle, results, Try.results14, go_sem, hcc]
  exact ⟨rfl, gr_setCell_new gg (by omega)⟩
set_option maxHeartbeats 1000000 in
theorem door_okC (f : FuncId) (lb : List Value) (x : Int) (w : World) (hcf : ∀ args w, (callFunc f args).run Try.prog w = .ok (.enter f args) w) (hc : ∀ w', Gr w w' → Calls Try.prog f lb.toArray w' (Ret (.int .i64 x) w')) :
    Calls Try.prog 14 #[.func (.func f) #[] lb.toArray] w (Ret (.tuple #[.int .i64 x, .bool true]) w) := by
  have gg := Gr.refl w
  have hmf : ∀ (fn : Fn) (first cap : Array Value) (w : World), (Instr.makeFunc fn first cap).run Try.prog w = .ok (.func fn first cap) w := fun _ _ _ _ => rfl
  go_enter_defers Try.func14, Try.ntmps14
  go_wp2_with (first | (refine r_alloc 4 _ Try.boZ rfl ?_; intro w1 B1 N1; have g1 := N1.gr; have b1 : Blk w1 B1 (#[.bool false]) 4 := N1.blk; have l1 := N1.lo; have t1 := N1.hi; have z1 := g1.size; have gg := gg.trans g1; clear N1) | (refine r_callc f (.tmp 5) [] _ [] lb (.int .i64 x) (fun w' => Gr w1 w') hcf rfl rfl rfl (hc w1 g1) ?_; intro w2 g2; have b1 := g2.blk b1; have gg := gg.trans g2; have z2 := g2.size) | (refine r_store_cell 4 4 _ _ B1 0 rfl (.bool true) rfl _ b1 (by decide) Try.sizeOf4 rfl rfl ?_; intro w3 u3 b3; have gg := u3.gr gg (by omega); have z3 := u3.size))
  refine leaves_cons (f := 24) (args := #[.pointer (some ⟨B1, 0, none⟩)]) (by simp) (by simp [go_sem]) ?_
  refine (catch_none ⟨B1, 0, none⟩ _ (b3.cell 0) (b3.free 0)).mono ?_
  rintro e u' w'' ⟨rfl, rfl, rfl⟩
  have hcc := blk_setCell (v := .bool true) b3
  simp [Leaves, settle, results, Try.results14, go_sem, hcc]
  exact ⟨rfl, gr_setCell_new gg (by omega)⟩
set_option maxHeartbeats 1000000 in
theorem door_noC (f : FuncId) (lb : List Value) (n : Int) (w : World) (hcf : ∀ args w, (callFunc f args).run Try.prog w = .ok (.enter f args) w) (hc : ∀ w', Gr w w' → Calls Try.prog f lb.toArray w' fun e w'' => e = .panicked [tgE n false] ∧ Gr w' w'') :
    Calls Try.prog 14 #[.func (.func f) #[] lb.toArray] w (Ret (.tuple #[.int .i64 0, .bool false]) w) := by
  have gg := Gr.refl w
  have hmf : ∀ (fn : Fn) (first cap : Array Value) (w : World), (Instr.makeFunc fn first cap).run Try.prog w = .ok (.func fn first cap) w := fun _ _ _ _ => rfl
  go_enter_defers Try.func14, Try.ntmps14
  go_wp2_with (first | (refine r_alloc 4 _ Try.boZ rfl ?_; intro w1 B1 N1; have g1 := N1.gr; have b1 : Blk w1 B1 (#[.bool false]) 4 := N1.blk; have l1 := N1.lo; have t1 := N1.hi; have z1 := g1.size; have gg := gg.trans g1; clear N1) | (refine r_callp f (.tmp 5) [] _ [] lb [tgE n false] (fun w' => Gr w1 w') hcf rfl rfl rfl (hc w1 g1) ?_; intro w2 g2; have b1 := g2.blk b1; have gg := gg.trans g2; have z2 := g2.size))
  refine leaves_cons (f := 24) (args := #[.pointer (some ⟨B1, 0, none⟩)]) (by simp) (by simp [go_sem]) ?_
  refine (catch_great ⟨B1, 0, none⟩ n [] _ (b1.cell 0) (b1.free 0)).mono ?_
  rintro e u' w'' ⟨rfl, rfl, rfl⟩
  have hcc := blk_setCell (v := .bool false) b1
  simp [Leaves, settle, results, Try.results14, go_sem, hcc]
  exact ⟨rfl, gr_setCell_new gg (by omega)⟩
set_option maxHeartbeats 1000000 in
theorem raise_not (limit count : Int) (w : World) (h : count ≤ limit) : Calls Try.prog 16 #[.int .i64 limit, .int .i64 count] w (Ret (.tuple #[]) w) := by
  have gg := Gr.refl w
  go_enter Try.func16, Try.ntmps16
  go_wp2
  go_end0
  exact ⟨rfl, gg⟩
set_option maxHeartbeats 1000000 in
theorem raise_yes (limit count : Int) (w : World) (h : limit < count) : Calls Try.prog 16 #[.int .i64 limit, .int .i64 count] w fun e w' => e = .panicked [tgE count false] ∧ Gr w w' := by
  have gg := Gr.refl w
  go_enter Try.func16, Try.ntmps16
  go_wp2
  exact ⟨rfl, rfl, gg⟩
end Go.Proofs.Ytmjmjibokombiaa
