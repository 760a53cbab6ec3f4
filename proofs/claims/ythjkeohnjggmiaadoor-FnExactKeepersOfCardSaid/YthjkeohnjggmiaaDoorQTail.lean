/-
  Rules of my own for a statement whose order of evaluation is left open: all operations but the last ones leave alone what they read (calls may make new memory), and the last ones come in their one order: one walk in the order of the text serves every order.
-/
import Derived.Test.YthjkeohnjggmiaaDoorSlices
import Derived.StillTail
import Derived.Lib.SlBytesRow
namespace Go.Proofs.YthjkeohnjggmiaaDoor
open Go.RowKit
section
variable {P : Program} {ops : Array Oper} {md : Region.Mode} {C : World → Prop}

def wpAnyLQ (P : Program) (md : Region.Mode) (ops : Array Oper) (C : World → Prop) (n : Nat) (L : Array Bool → Act → Prop) : Nat → Array Bool → Act → Prop
  | 0, listed, a => L listed a
  | f + 1, listed, a =>
    Region.ready md ops listed ≠ [] ∧ ∀ i ∈ Region.ready md ops listed, i < n ∧ qOp P ops C i (wpAnyLQ P md ops C n L f (listed.setIfInBounds i true)) a

theorem wpAny_of_headQ {n g : Nat} {L : Array Bool → Act → Prop} {Q' : Exit → Act → World → Prop} (hL : ∀ listed a w, C w → L listed a → wpAny P md ops Q' g listed a w) :
    ∀ (f : Nat) (listed : Array Bool) (a : Act) (w : World), C w → wpAnyLQ P md ops C n L f listed a → wpAny P md ops Q' (f + g) listed a w
  | 0, listed, a, w, hw, h => by rw [Nat.zero_add]; exact hL _ _ _ hw h
  | f + 1, listed, a, w, hw, h => by
    rw [show f + 1 + g = (f + g) + 1 by omega]
    exact ⟨fun h0 => absurd h0 h.1, fun i hi => wpOp_of_qOp hw (fun a' w' hw' h' => wpAny_of_headQ hL f _ a' w' hw' h') (h.2 i hi).2⟩

theorem wpAnyLQ_first {n i : Nat} {oi : Oper} {v : Value} {L : Array Bool → Act → Prop} (hi : ops[i]? = some oi) (hsel : ∀ (j : Nat) (o : Oper) cs b, ops[j]? = some o → o.op ≠ .select cs b)
    (hs : Region.sinkB md ops n = true) (hc : Region.chainB md ops n = true) (hn : n < ops.size) (hin : i < n)
    (hdone : ∀ listed a, L listed a → ∀ j ∈ Region.ready md ops listed, n ≤ j) :
    ∀ (f : Nat) (listed : Array Bool) (a : Act), HeadInv md ops n listed →
      (∀ j oj, ops[j]? = some oj → j ≠ i → listed.getD j true = false → (∀ e ∈ oj.after, Region.binds md e = true → e.on ≠ i) → oi.apart ops oj = true) →
      i ∈ Region.ready md ops listed → YieldsIn P ops C oi v a →
      wpAnyLQ P md ops C n L f (listed.setIfInBounds i true) (a.put oi.dst v) → wpAnyLQ P md ops C n L (f + 1) listed a := by
  intro f
  induction f with
  | zero =>
    intro listed a inv _ hr hy H
    have hun := (mem_ready.1 hr).1
    refine ⟨fun h => (by rw [h] at hr; cases hr), fun j hj => ?_⟩
    have hjn : j < n := by
      rcases Nat.lt_or_ge j n with h | h
      · exact h
      · exact absurd hj (tail_waits hs hc hn inv _ i rfl hin hun j h)
    refine ⟨hjn, ?_⟩
    by_cases hji : j = i
    · subst hji; exact hy.qOp hi H
    · have := hdone _ _ H j (ready_mono hj hji)
      omega
  | succ f ih =>
    intro listed a inv hfree hr hy H
    have hun := (mem_ready.1 hr).1
    refine ⟨fun h => (by rw [h] at hr; cases hr), fun j hj => ?_⟩
    have hjn : j < n := by
      rcases Nat.lt_or_ge j n with h | h
      · exact h
      · exact absurd hj (tail_waits hs hc hn inv _ i rfl hin hun j h)
    refine ⟨hjn, ?_⟩
    by_cases hji : j = i
    · subst hji; exact hy.qOp hi H
    · have h1 := (H.2 j (ready_mono hj hji)).2
      obtain ⟨hjun, oj, hoj, hall⟩ := mem_ready.1 hj
      have hnot : ∀ e ∈ oj.after, Region.binds md e = true → e.on ≠ i := fun e he hb heq => by
        have h1 := hall e he hb
        rw [heq, getD_both hun] at h1
        cases h1
      have h2 := qOp_put hoj (hfree j oj hoj hji hjun hnot) (fun cs b => hsel i oi cs b hi) (fun cs b => hsel j oj cs b hoj) hy h1
      have hfree' : ∀ k ok, ops[k]? = some ok → k ≠ i → (listed.setIfInBounds j true).getD k true = false →
          (∀ e ∈ ok.after, Region.binds md e = true → e.on ≠ i) → oi.apart ops ok = true := fun k ok hk hki hun hno => by
        refine hfree k ok hk hki ?_ hno
        by_cases hjk : j = k
        · subst hjk; exact hjun
        · rw [getD_set_ne true hjk] at hun; exact hun
      refine qOp_mono (fun a' h3 => ih (listed.setIfInBounds j true) a' (inv.set hj hjn) hfree' (ready_mono hr (Ne.symm hji)) h3.1 ?_) h2
      rw [Array.setIfInBounds_comm _ _ hji]
      exact h3.2

theorem wpAnyLQ_lex {n g : Nat} {Lq : Act → Prop} (hsel : Region.noSelect ops = true) (hs : Region.sinkB md ops n = true) (hc : Region.chainB md ops n = true) (hn : n < ops.size) :
    ∀ (l : List Oper) (k : Nat) (listed : Array Bool) (a : Act), (∀ j, j < l.length → l[j]? = ops[k + j]?) → k + l.length = n → HeadInv md ops n listed →
    Region.lexHead md ops g l.length k listed = true → wpQuiet P ops C Lq l a →
    wpAnyLQ P md ops C n (fun listed' a' => Region.seqB md ops g n listed' = true ∧ Lq a') l.length listed a
  | [], k, listed, a, _, hk, _, hB, h => by
    have : k = n := by simpa using hk
    subst this
    exact ⟨by simpa [Region.lexHead] using hB, h⟩
  | o :: l, k, listed, a, hl, hk, inv, hB, h => by
    have h0 : ops[k]? = some o := by simpa using (hl 0 (by simp)).symm
    simp only [List.length_cons, Region.lexHead, Bool.and_eq_true] at hB
    obtain ⟨⟨hr, hf⟩, hB'⟩ := hB
    have hkn : k < n := by simp only [List.length_cons] at hk; omega
    have hr' : k ∈ Region.ready md ops listed := by simpa using hr
    have hst : qOp P ops C k (wpQuiet P ops C Lq l) a := by unfold qOp; simp only [h0]; exact h
    obtain ⟨v, hy, hK⟩ := yieldsIn_of_qOp h0 hst
    exact wpAnyLQ_first h0 (Region.noSelect_spec hsel) hs hc hn hkn (fun listed' a' hL => seqB_ready hL.1) l.length listed a inv (Region.free_spec h0 hf) hr' hy
      (wpAnyLQ_lex hsel hs hc hn l (k + 1) _ _ (fun j hj => by have := hl (j + 1) (by simp; omega); simpa [Nat.add_assoc, Nat.add_comm 1 j] using this) (by simp only [List.length_cons] at hk; omega) (inv.set hr' hkn) hB' hK)

/-- The first n operations are quiet in the class, the others come in their one order. -/
theorem wp_region_quiet_tail {id : Nat} {Q : Exit → Act → World → Prop} {a : Act} {w : World} {l : List Oper} (n : Nat) (C : World → Prop) (hm : P.follows .mixedOrders = true) (hB : Region.lexTailB .any l.toArray n = true)
    (hC : C w.drew) (h : wpQuiet P l.toArray C (fun a' => ∀ w', C w' → wpList P l.toArray Q (l.drop n) a' w') (l.take n) a) : (Code.region id l.toArray true).wp P Q a w := by
  simp only [Region.lexTailB, Bool.and_eq_true, decide_eq_true_eq] at hB
  obtain ⟨⟨⟨⟨hsel, hn⟩, hs⟩, hc⟩, hlex⟩ := hB
  have hn' : n < l.length := by simpa using hn
  have htl : (l.take n).length = n := by simp; omega
  have hdl : (l.drop n).length = l.toArray.size - n := by simp
  have inv0 : HeadInv .any l.toArray n (Array.replicate l.toArray.size false) :=
    ⟨by simp, fun j oj _ hl => (by rw [getD_replicate_false] at hl; cases hl), fun t _ ht => getD_in (by simpa using ht) (getD_replicate_false _ _)⟩
  have H := wpAnyLQ_lex (md := .any) (C := C) (g := l.toArray.size - n) hsel hs hc hn (l.take n) 0 _ a (fun j hj => by
    have hj' : j < n := by rw [htl] at hj; exact hj
    simp [hj']) (by simpa using htl) inv0 (by rw [htl]; exact hlex) h
  refine wp_region_any hm ?_
  have := wpAny_of_headQ (Q' := Q) (g := l.toArray.size - n) (fun listed a' w' hw' hL => by
    have := wpAny_of_seq (md := .any) (Q' := Q) (l.drop n) n listed a' w' (fun j => by simp [List.getElem?_drop]) (by rw [hdl]; exact hL.1) (hL.2 w' hw')
    rwa [hdl] at this) _ _ _ w.drew hC H
  rw [htl, show n + (l.toArray.size - n) = l.toArray.size by omega] at this
  exact this
end

section
variable {P : Program} {C : World → Prop} {ops : Array Oper} {rest : List Oper} {a : Act} {Q : Act → Prop} {dst : Option Tmp} {ty : TypeId} {pos : String} {aft : Array Edge} {gd : Option (Nat × Bool)}
/-- .. with the class of worlds that have grown. -/
theorem q_begin {id : Nat} {Q : Exit → Act → World → Prop} {w : World} {l : List Oper} (n : Nat) (hm : P.follows .mixedOrders = true) (hB : Region.lexTailB .any l.toArray n = true)
    (h : wpQuiet P l.toArray (fun w' => Gr w w') (fun a' => ∀ w', Gr w w' → wpList P l.toArray Q (l.drop n) a' w') (l.take n) a) : (Code.region id l.toArray true).wp P Q a w :=
  wp_region_quiet_tail n (fun w' => Gr w w') hm hB (Gr.refl w).drew h
theorem q_take {o : Oper} (v : Value) (hwt : Region.wanted o (yielded ops a.tmps) = true) (hy : ∀ w', C w' → (execOp a.eval o).run P w' = .ok (.value v) w')
    (h : wpQuiet P ops C Q rest (a.put o.dst v)) : wpQuiet P ops C Q (o :: rest) a :=
  wpQuiet_step fun K hK => by
    rw [if_pos hwt]
    exact ⟨v, fun w' hw' => by unfold Oper.quietAt; rw [hy w' hw']; exact ⟨rfl, rfl⟩, hK _ h⟩
theorem q_move (x : Operand) (v : Value) (hx : a.eval x = v) (hwt : Region.wanted ⟨dst, .move x, ty, pos, aft, gd⟩ (yielded ops a.tmps) = true)
    (h : wpQuiet P ops C Q rest (a.put dst v)) : wpQuiet P ops C Q (⟨dst, .move x, ty, pos, aft, gd⟩ :: rest) a :=
  q_take v hwt (fun w' _ => by unfold execOp; simp only [hx]; rfl) h
theorem q_assign (x : Operand) (v : Value) (hx : a.eval x = v) (hwt : Region.wanted ⟨dst, .assign x, ty, pos, aft, gd⟩ (yielded ops a.tmps) = true)
    (h : wpQuiet P ops C Q rest (a.put dst v)) : wpQuiet P ops C Q (⟨dst, .assign x, ty, pos, aft, gd⟩ :: rest) a :=
  q_take v hwt (fun w' _ => by unfold execOp; simp only [hx]; rfl) h
theorem q_call (f : FuncId) (xs : List Operand) (ts : Array TypeId) (vs : List Value) (v : Value) (hcf : ∀ args w, (callFunc f args).run P w = .ok (.enter f args) w) (hvs : xs.map a.eval = vs)
    (hwt : Region.wanted ⟨dst, .call { callee := .value (.func f), args := xs.toArray, argTypes := ts }, ty, pos, aft, gd⟩ (yielded ops a.tmps) = true)
    (hc : ∀ w', C w' → Calls P f vs.toArray w' fun e w'' => e = .returned v ∧ C w'')
    (h : wpQuiet P ops C Q rest (a.put dst v)) : wpQuiet P ops C Q (⟨dst, .call { callee := .value (.func f), args := xs.toArray, argTypes := ts }, ty, pos, aft, gd⟩ :: rest) a :=
  wpQuiet_step fun K hK => by
    rw [if_pos hwt]
    refine ⟨v, fun w' hw' => ?_, hK _ h⟩
    have e : (execOp a.eval ⟨dst, .call { callee := .value (.func f), args := xs.toArray, argTypes := ts }, ty, pos, aft, gd⟩).run P w' = .ok (.enter f vs.toArray) w' := by
      unfold execOp resolve
      simp only [List.map_toArray, hvs, Act.eval, Deferred.ofValue, Sem.run_bind, Sem.run_pure, Result.andThen_ok, invoke, Array.append_empty, Array.empty_append]
      exact hcf _ _
    unfold Oper.quietAt
    rw [e]
    exact ⟨rfl, hc w' hw'⟩
theorem run_mul {w : World} (T : TypeId) (m n r : Int) (hr : m * n = r) (h : -9223372036854775808 ≤ r ∧ r ≤ 9223372036854775807) : (binOp .mul T (.int .i64 m) (.int .i64 n)).run P w = .ok (.int .i64 r) w := by
  have hw := IntWalk.i64_in r h
  rw [← hr] at hw ⊢
  simp [binOp, Op.intArith]
  exact hw
theorem run_add {w : World} (T : TypeId) (m n r : Int) (hr : m + n = r) (h : -9223372036854775808 ≤ r ∧ r ≤ 9223372036854775807) : (binOp .add T (.int .i64 m) (.int .i64 n)).run P w = .ok (.int .i64 r) w := by
  have hw := IntWalk.i64_in r h
  rw [← hr] at hw ⊢
  simp [binOp, Op.intArith]
  exact hw
theorem run_sub {w : World} (T : TypeId) (m n r : Int) (hr : m - n = r) (h : -9223372036854775808 ≤ r ∧ r ≤ 9223372036854775807) : (binOp .sub T (.int .i64 m) (.int .i64 n)).run P w = .ok (.int .i64 r) w := by
  have hw := IntWalk.i64_in r h
  rw [← hr] at hw ⊢
  simp [binOp, Op.intArith]
  exact hw
theorem q_mul (T : TypeId) (x y : Operand) (yt : TypeId) (m n r : Int) (hx : a.eval x = .int .i64 m) (hy : a.eval y = .int .i64 n) (hr : m * n = r) (h0 : -9223372036854775808 ≤ r ∧ r ≤ 9223372036854775807)
    (hwt : Region.wanted ⟨dst, .binOp .mul T x y yt, ty, pos, aft, gd⟩ (yielded ops a.tmps) = true)
    (h : wpQuiet P ops C Q rest (a.put dst (.int .i64 r))) : wpQuiet P ops C Q (⟨dst, .binOp .mul T x y yt, ty, pos, aft, gd⟩ :: rest) a :=
  q_take (.int .i64 r) hwt (fun w' _ => by
    unfold execOp
    simp only [hx, hy, eqGuard_mul, Sem.run_bind, Sem.run_pure, Result.andThen_ok, run_mul T m n r hr h0]) h
theorem q_add (T : TypeId) (x y : Operand) (yt : TypeId) (m n r : Int) (hx : a.eval x = .int .i64 m) (hy : a.eval y = .int .i64 n) (hr : m + n = r) (h0 : -9223372036854775808 ≤ r ∧ r ≤ 9223372036854775807)
    (hwt : Region.wanted ⟨dst, .binOp .add T x y yt, ty, pos, aft, gd⟩ (yielded ops a.tmps) = true)
    (h : wpQuiet P ops C Q rest (a.put dst (.int .i64 r))) : wpQuiet P ops C Q (⟨dst, .binOp .add T x y yt, ty, pos, aft, gd⟩ :: rest) a :=
  q_take (.int .i64 r) hwt (fun w' _ => by
    unfold execOp
    simp only [hx, hy, eqGuard_add, Sem.run_bind, Sem.run_pure, Result.andThen_ok, run_add T m n r hr h0]) h
theorem q_sub (T : TypeId) (x y : Operand) (yt : TypeId) (m n r : Int) (hx : a.eval x = .int .i64 m) (hy : a.eval y = .int .i64 n) (hr : m - n = r) (h0 : -9223372036854775808 ≤ r ∧ r ≤ 9223372036854775807)
    (hwt : Region.wanted ⟨dst, .binOp .sub T x y yt, ty, pos, aft, gd⟩ (yielded ops a.tmps) = true)
    (h : wpQuiet P ops C Q rest (a.put dst (.int .i64 r))) : wpQuiet P ops C Q (⟨dst, .binOp .sub T x y yt, ty, pos, aft, gd⟩ :: rest) a :=
  q_take (.int .i64 r) hwt (fun w' _ => by
    unfold execOp
    simp only [hx, hy, eqGuard_sub, Sem.run_bind, Sem.run_pure, Result.andThen_ok, run_sub T m n r hr h0]) h
theorem run_quo {w : World} (T : TypeId) (m n : Nat) (hn : 0 < n) (hm : m ≤ 9223372036854775807) : (binOp .quo T (.int .i64 m) (.int .i64 n)).run P w = .ok (.int .i64 (m / n : Nat)) w := by
  have hn0 : ¬ n = 0 := by omega
  have hw := IntWalk.i64_quo (m : Int) (n : Int) ⟨by omega, by omega, by omega⟩
  have e : ((m / n : Nat) : Int) = (m : Int) / (n : Int) := by simp
  rw [e]
  simp [binOp, Op.intDiv, hn0]
  exact hw
theorem run_rem {w : World} (T : TypeId) (m n : Nat) (hn : 0 < n) : (binOp .rem T (.int .i64 m) (.int .i64 n)).run P w = .ok (.int .i64 (m % n : Nat)) w := by
  have hn0 : ¬ n = 0 := by omega
  have e : ((m % n : Nat) : Int) = (m : Int).tmod (n : Int) := rfl
  rw [e]
  simp [binOp, Op.intDiv, hn0]
theorem q_quo (T : TypeId) (x y : Operand) (yt : TypeId) (m n : Nat) (hx : a.eval x = .int .i64 m) (hy : a.eval y = .int .i64 n) (hn : 0 < n) (hm : m ≤ 9223372036854775807)
    (hwt : Region.wanted ⟨dst, .binOp .quo T x y yt, ty, pos, aft, gd⟩ (yielded ops a.tmps) = true)
    (h : wpQuiet P ops C Q rest (a.put dst (.int .i64 (m / n : Nat)))) : wpQuiet P ops C Q (⟨dst, .binOp .quo T x y yt, ty, pos, aft, gd⟩ :: rest) a :=
  q_take (.int .i64 (m / n : Nat)) hwt (fun w' _ => by
    unfold execOp
    simp only [hx, hy, eqGuard_quo, Sem.run_bind, Sem.run_pure, Result.andThen_ok, run_quo T m n hn hm]) h
theorem q_rem (T : TypeId) (x y : Operand) (yt : TypeId) (m n : Nat) (hx : a.eval x = .int .i64 m) (hy : a.eval y = .int .i64 n) (hn : 0 < n)
    (hwt : Region.wanted ⟨dst, .binOp .rem T x y yt, ty, pos, aft, gd⟩ (yielded ops a.tmps) = true)
    (h : wpQuiet P ops C Q rest (a.put dst (.int .i64 (m % n : Nat)))) : wpQuiet P ops C Q (⟨dst, .binOp .rem T x y yt, ty, pos, aft, gd⟩ :: rest) a :=
  q_take (.int .i64 (m % n : Nat)) hwt (fun w' _ => by
    unfold execOp
    simp only [hx, hy, eqGuard_rem, Sem.run_bind, Sem.run_pure, Result.andThen_ok, run_rem T m n hn]) h
/-- The run of a load of a whole block. -/
theorem e_load_row {w : World} (T : TypeId) (x : Operand) (B : Nat) (t : TypeId) (cs : Array Value) (d : TypeDesc) (hx : a.eval x = .pointer (some ⟨B, 0, none⟩)) (hg : Blk w B cs t)
    (hu : P.underlying T = some d) (hd : (match d with | .struct _ | .array _ _ => true | _ => false) = true) (hi : (P.info? T).map (·.size) = some cs.size) :
    (execOp a.eval ⟨dst, .load T x, ty, pos, aft, gd⟩).run P w = .ok (.value (.agg cs)) w := by
  unfold execOp Instr.loadAt
  simp only [hx, Instr.sureAddr, Sem.run_bind, Sem.run_pure, Result.andThen_ok, run_loadVar_row w B t T cs (0, 0) d hg hu hd hi]
end

section
variable {P : Program} {w : World} {ops : Array Oper} {rest : List Oper} {a : Act} {Q : Exit → Act → World → Prop} {dst : Option Tmp} {ty : TypeId} {pos : String} {aft : Array Edge} {gd : Option (Nat × Bool)}
/-- A conversion whose run is known. -/
theorem r_conv (src dt : TypeId) (x : Operand) (v u : Value) (hx : a.eval x = v) (hr : (convert src dt v).run P w = .ok u w)
    (hgd : Region.wanted ⟨dst, .convert src dt x, ty, pos, aft, gd⟩ (yielded ops a.tmps) = true) (h : wpList P ops Q rest (a.put dst u) w) : wpList P ops Q (⟨dst, .convert src dt x, ty, pos, aft, gd⟩ :: rest) a w :=
  wpList_want hgd fun _ hK => by
    unfold Oper.wp execOp
    simp only [hx, Sem.run_bind, hr, Result.andThen_ok, Sem.run_pure, Oper.upon]
    exact hK _ _ h
theorem r_make (t e : TypeId) (z : Value) (size bytes : Nat) (I : ElemInfo P t e z size bytes) (x y : Operand) (n : Nat)
    (hx : a.eval x = .int .i64 n) (hy : a.eval y = .int .i64 n) (hcells : n * size ≤ 16777216) (hbytes : bytes * n ≤ 281474976710656) (h63 : n ≤ 9223372036854775807)
    (hgd : Region.wanted ⟨dst, .makeSlice t x y, ty, pos, aft, gd⟩ (yielded ops a.tmps) = true)
    (h : ∀ w1 B, New w w1 B (madeCells z.cells (n * size)) e → wpList P ops Q rest (a.put dst (.slice (some ⟨B, 0, none⟩) n n)) w1) : wpList P ops Q (⟨dst, .makeSlice t x y, ty, pos, aft, gd⟩ :: rest) a w :=
  wpList_want hgd fun _ hK => by
    obtain ⟨i, hi, hz, hsize, hby⟩ := info_parts I.info
    subst hsize hby
    have hr := run_makeSlice w t e i z I.under hi hz .i64 .i64 n n (by omega) (Int.le_refl _) (by rw [Int.toNat_natCast]; exact hcells) (by rw [← Int.natCast_mul]; omega) (by omega)
    simp only [Int.toNat_natCast] at hr
    unfold Oper.wp execOp
    simp only [hx, hy, Sem.run_bind, hr, Result.andThen_ok, Sem.run_pure, Oper.upon]
    exact hK _ _ (h _ _ (New.mk' w _ e))
/-- One cell of a row of our own is written. -/
theorem r_store_own (T e : TypeId) (p x : Operand) (g j n cap base : Nat) (xs : List Value) (hp : a.eval p = .pointer (some ⟨g, j, none⟩)) (u : Value) (hx : a.eval x = u)
    (hr : w.ownsRow base e 1 (.slice (some ⟨g, 0, none⟩) n cap) n xs) (hj : j < n) (hs : ∀ w, (sizeOf T).run P w = .ok 1 w) (h1 : u.oneCell' = true)
    (hgd : Region.wanted ⟨dst, .store T p x, ty, pos, aft, gd⟩ (yielded ops a.tmps) = true)
    (h : ∀ w1, Upd g w w1 → w1.ownsRow base e 1 (.slice (some ⟨g, 0, none⟩) n cap) n (xs.set j u) → wpList P ops Q rest (a.put dst undef) w1) : wpList P ops Q (⟨dst, .store T p x, ty, pos, aft, gd⟩ :: rest) a w := by
  rcases hr.2 with ⟨h', _⟩ | ⟨g', cap', cur, h', hb, hg, hnc, hcm, hcs, htake⟩
  · cases h'
  · simp only [Value.slice.injEq, Option.some.injEq, Addr.mk.injEq, and_true, true_and] at h'
    obtain ⟨rfl, rfl⟩ := h'
    refine r_store_cell T e p x g j hp u hx cur hg (by simp only [Nat.mul_one] at hcs; omega) hs h1 hgd fun w1 u1 b1 => h w1 u1 ?_
    refine ⟨by simpa using hr.1, .inr ⟨g, cap, cur.setIfInBounds j u, rfl, hb, b1, hnc, hcm, by simpa using hcs, ?_⟩⟩
    rw [Array.toList_setIfInBounds, ← htake, List.take_set]
end
end Go.Proofs.YthjkeohnjggmiaaDoor
