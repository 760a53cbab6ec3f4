/-
  The laws' helpers on lists of lists of numbers: compared, marked, and held.
  Rules of my own: appending what a slice reads, be it nil or not, and cutting a row of one-cell elements in two.
-/
import Derived.Test.YtmjmjibokombiaaBLs
import Derived.Test.YtmjmjibokombiaaBMv
import Derived.Test.YtmjmjibokombiaaBWd
namespace Go.Proofs.Ytmjmjibokombiaa
open Go.RowKit
/-- The mark at which row j begins. -/
def kAt (L : List (List Int)) (k j : Nat) : Nat := k + ((L.take j).map List.length).sum
theorem kAt_zero (L : List (List Int)) (k : Nat) : kAt L k 0 = k := rfl
theorem kAt_succ {L : List (List Int)} {l : List Int} (k j : Nat) (h : L[j]? = some l) : kAt L k (j + 1) = kAt L k j + l.length := by
  unfold kAt
  rw [List.take_add_one, h]
  simp [Nat.add_assoc]
theorem ret_int2 {a b : Nat} (h : a = b) : Ending.returned (.int .i64 (a : Nat)) = .returned (.int .i64 (b : Nat)) := by rw [h]
def total (L : List (List Int)) : Nat := (L.map List.length).sum
theorem kAt_le (L : List (List Int)) (k j : Nat) : kAt L k j ≤ k + total L := by
  unfold kAt total
  have h : (L.map List.length).sum = ((L.take j).map List.length).sum + ((L.drop j).map List.length).sum := by
    conv => lhs; rw [← List.take_append_drop j L]
    rw [List.map_append, List.sum_append]
  omega
theorem kAt_end (L : List (List Int)) (k : Nat) : kAt L k L.length = k + total L := by
  unfold kAt total; rw [List.take_length]
theorem len_le_total {L : List (List Int)} {l : List Int} {j : Nat} (h : L[j]? = some l) : l.length ≤ total L := by
  have h1 := kAt_succ 0 j h
  have h2 := kAt_le L 0 (j + 1)
  have h3 := kAt_le L 0 j
  omega
/-- The rows of a list of lists: each in memory of its own; the first j of them hold marks. -/
structure RowsK (T : TypeId) (base : Nat) (L : List (List Int)) (k j : Nat) (vs : List Value) (w : World) : Prop where
  at' : ∀ i l, L[i]? = some l → ∃ v, vs[i]? = some v ∧ w.ownsRow base T 1 v l.length (intsV (if i < j then marks (kAt L k i) l.length else l))
  ap : ∀ (i i' : Nat) (v u : Value), vs[i]? = some v → vs[i']? = some u → i ≠ i' → v.ownBlock = none ∨ v.ownBlock ≠ u.ownBlock
theorem RowsK.nil (T : TypeId) (base k j : Nat) (w : World) : RowsK T base [] k j [] w := ⟨fun i l h => (by cases h), fun i i' v u h => (by cases h)⟩
theorem RowsK.gr {T : TypeId} {base : Nat} {L : List (List Int)} {k j : Nat} {vs : List Value} {w w' : World} (h : RowsK T base L k j vs w) (g : Gr w w') : RowsK T base L k j vs w' :=
  ⟨fun i l hl => by obtain ⟨v, hv, ho⟩ := h.at' i l hl; exact ⟨v, hv, g.row ho⟩, h.ap⟩
theorem RowsK.grb {T e : TypeId} {base : Nat} {L : List (List Int)} {k j : Nat} {vs : List Value} {w w' : World} {b s n : Nat} {o : Value} {xs : List Value} (h : RowsK T base L k j vs w) (ho : w.ownsRow b e s o n xs) (he : T ≠ e) (g : Grb o.ownBlock w w') : RowsK T base L k j vs w' :=
  ⟨fun i l hl => by obtain ⟨v, hv, h1⟩ := h.at' i l hl; exact ⟨v, hv, g.row h1 (own_ne2 h1 ho he)⟩, h.ap⟩
theorem RowsK.upd {T T' : TypeId} {base : Nat} {L : List (List Int)} {k j : Nat} {vs : List Value} {w w' : World} {B : Nat} {cs : Array Value} (h : RowsK T base L k j vs w) (hb : Blk w B cs T') (hT : T' ≠ T) (u : Upd B w w') : RowsK T base L k j vs w' :=
  ⟨fun i l hl => by obtain ⟨v, hv, h1⟩ := h.at' i l hl; exact ⟨v, hv, u.row h1 (own_ne h1 hb hT)⟩, h.ap⟩
theorem RowsK.up {T : TypeId} {base b0 : Nat} {L : List (List Int)} {k j : Nat} {vs : List Value} {w : World} (h : RowsK T base L k j vs w) (hb : b0 ≤ base) : RowsK T b0 L k j vs w :=
  ⟨fun i l hl => by obtain ⟨v, hv, ho⟩ := h.at' i l hl; exact ⟨v, hv, own_up ho hb⟩, h.ap⟩
/-- One row more, in memory that is new. -/
theorem RowsK.snoc {T : TypeId} {base k : Nat} {L : List (List Int)} {vs : List Value} {w : World} {l : List Int} {v : Value} (h : RowsK T base L k 0 vs w) (hn : vs.length = L.length) (ho : w.ownsRow base T 1 v l.length (intsV l)) (hv : ∀ u ∈ vs, u.ownBlock = none ∨ u.ownBlock ≠ v.ownBlock) : RowsK T base (L ++ [l]) k 0 (vs ++ [v]) w := by
  refine ⟨fun i l' hl => ?_, fun i i' u u' hu hu' hne => ?_⟩
  · rcases Nat.lt_trichotomy i L.length with hi | hi | hi
    · rw [List.getElem?_append_left hi] at hl
      obtain ⟨x, hx, hox⟩ := h.at' i l' hl
      refine ⟨x, by rw [List.getElem?_append_left (by omega)]; exact hx, ?_⟩
      rw [if_neg (Nat.not_lt_zero _)] at hox ⊢
      exact hox
    · subst hi
      rw [List.getElem?_append_right (Nat.le_refl _), Nat.sub_self] at hl
      obtain rfl : l = l' := by simpa using hl
      refine ⟨v, by rw [List.getElem?_append_right (by omega)]; simp [hn], ?_⟩
      rw [if_neg (Nat.not_lt_zero _)]
      exact ho
    · rw [List.getElem?_eq_none (by simp; omega)] at hl
      cases hl
  · have key : ∀ m x, (vs ++ [v])[m]? = some x → (m < vs.length ∧ vs[m]? = some x) ∨ (m = vs.length ∧ x = v) := by
      intro m x hx
      rcases Nat.lt_trichotomy m vs.length with hm | hm | hm
      · rw [List.getElem?_append_left hm] at hx; exact .inl ⟨hm, hx⟩
      · subst hm
        rw [List.getElem?_append_right (Nat.le_refl _), Nat.sub_self] at hx
        exact .inr ⟨rfl, by simpa using hx.symm⟩
      · rw [List.getElem?_eq_none (by simp; omega)] at hx; cases hx
    rcases key i u hu with ⟨h1, h2⟩ | ⟨h1, rfl⟩
    · rcases key i' u' hu' with ⟨h3, h4⟩ | ⟨h3, rfl⟩
      · exact h.ap i i' u u' h2 h4 hne
      · exact hv u (List.mem_of_getElem? h2)
    · rcases key i' u' hu' with ⟨h3, h4⟩ | ⟨h3, rfl⟩
      · rcases hv u' (List.mem_of_getElem? h4) with e | e
        · cases hb : u.ownBlock with
          | none => exact .inl rfl
          | some x => exact .inr (by rw [e]; simp)
        · exact .inr (fun e' => e e'.symm)
      · omega
theorem RowsK.mark {T : TypeId} {base : Nat} {L : List (List Int)} {k j : Nat} {vs : List Value} {w w' : World} {l : List Int} {v : Value} (h : RowsK T base L k j vs w) (hl : L[j]? = some l) (hv : vs[j]? = some v) (g : Grb v.ownBlock w w') (ho : w'.ownsRow base T 1 v l.length (intsV (marks (kAt L k j) l.length))) : RowsK T base L k (j + 1) vs w' := by
  refine ⟨fun i l' hl' => ?_, h.ap⟩
  by_cases e : i = j
  · subst e
    rw [hl] at hl'
    cases hl'
    exact ⟨v, hv, by rw [if_pos (by omega)]; exact ho⟩
  · obtain ⟨u, hu, hou⟩ := h.at' i l' hl'
    refine ⟨u, hu, ?_⟩
    have h2 := g.row hou (h.ap i j u v hu hv e)
    by_cases hlt : i < j
    · rw [if_pos hlt] at h2; rw [if_pos (by omega)]; exact h2
    · rw [if_neg hlt] at h2; rw [if_neg (by omega)]; exact h2
theorem own_val {w : World} {base : Nat} {e : TypeId} {g n cap : Nat} {xs : List Value} (hr : w.ownsRow base e 1 (.slice (some ⟨g, 0, none⟩) n cap) n xs) (j : Nat) (v : Value) (hj : j < n) (hv : xs[j]? = some v) : w.cell? ⟨g, j, none⟩ = some v := by
  rw [hr.cellAt j (by omega)]; exact hv
/-- It returns a list of lists, all of it in new memory. -/
def RetSS (TO TI : TypeId) (L : List (List Int)) (ok : Bool) (w : World) (e : Ending) (w' : World) : Prop :=
  Gr w w' ∧ ∃ v vs, e = .returned (.tuple #[v, .bool ok]) ∧ w'.ownsRow w.heap.size TO 1 v L.length vs ∧ RowsK TI w.heap.size L 1 0 vs w'
def RetSS1 (TO TI : TypeId) (L : List (List Int)) (w : World) (e : Ending) (w' : World) : Prop :=
  Gr w w' ∧ ∃ v vs, e = .returned v ∧ w'.ownsRow w.heap.size TO 1 v L.length vs ∧ RowsK TI w.heap.size L 1 0 vs w'
theorem Try.ssix (B n cap x : Nat) (hx : x < n) (w : World) : (Instr.indexAt 48 (.slice (some ⟨B, 0, none⟩) n cap) (.int .i64 x)).run Try.prog w = .ok (.pointer (some ⟨B, x, none⟩)) w := by
  have hu : Try.prog.underlying 48 = some (.slice (Try.prog.elem 48)) := by kernel_rfl
  have he : Try.prog.elem 48 = 34 := by kernel_rfl
  rw [run_indexAt_slice w 48 ⟨B, 0, none⟩ n cap .i64 x hu, if_pos (by omega), he]
  simp [Try.sizeOf34, Result.andThen, Addr.add]
  exact fun h => h.symm
theorem Try.intSSI : ElemInfo Try.prog 48 34 (.slice none 0 0) 1 24 := ⟨Try.underlying48, by kernel_rfl, rfl, by decide⟩
theorem Try.bssi1 (p : Option Addr) (n k : Nat) (w : World) : (Instr.buildSlice 48 1 #[(0, .slice p n k)]).run Try.prog w = .ok (.slice (some ⟨w.heap.size, 0, none⟩) 1 1) (w.alloc (.cells #[.slice p n k] 34)) := by kernel_rfl
end Go.Proofs.Ytmjmjibokombiaa
namespace Go.Proofs.Ytmjmjibokombiaa
open Go.RowKit
/-- What a slice of m one-cell elements reads. -/
def Rd (w : World) (A : Option Addr) (m : Nat) (news : List Value) : Prop :=
  news.length = m ∧ (0 < m → ∃ ad, A = some ad ∧ ∀ j u, news[j]? = some u → w.cell? (ad.add j) = some u)
theorem Rd.gr {w w' : World} {A : Option Addr} {m : Nat} {news : List Value} (h : Rd w A m news) (g : Gr w w') : Rd w' A m news :=
  ⟨h.1, fun hm => by obtain ⟨ad, e, hc⟩ := h.2 hm; exact ⟨ad, e, fun j u hu => g.cell (hc j u hu)⟩⟩
theorem add_zero' (a : Addr) : a.add 0 = a := by unfold Addr.add; simp
theorem add_flat (g k : Nat) : (⟨g, 0, none⟩ : Addr).add k = ⟨g, k, none⟩ := by
  simp [Addr.add]
  exact fun h => h.symm
theorem add_off (g o k : Nat) : (⟨g, o, none⟩ : Addr).add k = ⟨g, o + k, none⟩ := by
  unfold Addr.add
  by_cases h : k = 0
  · subst h; simp
  · simp [h]
theorem Rd.of_own {w : World} {base : Nat} {e : TypeId} {p : Option Addr} {n cap : Nat} {xs : List Value} (h : w.ownsRow base e 1 (.slice p n cap) n xs) : Rd w p n xs := by
  have hl := h.1
  refine ⟨by omega, fun hn => ?_⟩
  obtain ⟨g, c, e, -, -⟩ := own_shape h hn
  cases e
  exact ⟨_, rfl, fun j u hu => by
    have hj : j < n := by
      rcases Nat.lt_or_ge j n with h' | h'
      · exact h'
      · rw [List.getElem?_eq_none (by omega)] at hu; cases hu
    rw [add_flat]; exact own_val h j u hj hu⟩
theorem Rd.take {w : World} {p : Option Addr} {n : Nat} {xs : List Value} (h : Rd w p n xs) {q : Nat} (hq : q ≤ n) : Rd w p q (xs.take q) := by
  refine ⟨by rw [List.length_take, h.1]; omega, fun h0 => ?_⟩
  obtain ⟨ad, e, hc⟩ := h.2 (by omega)
  refine ⟨ad, e, fun j u hu => hc j u ?_⟩
  rw [List.getElem?_take] at hu
  split at hu
  · exact hu
  · cases hu
theorem Rd.drop {w : World} {base : Nat} {e : TypeId} {p : Option Addr} {n cap : Nat} {xs : List Value} (h : w.ownsRow base e 1 (.slice p n cap) n xs) {q : Nat} (hq : q ≤ n) : Rd w (if cap = q then p else p.map (·.add (q * 1))) (n - q) (xs.drop q) := by
  have hl := h.1
  refine ⟨by rw [List.length_drop]; omega, fun h0 => ?_⟩
  obtain ⟨g, c, e, -, hcap⟩ := own_shape h (by omega)
  cases e
  rw [if_neg (by omega)]
  refine ⟨_, rfl, fun j u hu => ?_⟩
  rw [List.getElem?_drop] at hu
  have hj : q + j < n := by
    rcases Nat.lt_or_ge (q + j) n with h' | h'
    · exact h'
    · rw [List.getElem?_eq_none (by omega)] at hu; cases hu
  show w.cell? (((⟨g, 0, none⟩ : Addr).add (q * 1)).add j) = some u
  rw [add_flat, Nat.mul_one, add_off]
  exact own_val h (q + j) u hj hu
section
variable {P : Program} {w : World} {ops : Array Oper} {rest : List Oper} {a : Act} {Q : Exit → Act → World → Prop} {dst : Option Tmp} {ty : TypeId} {pos : String} {aft : Array Edge} {gd : Option (Nat × Bool)}
theorem r_append_any (s x : Operand) (t e : TypeId) (z : Value) (bytes base : Nat) (I : ElemInfo P t e z 1 bytes)
    (v : Value) (n : Nat) (xs : List Value) (hs : a.eval s = v) (hown : w.ownsRow base e 1 v n xs)
    (A : Option Addr) (m c : Nat) (news : List Value) (hx : a.eval x = .slice A m c) (hr : Rd w A m news) (h1 : ∀ u ∈ news, u.oneCell' = true)
    (h63 : n + m ≤ 1073741824) (hbytes : bytes ≤ 65536) (hbase : base ≤ w.heap.size)
    (hgd : Region.wanted ⟨dst, .call { callee := .builtin .append, args := #[s, x], argTypes := #[t, t] }, ty, pos, aft, gd⟩ (yielded ops a.tmps) = true)
    (h : ∀ v' w', w'.ownsRow base e 1 v' (n + m) (xs ++ news) → Grb v.ownBlock w w' → wpList P ops Q rest (a.put dst v') w') :
    wpList P ops Q (⟨dst, .call { callee := .builtin .append, args := #[s, x], argTypes := #[t, t] }, ty, pos, aft, gd⟩ :: rest) a w := by
  rcases A with _ | ad
  · have hm : m = 0 := by
      rcases Nat.eq_zero_or_pos m with h0 | h0
      · exact h0
      · obtain ⟨ad, e, _⟩ := hr.2 h0; cases e
    subst hm
    have hn : news = [] := List.eq_nil_of_length_eq_zero hr.1
    subst hn
    obtain ⟨i, hi, hz, hsize, hby⟩ := info_parts I.info
    refine wpList_want hgd fun _ hK => ?_
    have hrun : (Builtin.append_ #[t, t] ty #[v, .slice none 0 c]).run P w = .ok v w := by
      rcases hown.2 with ⟨rfl, rfl⟩ | ⟨g, cap, cur, rfl, _, _, hnc, _⟩
      · simp [Builtin.append_, run_underlying I.under, sizeOf, typeInfo, hi, Builtin.lenOf, Builtin.firstCells]
      · simp [Builtin.append_, run_underlying I.under, sizeOf, typeInfo, hi, Builtin.lenOf, Builtin.firstCells, hnc, storeCells]
    unfold Oper.wp execOp
    simp only [resolve, invoke, builtin, Sem.run_bind, Sem.run_pure, Result.andThen_ok, List.map_toArray, List.map_cons, List.map_nil, hs, hx, hrun]
    exact hK _ _ (h v w (by simpa using hown) (Grb.refl _ _))
  · refine r_append s x t e z 1 bytes base I v n xs hs hown ad m c news hx (by rw [hr.1, Nat.mul_one]) (fun j u hu => ?_) h1 h63 hbytes hbase hgd h
    have hm : 0 < m := by
      rcases Nat.eq_zero_or_pos m with h0 | h0
      · have := hr.1
        rw [List.getElem?_eq_none (by omega)] at hu; cases hu
      · exact h0
    obtain ⟨ad', e, hc⟩ := hr.2 hm
    cases e
    exact hc j u hu
theorem r_cut_hi (T : TypeId) (x y : Operand) (v i u : Value) (hx : a.eval x = v) (hy : a.eval y = i) (hr : (Instr.sliceAt T v none (some i) none).run P w = .ok u w)
    (hgd : Region.wanted ⟨dst, .slice T x none (some y) none, ty, pos, aft, gd⟩ (yielded ops a.tmps) = true) (h : wpList P ops Q rest (a.put dst u) w) : wpList P ops Q (⟨dst, .slice T x none (some y) none, ty, pos, aft, gd⟩ :: rest) a w :=
  wpList_want hgd fun _ hK => by
    unfold Oper.wp execOp
    simp only [hx, hy, Option.map_some, Option.map_none, Sem.run_bind, hr, Result.andThen_ok, Sem.run_pure, Oper.upon]
    exact hK _ _ h
theorem r_cut_lo (T : TypeId) (x y : Operand) (v i u : Value) (hx : a.eval x = v) (hy : a.eval y = i) (hr : (Instr.sliceAt T v (some i) none none).run P w = .ok u w)
    (hgd : Region.wanted ⟨dst, .slice T x (some y) none none, ty, pos, aft, gd⟩ (yielded ops a.tmps) = true) (h : wpList P ops Q rest (a.put dst u) w) : wpList P ops Q (⟨dst, .slice T x (some y) none none, ty, pos, aft, gd⟩ :: rest) a w :=
  wpList_want hgd fun _ hK => by
    unfold Oper.wp execOp
    simp only [hx, hy, Option.map_some, Option.map_none, Sem.run_bind, hr, Result.andThen_ok, Sem.run_pure, Oper.upon]
    exact hK _ _ h
end
section
variable {P : Program} {w : World} {ops : Array Oper} {rest : List Oper} {a : Act} {Q : Exit → Act → World → Prop} {dst : Option Tmp} {ty : TypeId} {pos : String} {aft : Array Edge} {gd : Option (Nat × Bool)}
/-- A call by its contract, where what it returns is not known ahead. -/
theorem r_callx (f : FuncId) (xs : List Operand) (ts : Array TypeId) (vs : List Value) (Post : Value → World → Prop) (hcf : ∀ args w, (callFunc f args).run P w = .ok (.enter f args) w) (hvs : xs.map a.eval = vs)
    (hgd : Region.wanted ⟨dst, .call { callee := .value (.func f), args := xs.toArray, argTypes := ts }, ty, pos, aft, gd⟩ (yielded ops a.tmps) = true)
    (hc : Calls P f vs.toArray w fun e w' => ∃ v, e = .returned v ∧ Post v w')
    (h : ∀ v w', Post v w' → wpList P ops Q rest (a.put dst v) w') : wpList P ops Q (⟨dst, .call { callee := .value (.func f), args := xs.toArray, argTypes := ts }, ty, pos, aft, gd⟩ :: rest) a w :=
  wpList_want hgd fun _ hK => by
    have e : (execOp a.eval ⟨dst, .call { callee := .value (.func f), args := xs.toArray, argTypes := ts }, ty, pos, aft, gd⟩).run P w = .ok (.enter f vs.toArray) w := by
      unfold execOp resolve
      simp only [List.map_toArray, hvs, Act.eval, Deferred.ofValue, Sem.run_bind, Sem.run_pure, Result.andThen_ok, invoke, Array.append_empty, Array.empty_append]
      exact hcf _ _
    unfold Oper.wp
    rw [e]
    exact hc.mono fun e w'' ⟨v, he, hp⟩ => by
      subst he
      exact hK _ _ (h _ _ hp)
end
theorem Try.sscut (p : Option Addr) (n cap q : Nat) (hq : q ≤ cap) (w : World) : (Instr.sliceAt 48 (.slice p n cap) none (some (.int .i64 q)) none).run Try.prog w = .ok (.slice p q cap) w := by
  have hu : Try.prog.underlying 48 = some (.slice (Try.prog.elem 48)) := by kernel_rfl
  have he : Try.prog.elem 48 = 34 := by kernel_rfl
  rw [run_sliceAt_slice w 48 _ _ _ _ hu, run_slice_h w 48 p n cap hu .i64 q (by omega) (by omega), he]
  simp [Try.sizeOf34, Result.andThen, sliced]
  intro _
  cases p with
  | none => rfl
  | some ad => simp [add_zero']
theorem Try.ssfrom (p : Option Addr) (n cap q : Nat) (hq : q ≤ n) (w : World) : (Instr.sliceAt 48 (.slice p n cap) (some (.int .i64 q)) none none).run Try.prog w = .ok (.slice (if cap = q then p else p.map (·.add (q * 1))) (n - q) (cap - q)) w := by
  have hu : Try.prog.underlying 48 = some (.slice (Try.prog.elem 48)) := by kernel_rfl
  have he : Try.prog.elem 48 = 34 := by kernel_rfl
  rw [run_sliceAt_slice w 48 _ _ _ _ hu, run_slice_l w 48 p n cap hu .i64 q (by omega) (by omega), he]
  simp [Try.sizeOf34, Result.andThen, sliced]
theorem Try.bss0 (w : World) : (Instr.buildSlice 48 0 #[]).run Try.prog w = .ok (.slice (some ⟨w.heap.size, 0, none⟩) 0 0) (w.alloc (.cells #[] 34)) := by kernel_rfl
end Go.Proofs.Ytmjmjibokombiaa
