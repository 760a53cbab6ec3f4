/-
  Rows of structs: rows of m cells each, laid one behind the other; a cell read, a cell written, a row put behind; and the loads and stores that go with them.
-/
import Derived.Test.YtpdmfbhjneodeaaGreatDoorBKit
import Derived.Test.YtpdmfbhjneodeaaGreatDoorBKit
import Derived.Deep.MidRow
import Derived.Laws.OwnMore
namespace Go.Proofs.YtpdmfbhjneodeaaGreatDoor
open Go.RowKit
/-- All rows have m cells. -/
def Wide (m : Nat) (L : List (List Value)) : Prop := ∀ r ∈ L, r.length = m
theorem flat_len {m : Nat} : ∀ {L : List (List Value)}, Wide m L → L.flatten.length = L.length * m
  | [], _ => by simp
  | r :: L, h => by
    rw [List.flatten_cons, List.length_append, flat_len (fun x hx => h x (by simp [hx])), h r (by simp), List.length_cons, Nat.add_mul]
    omega
theorem flat_get {m i : Nat} (hi : i < m) : ∀ {L : List (List Value)} (j : Nat), Wide m L → j < L.length → L.flatten[j * m + i]? = (L.getD j [])[i]?
  | [], j, _, hj => absurd hj (Nat.not_lt_zero _)
  | r :: L, 0, h, _ => by
    rw [List.flatten_cons, Nat.zero_mul, Nat.zero_add, List.getElem?_append_left (by rw [h r (by simp)]; exact hi)]
    rfl
  | r :: L, j + 1, h, hj => by
    have hr := h r (by simp)
    rw [List.flatten_cons, List.getElem?_append_right (by rw [hr, Nat.add_mul]; omega), hr, show (j + 1) * m + i - m = j * m + i by rw [Nat.add_mul]; omega,
      flat_get hi j (fun x hx => h x (by simp [hx])) (by simpa using hj)]
    rfl
theorem flat_set {m i : Nat} (hi : i < m) (v : Value) : ∀ {L : List (List Value)} (j : Nat), Wide m L → j < L.length → L.flatten.set (j * m + i) v = (L.set j ((L.getD j []).set i v)).flatten
  | [], j, _, hj => absurd hj (Nat.not_lt_zero _)
  | r :: L, 0, h, _ => by
    rw [List.flatten_cons, Nat.zero_mul, Nat.zero_add, List.set_append_left _ _ (by rw [h r (by simp)]; exact hi)]
    rfl
  | r :: L, j + 1, h, hj => by
    have hr := h r (by simp)
    rw [List.flatten_cons, List.set_append_right _ _ (by rw [hr, Nat.add_mul]; omega), hr, show (j + 1) * m + i - m = j * m + i by rw [Nat.add_mul]; omega,
      flat_set hi v j (fun x hx => h x (by simp [hx])) (by simpa using hj)]
    rfl
section
variable {w : World} {base : Nat} {e : TypeId} {m g n cap : Nat} {L : List (List Value)}
theorem own_flat_at (hr : w.ownsRow base e m (.slice (some ⟨g, 0, none⟩) n cap) n L.flatten) (hW : Wide m L) (hn : L.length = n) {j i : Nat} (hj : j < n) (hi : i < m) : w.cell? ⟨g, j * m + i, none⟩ = (L.getD j [])[i]? := by
  have hlt : j * m + i < n * m := by
    have : (j + 1) * m ≤ n * m := Nat.mul_le_mul_right m hj
    rw [Nat.add_mul] at this
    omega
  rw [hr.cellAt _ hlt]
  exact flat_get hi j hW (by omega)
/-- The cells of a part of row j. -/
theorem own_flat_range (hr : w.ownsRow base e m (.slice (some ⟨g, 0, none⟩) n cap) n L.flatten) (hW : Wide m L) (hn : L.length = n) {j o : Nat} (hj : j < n) {cs : List Value} (ho : o + cs.length ≤ m)
    (hcs : ∀ i, i < cs.length → (L.getD j [])[o + i]? = cs[i]?) : w.rangeAt g (j * m + o) cs := by
  intro i v hv
  have hi : i < cs.length := by
    rcases Nat.lt_or_ge i cs.length with h | h
    · exact h
    · rw [List.getElem?_eq_none h] at hv; cases hv
  rw [Nat.add_assoc, own_flat_at hr hW hn hj (by omega), hcs i hi, hv]
end
section
variable {P : Program} {w : World} {ops : Array Oper} {rest : List Oper} {a : Act} {Q : Exit → Act → World → Prop} {dst : Option Tmp} {ty : TypeId} {pos : String} {aft : Array Edge} {gd : Option (Nat × Bool)}
/-- The run of a load of several cells out of the middle of a block. -/
theorem e_load_mid (T : TypeId) (x : Operand) (b o : Nat) (cs : List Value) (d : TypeDesc) (hx : a.eval x = .pointer (some ⟨b, o, none⟩)) (hc : w.rangeAt b o cs)
    (hu : P.underlying T = some d) (hd : d.isRow = true) (hi : (P.info? T).map (·.size) = some cs.length) :
    (execOp a.eval ⟨dst, .load T x, ty, pos, aft, gd⟩).run P w = .ok (.value (.agg cs.toArray)) w := by
  unfold execOp
  simp only [hx, Instr.loadAt, Instr.sureAddr, Sem.run_bind, Sem.run_pure, Result.andThen_ok, run_loadVar_mid w b o T cs d hc hu hd hi]
/-- One cell of a row of structs of our own is written. -/
theorem r_store_flat (T e : TypeId) (p x : Operand) (m g j i n cap base : Nat) (L : List (List Value)) (hp : a.eval p = .pointer (some ⟨g, j * m + i, none⟩)) (u : Value) (hx : a.eval x = u)
    (hr : w.ownsRow base e m (.slice (some ⟨g, 0, none⟩) n cap) n L.flatten) (hW : Wide m L) (hn : L.length = n) (hj : j < n) (hi : i < m) (hs : ∀ w, (sizeOf T).run P w = .ok 1 w) (h1 : u.oneCell' = true)
    (hgd : Region.wanted ⟨dst, .store T p x, ty, pos, aft, gd⟩ (yielded ops a.tmps) = true)
    (h : ∀ w1, Upd g w w1 → w1.ownsRow base e m (.slice (some ⟨g, 0, none⟩) n cap) n (L.set j ((L.getD j []).set i u)).flatten → wpList P ops Q rest (a.put dst undef) w1) : wpList P ops Q (⟨dst, .store T p x, ty, pos, aft, gd⟩ :: rest) a w := by
  have hlt : j * m + i < n * m := by
    have : (j + 1) * m ≤ n * m := Nat.mul_le_mul_right m hj
    rw [Nat.add_mul] at this
    omega
  rcases hr.2 with ⟨h', _⟩ | ⟨g', cap', cur, h', hb, hg, hnc, hcm, hcs, htake⟩
  · cases h'
  · simp only [Value.slice.injEq, Option.some.injEq, Addr.mk.injEq, and_true, true_and] at h'
    obtain ⟨rfl, rfl⟩ := h'
    have hcap : n * m ≤ cap * m := Nat.mul_le_mul_right m hnc
    refine r_store_cell T e p x g (j * m + i) hp u hx cur hg (by omega) hs h1 hgd fun w1 u1 b1 => h w1 u1 ?_
    have hset : (L.set j ((L.getD j []).set i u)).flatten = L.flatten.set (j * m + i) u := (flat_set hi u j hW (by omega)).symm
    rw [hset]
    refine ⟨by simpa using hr.1, .inr ⟨g, cap, cur.setIfInBounds (j * m + i) u, rfl, hb, b1, hnc, hcm, by simpa using hcs, ?_⟩⟩
    rw [Array.toList_setIfInBounds, ← htake, List.take_set]
end
end Go.Proofs.YtpdmfbhjneodeaaGreatDoor
