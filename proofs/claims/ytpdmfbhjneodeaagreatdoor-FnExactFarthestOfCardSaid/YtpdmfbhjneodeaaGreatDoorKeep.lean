/-
  How many of the eight moves leave a tray as it is: in the program, in the model, and the law.
-/
import Derived.Test.YtpdmfbhjneodeaaGreatDoorBMv
import Derived.Test.YtpdmfbhjneodeaaGreatDoorBWd
import Derived.Laws.StructEq
namespace Go.Proofs.YtpdmfbhjneodeaaGreatDoor
open Go.RowKit
theorem run_forIn_all {P : Program} {w : World} (n : Nat) (G : Nat → Option Bool × Unit → Sem (ForInStep (Option Bool × Unit))) (b : Nat → Bool)
    (hG : ∀ i, i < n → ∀ s, (G i s).run P w = .ok (if b i then .yield (none, ()) else .done (some false, ())) w) :
    (forIn [0:n] ((none, ()) : Option Bool × Unit) G).run P w = .ok (if (List.range n).all b then (none, ()) else (some false, ())) w := by
  have key : ∀ (l : List Nat), (∀ i ∈ l, i < n) → (forIn l ((none, ()) : Option Bool × Unit) G).run P w = .ok (if l.all b then (none, ()) else (some false, ())) w := by
    intro l
    induction l with
    | nil => intro _; simp [Sem.run_pure]
    | cons i l ih =>
      intro h
      have hi := hG i (h i (by simp)) (none, ())
      rw [List.forIn_cons]
      simp only [Sem.run_bind, hi, Result.andThen_ok]
      cases hb : b i
      · simp [Sem.run_pure, hb]
      · simp only [if_true]
        rw [ih (fun j hj => h j (by simp [hj]))]
        simp [hb]
  simp only [Std.Legacy.Range.forIn_eq_forIn_range', Std.Legacy.Range.size]
  rw [show (n - 0 + 1 - 1) / 1 = n by omega, ← List.range_eq_range']
  exact key (List.range n) (fun i hi => List.mem_range.1 hi)
theorem run_equal_arr {P : Program} {w : World} (d : Nat) (t e : TypeId) (n : Nat) (hu : P.underlying t = some (.array n e)) (he : P.underlying e = some (.int .u8)) (hs : ∀ w, (sizeOf e).run P w = .ok 1 w) (ha : ∀ w, (isAgg e).run P w = .ok false w)
    (xs ys : Array Value) (f g : Nat → Int) (hx : ∀ i, i < n → xs[i]? = some (.int .u8 (f i))) (hy : ∀ i, i < n → ys[i]? = some (.int .u8 (g i))) :
    (Op.equalIn (d + 2) t (.agg xs) (.agg ys)).run P w = .ok ((List.range n).all fun i => f i == g i) w := by
  unfold Op.equalIn
  simp only [Sem.run_bind, run_underlying hu, Result.andThen_ok, hs]
  rw [run_forIn_all n _ (fun i => f i == g i)]
  · simp only [Result.andThen_ok]
    cases hc : (List.range n).all fun i => f i == g i
    · simp [Sem.run_pure]
    · simp [Sem.run_pure]
  · intro i hi s
    have p1 : (part e xs (i * 1)).run P w = .ok (.int .u8 (f i)) w := by
      unfold part
      simp [Sem.run_bind, ha, hx i hi, Sem.run_pure, Result.andThen]
    have p2 : (part e ys (i * 1)).run P w = .ok (.int .u8 (g i)) w := by
      unfold part
      simp [Sem.run_bind, ha, hy i hi, Sem.run_pure, Result.andThen]
    simp only [Sem.run_bind, p1, p2, Result.andThen_ok]
    have p3 : (Op.equalIn (d + 1) e (.int .u8 (f i)) (.int .u8 (g i))).run P w = .ok (f i == g i) w := by
      unfold Op.equalIn
      simp [Sem.run_bind, run_underlying he, Sem.run_pure, Result.andThen]
    rw [p3]
    cases hb : f i == g i
    · simp [Sem.run_pure, Result.andThen]
    · simp [Sem.run_pure, Result.andThen]
section
variable {P : Program} {w : World} {ops : Array Oper} {rest : List Oper} {a : Act} {Q : Exit → Act → World → Prop} {dst : Option Tmp} {ty : TypeId} {pos : String} {aft : Array Edge} {gd : Option (Nat × Bool)}
/-- Two arrays of bytes compared. -/
theorem r_eql_arr (t e : TypeId) (n : Nat) (x y : Operand) (yt : TypeId) (hu : P.underlying t = some (.array n e)) (he : P.underlying e = some (.int .u8)) (hs : ∀ w, (sizeOf e).run P w = .ok 1 w) (ha : ∀ w, (isAgg e).run P w = .ok false w) (hm : P.eqGuardType P.depth t = false)
    (xs ys : Array Value) (f g : Nat → Int) (hx0 : a.eval x = .agg xs) (hy0 : a.eval y = .agg ys) (hx : ∀ i, i < n → xs[i]? = some (.int .u8 (f i))) (hy : ∀ i, i < n → ys[i]? = some (.int .u8 (g i)))
    (hgd : Region.wanted ⟨dst, .binOp .eql t x y yt, ty, pos, aft, gd⟩ (yielded ops a.tmps) = true)
    (h : wpList P ops Q rest (a.put dst (.bool ((List.range n).all fun i => f i == g i))) w) : wpList P ops Q (⟨dst, .binOp .eql t x y yt, ty, pos, aft, gd⟩ :: rest) a w :=
  wpList_want hgd fun _ hK => by
    unfold Oper.wp execOp
    simp only [hx0, hy0, Sem.run_bind, run_eqGuard_agg (w := w) .eql t x y xs ys hm, Result.andThen_ok, run_eql_struct, run_equal_arr (w := w) 9998 t e n hu he hs ha xs ys f g hx hy, Sem.run_pure, Oper.upon]
    exact hK _ _ h
end
/-- Two grids are the same. -/
def sameB (g k : Grid) : Bool := (g.w == k.w) && (g.h == k.h) && (List.range 36).all fun i => (((at0 g.c i).toNat : Int) == ((at0 k.c i).toNat : Int))
theorem blk_range {w : World} {B : Nat} {W H : Int} {c : List UInt8} {T : TypeId} (h : Blk w B (gv W H c) T) : w.rangeAt B 2 (cellsL 36 c) := by
  intro j v hj
  have hj36 : j < 36 := by
    rcases Nat.lt_or_ge j 36 with h | h
    · exact h
    · rw [List.getElem?_eq_none (by rw [cellsL_length]; exact h)] at hj; cases hj
  rw [h.cell (2 + j), gv_c W H c j hj36]
  rw [cellsL_get 36 c j hj36] at hj
  exact hj
theorem cellsL_arr (c : List UInt8) (i : Nat) (hi : i < 36) : (cellsL 36 c).toArray[i]? = some (.int .u8 (at0 c i).toNat) := by
  rw [List.getElem?_toArray]; exact cellsL_get 36 c i hi
/-- How many of the first k moves leave the grid as it is. -/
def keepTo (g : Grid) : Nat → Nat
  | 0 => 0
  | k + 1 => keepTo g k + if sameB g (moveG k g) then 1 else 0
theorem keepTo_le (g : Grid) (k : Nat) : keepTo g k ≤ k := by
  induction k with
  | zero => exact Nat.le_refl _
  | succ k ih => unfold keepTo; split <;> omega
def keN (l : List UInt8) : Nat := if rdOk l then keepTo (rdG l) 8 else 0
end Go.Proofs.YtpdmfbhjneodeaaGreatDoor
