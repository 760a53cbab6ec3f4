/-
  Grids compared as structs; slices.Index over a row of grids.
-/
import Derived.Test.YtdebiobhmpoiiaaDoorTiltY
import Derived.Test.YtdebiobhmpoiiaaDoorKeep
import Derived.Test.YtdebiobhmpoiiaaDoorOps
namespace Go.Proofs.YtdebiobhmpoiiaaDoor
open Go.RowKit
/-- The first number below n at which p holds; -1 if there is none. -/
def fiN (p : Nat → Bool) (n : Nat) : Int := match (List.range n).find? p with
  | some k => (k : Nat)
  | none => -1
theorem find_at {p : Nat → Bool} {n j : Nat} (h : ∀ k, k < j → p k = false) (hp : p j = true) (hj : j < n) : (List.range n).find? p = some j := by
  rw [List.find?_eq_some_iff_getElem]
  refine ⟨hp, j, by rw [List.length_range]; exact hj, by rw [List.getElem_range], fun k hk => ?_⟩
  rw [List.getElem_range, h k hk]
  rfl
theorem find_no {p : Nat → Bool} {n : Nat} (h : ∀ k, k < n → p k = false) : (List.range n).find? p = none := by
  rw [List.find?_eq_none]
  intro k hk
  rw [h k (List.mem_range.1 hk)]
  simp
theorem fiN_at {p : Nat → Bool} {n j : Nat} (h : ∀ k, k < j → p k = false) (hp : p j = true) (hj : j < n) : fiN p n = j := by
  unfold fiN
  rw [find_at h hp hj]
theorem fiN_no {p : Nat → Bool} {n : Nat} (h : ∀ k, k < n → p k = false) : fiN p n = -1 := by
  unfold fiN
  rw [find_no h]
/-- The grids F 0 .. F (n-1) in memory. -/
def rowsG (F : Nat → Grid) (n : Nat) : List (List Value) := (List.range n).map fun k => (gvG (F k)).toList
theorem gvl38 (g : Grid) : (gvG g).toList.length = 38 := by rw [Array.length_toList]; exact gv_size _ _ _
theorem rowsG_length (F : Nat → Grid) (n : Nat) : (rowsG F n).length = n := by unfold rowsG; rw [List.length_map, List.length_range]
theorem rowsG_wide (F : Nat → Grid) (n : Nat) : Wide 38 (rowsG F n) := by
  intro r hr
  obtain ⟨k, -, rfl⟩ := List.mem_map.1 hr
  exact gvl38 _
theorem rowsG_get (F : Nat → Grid) {n j : Nat} (hj : j < n) : (rowsG F n).getD j [] = (gvG (F j)).toList := by
  unfold rowsG
  rw [List.getD_eq_getElem?_getD, List.getElem?_map, List.getElem?_range hj]
  rfl
theorem rowsG_snoc (F : Nat → Grid) (n : Nat) : (rowsG F n).flatten ++ (gvG (F n)).toList = (rowsG F (n + 1)).flatten := by
  unfold rowsG
  rw [List.range_succ, List.map_append, List.flatten_append]
  simp
theorem rowsG_cells {w : World} {base g n cap : Nat} {e : TypeId} {F : Nat → Grid} (h : w.ownsRow base e 38 (.slice (some ⟨g, 0, none⟩) n cap) n (rowsG F n).flatten) {j : Nat} (hj : j < n) : w.rangeAt g (j * 38) (gvG (F j)).toList := by
  have := own_flat_range h (rowsG_wide _ _) (rowsG_length _ _) hj (o := 0) (cs := (gvG (F j)).toList) (by rw [gvl38]; omega) (fun i hi => by rw [rowsG_get F hj, Nat.zero_add])
  rwa [Nat.add_zero] at this
theorem own_sliceN {w : World} {base : Nat} {e : TypeId} {size : Nat} {v : Value} {n : Nat} {xs : List Value} (hr : w.ownsRow base e size v n xs) : ∃ p k, v = .slice p n k := by
  obtain ⟨_, ⟨rfl, h0⟩ | ⟨g, cap, cur, rfl, _⟩⟩ := hr
  · exact ⟨none, 0, by rw [h0]⟩
  · exact ⟨_, _, rfl⟩
theorem eqFields3 (d : Nat) (xs ys : Array Value) {fs : List Field} {n1 n2 n3 : String} {t1 t2 t3 : TypeId} {o1 o2 o3 : Nat} (h : fs.map (fun f => (f.name, f.type, f.offset)) = [(n1, t1, o1), (n2, t2, o2), (n3, t3, o3)]) :
    Op.eqFields d xs ys fs = Op.eqFields d xs ys [⟨n1, t1, o1, false, "", "", 0⟩, ⟨n2, t2, o2, false, "", "", 0⟩, ⟨n3, t3, o3, false, "", "", 0⟩] := by
  match fs, h with
  | [⟨a1, b1, c1, _, _, _, _⟩, ⟨a2, b2, c2, _, _, _, _⟩, ⟨a3, b3, c3, _, _, _, _⟩], h =>
    simp only [List.map_cons, List.map_nil, List.cons.injEq, Prod.mk.injEq, and_true] at h
    obtain ⟨⟨rfl, rfl, rfl⟩, ⟨rfl, rfl, rfl⟩, rfl, rfl, rfl⟩ := h
    simp only [Op.eqFields]
theorem run_part1 {P : Program} {w : World} {t : TypeId} {xs : Array Value} {o : Nat} {v : Value} (ha : ∀ w, (isAgg t).run P w = .ok false w) (hv : xs[o]? = some v) : (part t xs o).run P w = .ok v w := by
  unfold part
  simp [Sem.run_bind, ha, hv, Sem.run_pure, Result.andThen]
theorem run_partN {P : Program} {w : World} {t : TypeId} {xs : Array Value} {o n : Nat} (ha : ∀ w, (isAgg t).run P w = .ok true w) (hs : ∀ w, (sizeOf t).run P w = .ok n w) : (part t xs o).run P w = .ok (.agg (xs.extract o (o + n))) w := by
  unfold part
  simp [Sem.run_bind, ha, hs, Result.andThen]
theorem gv_cut (W H : Int) (c : List UInt8) (i : Nat) (hi : i < 36) : ((gv W H c).extract 2 38)[i]? = some (.int .u8 (at0 c i).toNat) := by
  rw [Array.getElem?_extract, gv_size, if_pos (by omega), gv_c W H c i hi]
  rfl
theorem Tryd.gfields : ((Tryd.prog.fieldsOf 72).toList.map fun f => (f.name, f.type, f.offset)) = [("width", 3, 0), ("height", 3, 1), ("cells", 70, 2)] := by kernel_rfl
theorem Tryd.eqG (g k : Grid) (w : World) : (Op.equalIn 10000 72 (.agg (gvG g)) (.agg (gvG k))).run Tryd.prog w = .ok (sameB g k) w := by
  have hst : Tryd.prog.underlying 72 = some (.struct (Tryd.prog.fieldsOf 72)) := by kernel_rfl
  have hsi : Tryd.prog.stoodInHeld 72 = false := by kernel_rfl
  have ha : ∀ w, (isAgg 3).run Tryd.prog w = .ok false w := Tryd.isAgg3
  have hA : ∀ w, (isAgg 70).run Tryd.prog w = .ok true w := fun w => by kernel_rfl
  have hS : ∀ w, (sizeOf 70).run Tryd.prog w = .ok 36 w := fun w => by kernel_rfl
  have hs8 : ∀ w, (sizeOf 5).run Tryd.prog w = .ok 1 w := Tryd.sizeOf5
  have h8 : ∀ w, (isAgg 5).run Tryd.prog w = .ok false w := Tryd.isAgg5
  rw [run_equalIn_agg w 9999 72 _ _ hst hsi, eqFields3 9999 _ _ Tryd.gfields]
  have p1 : ∀ (x : Grid) w, (part 3 (gvG x) 0).run Tryd.prog w = .ok (.int .i64 x.w) w := fun x w => run_part1 ha rfl
  have p2 : ∀ (x : Grid) w, (part 3 (gvG x) 1).run Tryd.prog w = .ok (.int .i64 x.h) w := fun x w => run_part1 ha rfl
  have p3 : ∀ (x : Grid) w, (part 70 (gvG x) 2).run Tryd.prog w = .ok (.agg ((gvG x).extract 2 38)) w := fun x w => run_partN (xs := gvG x) (o := 2) (n := 36) hA hS
  have q1 : ∀ (a b : Int) w, (Op.equalIn 9999 3 (.int .i64 a) (.int .i64 b)).run Tryd.prog w = .ok (a == b) w := fun a b w => run_equalIn_int w 9998 3 .i64 .i64 a b Tryd.underlying3
  have q3 : ∀ w, (Op.equalIn 9999 70 (.agg ((gvG g).extract 2 38)) (.agg ((gvG k).extract 2 38))).run Tryd.prog w = .ok ((List.range 36).all fun i => (((at0 g.c i).toNat : Int) == ((at0 k.c i).toNat : Int))) w :=
    fun w => run_equal_arr 9997 70 5 36 Tryd.underlying70 Tryd.underlying5 hs8 h8 _ _ _ _ (fun i hi => gv_cut _ _ _ i hi) (fun i hi => gv_cut _ _ _ i hi)
  have e1 : ((g.w : Int) == (k.w : Int)) = (g.w == k.w) := by rw [Bool.eq_iff_iff, beq_iff_eq, beq_iff_eq]; omega
  have e2 : ((g.h : Int) == (k.h : Int)) = (g.h == k.h) := by rw [Bool.eq_iff_iff, beq_iff_eq, beq_iff_eq]; omega
  unfold sameB
  simp only [Op.eqFields, Sem.run_bind, p1, p2, p3, q1, q3, Result.andThen_ok, Sem.run_ite, e1, e2]
  cases (g.w == k.w) <;> cases (g.h == k.h) <;> cases ((List.range 36).all fun i => (((at0 g.c i).toNat : Int) == ((at0 k.c i).toNat : Int))) <;> simp [Sem.run_pure]
theorem Tryd.gNoGuard : Tryd.prog.eqGuardType Tryd.prog.depth 72 = false := by kernel_rfl
theorem e_eqlG {w : World} {a : Act} {dst : Option Tmp} {ty yt : TypeId} {pos : String} {aft : Array Edge} {gd : Option (Nat × Bool)} (x y : Operand) (g k : Grid) (hx : a.eval x = .agg (gvG g)) (hy : a.eval y = .agg (gvG k)) :
    (execOp a.eval ⟨dst, .binOp .eql 72 x y yt, ty, pos, aft, gd⟩).run Tryd.prog w = .ok (.value (.bool (sameB g k))) w := by
  unfold execOp
  simp only [hx, hy, Sem.run_bind, run_eqGuard_agg (w := w) .eql 72 x y (gvG g) (gvG k) Tryd.gNoGuard, Result.andThen_ok, run_eql_struct, Tryd.eqG, Sem.run_pure]
end Go.Proofs.YtdebiobhmpoiiaaDoor
