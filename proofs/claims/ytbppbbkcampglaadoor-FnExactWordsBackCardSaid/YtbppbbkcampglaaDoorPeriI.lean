/-
  Grids compared as structs; slices.Index over a row of grids.
-/
import Derived.Test.YtbppbbkcampglaaDoorTiltY
import Derived.Test.YtbppbbkcampglaaDoorKeep
import Derived.Test.YtbppbbkcampglaaDoorOps
namespace Go.Proofs.YtbppbbkcampglaaDoor
open Go.RowKit
/-- The first number below n at which p holds; -1 if there is none. -/
def fiN (p : Nat → Bool) (n : Nat) : Int := match (List.range n).find? p with
  | some k => (k : Nat)
  | none => -1
theorem find_at {p : Nat → Bool} {n j : Nat} (h : ∀ k, k < j → p k = false) (hp : p j = true) (hj : j < n) : (List.range n).find? p = some j := by
  rw [List.find?_eq_some_iff_getElem]
  refine ⟨hp, j, by rw [List.length_range]; exact hj, by rw [List.getElem_range], fun k hk => ?_⟩
  rw [List.getElem_range, h k hk]
  rfl
theorem find_no {p : Nat → Bool} {n : Nat} (h : ∀ k, k < n → p k = false) : (List.range n).find? p = none := by
  rw [List.find?_eq_none]
  intro k hk
  rw [h k (List.mem_range.1 hk)]
  simp
theorem fiN_at {p : Nat → Bool} {n j : Nat} (h : ∀ k, k < j → p k = false) (hp : p j = true) (hj : j < n) : fiN p n = j := by
  unfold fiN
  rw [find_at h hp hj]
theorem fiN_no {p : Nat → Bool} {n : Nat} (h : ∀ k, k < n → p k = false) : fiN p n = -1 := by
  unfold fiN
  rw [find_no h]
/-- The grids F 0 .. F (n-1) in memory. -/
def rowsG (F : Nat → Grid) (n : Nat) : List (List Value) := (List.range n).map fun k => (gvG (F k)).toList
theorem gvl38 (g : Grid) : (gvG g).toList.length = 38 := by rw [Array.length_toList]; exact gv_size _ _ _
theorem rowsG_length (F : Nat → Grid) (n : Nat) : (rowsG F n).length = n := by unfold rowsG; rw [List.length_map, List.length_range]
theorem rowsG_wide (F : Nat → Grid) (n : Nat) : Wide 38 (rowsG F n) := by
  intro r hr
  obtain ⟨k, -, rfl⟩ := List.mem_map.1 hr
  exact gvl38 _
theorem rowsG_get (F : Nat → Grid) {n j : Nat} (hj : j < n) : (rowsG F n).getD j [] = (gvG (F j)).toList := by
  unfold rowsG
  rw [List.getD_eq_getElem?_getD, List.getElem?_map, List.getElem?_range hj]
  rfl
theorem rowsG_snoc (F : Nat → Grid) (n : Nat) : (rowsG F n).flatten ++ (gvG (F n)).toList = (rowsG F (n + 1)).flatten := by
  unfold rowsG
  rw [List.range_succ, List.map_append, List.flatten_append]
  simp
theorem rowsG_cells {w : World} {base g n cap : Nat} {e : TypeId} {F : Nat → Grid} (h : w.ownsRow base e 38 (.slice (some ⟨g, 0, none⟩) n cap) n (rowsG F n).flatten) {j : Nat} (hj : j < n) : w.rangeAt g (j * 38) (gvG (F j)).toList := by
  have := own_flat_range h (rowsG_wide _ _) (rowsG_length _ _) hj (o := 0) (cs := (gvG (F j)).toList) (by rw [gvl38]; omega) (fun i hi => by rw [rowsG_get F hj, Nat.zero_add])
  rwa [Nat.add_zero] at this
theorem own_sliceN {w : World} {base : Nat} {e : TypeId} {size : Nat} {v : Value} {n : Nat} {xs : List Value} (hr : w.ownsRow base e size v n xs) : ∃ p k, v = .slice p n k := by
  obtain ⟨_, ⟨rfl, h0⟩ | ⟨g, cap, cur, rfl, _⟩⟩ := hr
  · exact ⟨none, 0, by rw [h0]⟩
  · exact ⟨_, _, rfl⟩
theorem eqFields3 (d : Nat) (xs ys : Array Value) {fs : List Field} {n1 n2 n3 : String} {t1 t2 t3 : TypeId} {o1 o2 o3 : Nat} (h : fs.map (fun f => (f.name, f.type, f.offset)) = [(n1, t1, o1), (n2, t2, o2), (n3, t3, o3)]) :
    Op.eqFields d xs ys fs = Op.eqFields d xs ys [⟨n1, t1, o1, false, "", "", 0⟩, ⟨n2, t2, o2, false, "", "", 0⟩, ⟨n3, t3, o3, false, "", "", 0⟩] := by
  match fs, h with
  | [⟨a1, b1, c1, _, _, _, _⟩, ⟨a2, b2, c2, _, _, _, _⟩, ⟨a3, b3, c3, _, _, _, _⟩], h =>
    simp only [List.map_cons, List.map_nil, List.cons.injEq, Prod.mk.injEq, and_true] at h
    obtain ⟨⟨rfl, rfl, rfl⟩, ⟨rfl, rfl, rfl⟩, rfl, rfl, rfl⟩ := h
    simp only [Op.eqFields]
theorem run_part1 {P : Program} {w : World} {t : TypeId} {xs : Array Value} {o : Nat} {v : Value} (ha : ∀ w, (isAgg t).run P w = .ok false w) (hv : xs[o]? = some v) : (part t xs o).run P w = .ok v w := by
  unfold part
  simp [Sem.run_bind, ha, hv, Sem.run_pure, Result.andThen]
theorem run_partN {P : Program} {w : World} {t : TypeId} {xs : Array Value} {o n : Nat} (ha : ∀ w, (isAgg t).run P w = .ok true w) (hs : ∀ w, (sizeOf t).run P w = .ok n w) : (part t xs o).run P w = .ok (.agg (xs.extract o (o + n))) w := by
  unfold part
  simp [Sem.run_bind, ha, hs, Result.andThen]
theorem gv_cut (W H : Int) (c : List UInt8) (i : Nat) (hi : i < 36) : ((gv W H c).extract 2 38)[i]? = some (.int .u8 (at0 c i).toNat) := by
  rw [Array.getElem?_extract, gv_size, if_pos (by omega), gv_c W H c i hi]
  rfl
theorem Tryd.gfields : ((Tryd.prog.fieldsOf 47).toList.map fun f => (f.name, f.type, f.offset)) = [("width", 3, 0), ("height", 3, 1), ("cells", 45, 2)] := by kernel_rfl
theorem Tryd.eqG (g k : Grid) (w : World) : (Op.equalIn 10000 47 (.agg (gvG g)) (.agg (gvG k))).run Tryd.prog w = .ok (sameB g k) w := by
  have hst : Tryd.prog.underlying 47 = some (.struct (Tryd.prog.fieldsOf 47)) := by kernel_rfl
  have hsi : Tryd.prog.stoodInHeld 47 = false := by kernel_rfl
  have ha : ∀ w, (isAgg 3).run Tryd.prog w = .ok false w := Tryd.isAgg3
  have hA : ∀ w, (isAgg 45).run Tryd.prog w = .ok true w := fun w => by kernel_rfl
  have hS : ∀ w, (sizeOf 45).run Tryd.prog w = .ok 36 w := fun w => by kernel_rfl
  have hs8 : ∀ w, (sizeOf 5).run Tryd.prog w = .ok 1 w := Tryd.sizeOf5
  have h8 : ∀ w, (isAgg 5).run Tryd.prog w = .ok false w := Tryd.isAgg5
  rw [run_equalIn_agg w 9999 47 _ _ hst hsi, eqFields3 9999 _ _ Tryd.gfields]
  have p1 : ∀ (x : Grid) w, (part 3 (gvG x) 0).run Tryd.prog w = .ok (.int .i64 x.w) w := fun x w => run_part1 ha rfl
  have p2 : ∀ (x : Grid) w, (part 3 (gvG x) 1).run Tryd.prog w = .ok (.int .i64 x.h) w := fun x w => run_part1 ha rfl
  have p3 : ∀ (x : Grid) w, (part 45 (gvG x) 2).run Tryd.prog w = .ok (.agg ((gvG x).extract 2 38)) w := fun x w => run_partN (xs := gvG x) (o := 2) (n := 36) hA hS
  have q1 : ∀ (a b : Int) w, (Op.equalIn 9999 3 (.int .i64 a) (.int .i64 b)).run Tryd.prog w = .ok (a == b) w := fun a b w => run_equalIn_int w 9998 3 .i64 .i64 a b Tryd.underlying3
  have q3 : ∀ w, (Op.equalIn 9999 45 (.agg ((gvG g).extract 2 38)) (.agg ((gvG k).extract 2 38))).run Tryd.prog w = .ok ((List.range 36).all fun i => (((at0 g.c i).toNat : Int) == ((at0 k.c i).toNat : Int))) w :=
    fun w => run_equal_arr 9997 45 5 36 Tryd.underlying45 Tryd.underlying5 hs8 h8 _ _ _ _ (fun i hi => gv_cut _ _ _ i hi) (fun i hi => gv_cut _ _ _ i hi)
  have e1 : ((g.w : Int) == (k.w : Int)) = (g.w == k.w) := by rw [Bool.eq_iff_iff, beq_iff_eq, beq_iff_eq]; omega
  have e2 : ((g.h : Int) == (k.h : Int)) = (g.h == k.h) := by rw [Bool.eq_iff_iff, beq_iff_eq, beq_iff_eq]; omega
  unfold sameB
  simp only [Op.eqFields, Sem.run_bind, p1, p2, p3, q1, q3, Result.andThen_ok, Sem.run_ite, e1, e2]
  cases (g.w == k.w) <;> cases (g.h == k.h) <;> cases ((List.range 36).all fun i => (((at0 g.c i).toNat : Int) == ((at0 k.c i).toNat : Int))) <;> simp [Sem.run_pure]
theorem Tryd.gNoGuard : Tryd.prog.eqGuardType Tryd.prog.depth 47 = false := by kernel_rfl
theorem e_eqlG {w : World} {a : Act} {dst : Option Tmp} {ty yt : TypeId} {pos : String} {aft : Array Edge} {gd : Option (Nat × Bool)} (x y : Operand) (g k : Grid) (hx : a.eval x = .agg (gvG g)) (hy : a.eval y = .agg (gvG k)) :
    (execOp a.eval ⟨dst, .binOp .eql 47 x y yt, ty, pos, aft, gd⟩).run Tryd.prog w = .ok (.value (.bool (sameB g k))) w := by
  unfold execOp
  simp only [hx, hy, Sem.run_bind, run_eqGuard_agg (w := w) .eql 47 x y (gvG g) (gvG k) Tryd.gNoGuard, Result.andThen_ok, run_eql_struct, Tryd.eqG, Sem.run_pure]
theorem Tryd.gixP (B n cap x : Nat) (hx : x < n) (w : World) : (Instr.indexAt 59 (.slice (some ⟨B, 0, none⟩) n cap) (.int .i64 x)).run Tryd.prog w = .ok (.pointer (some ⟨B, x * 38, none⟩)) w := by
  have hu : Tryd.prog.underlying 59 = some (.slice (Tryd.prog.elem 59)) := by kernel_rfl
  have he : Tryd.prog.elem 59 = 47 := by kernel_rfl
  rw [run_indexAt_slice w 59 ⟨B, 0, none⟩ n cap .i64 x hu, if_pos (by omega), he]
  simp only [Int.toNat_natCast, Tryd.sizeOf47, Result.andThen_ok, add_flat']
theorem e_idxG {w : World} {a : Act} {dst : Option Tmp} {ty : TypeId} {pos : String} {aft : Array Edge} {gd : Option (Nat × Bool)} (x y : Operand) (B n cap j : Nat) (hj : j < n) (hx : a.eval x = .slice (some ⟨B, 0, none⟩) n cap) (hy : a.eval y = .int .i64 j) :
    (execOp a.eval ⟨dst, .indexAddr 59 x y, ty, pos, aft, gd⟩).run Tryd.prog w = .ok (.value (.pointer (some ⟨B, j * 38, none⟩))) w := by
  unfold execOp
  simp only [hx, hy, Sem.run_bind, Tryd.gixP B n cap j hj w, Result.andThen_ok, Sem.run_pure]
set_option maxHeartbeats 800000 in
set_option maxRecDepth 100000 in
theorem indexG_any (F : Nat → Grid) (n base : Nat) (g : Grid) (sl : Value) (w : World) (hn : n ≤ 1000) (hown : w.ownsRow base 47 38 sl n (rowsG F n).flatten) :
    Calls Tryd.prog 35 #[sl, .agg (gvG g)] w (Ret (.int .i64 (fiN (fun k => sameB g (F k)) n)) w) := by
  have gg := Gr.refl w
  have HAT := hidI (fun j (h : ∀ k, k < j → sameB g (F k) = false) (hp : sameB g (F j) = true) (hj : j < n) => fiN_at (p := fun k => sameB g (F k)) h hp hj)
  have HNO := hidI (fun (h : ∀ k, k < n → sameB g (F k) = false) => fiN_no (p := fun k => sameB g (F k)) h)
  obtain ⟨R, hR⟩ : ∃ R, R = fiN (fun k => sameB g (F k)) n := ⟨_, rfl⟩
  rw [← hR] at HAT HNO ⊢
  clear hR
  have HCE := hidI (fun (w' : World) (B cap : Nat) (h : w'.ownsRow base 47 38 (.slice (some ⟨B, 0, none⟩) n cap) n (rowsG F n).flatten) (j : Nat) (hj : j < n) => rowsG_cells h hj)
  obtain ⟨p, cap, rfl⟩ := own_sliceN hown
  unfold gvG
  go_enter Tryd.func35, Tryd.ntmps35
  go_wp2_with (refine r_box 47 _ (gv g.w g.h g.c) rfl rfl ?_; intro w1 B1 N1; have g1 := N1.gr; have b1 : Blk w1 B1 (gv g.w g.h g.c) 47 := N1.blk; have l1 := N1.lo; have t1 := N1.hi; have z1 := g1.size; have gg := gg.trans g1; clear N1; obtain ⟨b1_0, b1_1, b1_2⟩ := gcells b1)
  have own := g1.row hown
  go_loopw [8] (fun iv wr => ∃ j : Nat, j ≤ n ∧ iv = .int .i64 j ∧ (∀ k, k < j → sameB g (F k) = false) ∧ Blk wr B1 (gv g.w g.h g.c) 47 ∧ wr.ownsRow base 47 38 (.slice p n cap) n (rowsG F n).flatten ∧ Gr w wr) (fun iv _ => n - (intOf iv).toNat)
  case atStart => exact ⟨0, Nat.zero_le _, rfl, fun k hk => absurd hk (Nat.not_lt_zero _), b1, own, gg⟩
  case round =>
    obtain ⟨j, hj, rfl, hall, b1, own, gg⟩ := hrel
    have zr := gg.size
    by_cases hlt : j < n
    · have HALL := hidI hall
      clear hall
      obtain ⟨G, cap', he, -, -⟩ := own_shape own (by omega)
      obtain ⟨rfl, rfl⟩ : p = some ⟨G, 0, none⟩ ∧ cap = cap' := by
        simp only [Value.slice.injEq] at he
        exact ⟨he.1, he.2.2⟩
      have HRG := hidI (HCE.out wr G cap own j hlt)
      clear he
      cases hb : sameB g (F j)
      · have HB := hidI hb
        clear hb
        go_wp2
        refine q_whole (by kernel_rfl) (by kernel_rfl) ?_
        refine q_take (.agg (gvG g)) rfl (fun w' hw' => e_load_row 47 (.tmp 3) _ _ _ _ rfl (hw'.blk b1) Tryd.underlying47 rfl (Tryd.ginfo' _ _ _)) ?_; simp only [Act.put, List.setIfInBounds_toArray, List.set_cons_succ, List.set_cons_zero]
        refine q_move _ (.slice (some ⟨G, 0, none⟩) n cap) rfl rfl ?_; simp only [Act.put, List.setIfInBounds_toArray, List.set_cons_succ, List.set_cons_zero]
        refine q_move _ (.int .i64 j) rfl rfl ?_; simp only [Act.put, List.setIfInBounds_toArray, List.set_cons_succ, List.set_cons_zero]
        refine q_take (.pointer (some ⟨G, j * 38, none⟩)) rfl (fun w' hw' => e_idxG _ _ G n cap j hlt rfl rfl) ?_; simp only [Act.put, List.setIfInBounds_toArray, List.set_cons_succ, List.set_cons_zero]
        refine q_take (.agg (gvG (F j)).toList.toArray) rfl (fun w' hw' => e_load_mid 47 (.tmp 14) G (j * 38) (gvG (F j)).toList _ rfl (hw'.range HRG.out) Tryd.underlying47 rfl (by rw [gvl38]; exact Tryd.ginfo)) ?_; simp only [Act.put, List.setIfInBounds_toArray, List.set_cons_succ, List.set_cons_zero]
        refine q_take (.bool (sameB g (F j))) rfl (fun w' hw' => e_eqlG _ _ g (F j) rfl (by simp [Act.eval, go_sem])) ?_; simp only [Act.put, List.setIfInBounds_toArray, List.set_cons_succ, List.set_cons_zero]
        rw [HB.out]
        refine wpQuiet_nil ?_; intro w7 g7; have z7 := g7.size; have b1 := g7.blk b1; have gg := gg.trans g7
        have own := g7.row own
        go_wp2
        go_roundw
        case rel => exact ⟨j + 1, by omega, by go_num, fun k hk => (by rcases Nat.lt_succ_iff_lt_or_eq.1 hk with h | rfl; exact HALL.out k h; exact HB.out), b1, own, gg⟩
        case measure => simp [intOf]; omega
      · have HB := hidI hb
        clear hb
        go_wp2
        refine q_whole (by kernel_rfl) (by kernel_rfl) ?_
        refine q_take (.agg (gvG g)) rfl (fun w' hw' => e_load_row 47 (.tmp 3) _ _ _ _ rfl (hw'.blk b1) Tryd.underlying47 rfl (Tryd.ginfo' _ _ _)) ?_; simp only [Act.put, List.setIfInBounds_toArray, List.set_cons_succ, List.set_cons_zero]
        refine q_move _ (.slice (some ⟨G, 0, none⟩) n cap) rfl rfl ?_; simp only [Act.put, List.setIfInBounds_toArray, List.set_cons_succ, List.set_cons_zero]
        refine q_move _ (.int .i64 j) rfl rfl ?_; simp only [Act.put, List.setIfInBounds_toArray, List.set_cons_succ, List.set_cons_zero]
        refine q_take (.pointer (some ⟨G, j * 38, none⟩)) rfl (fun w' hw' => e_idxG _ _ G n cap j hlt rfl rfl) ?_; simp only [Act.put, List.setIfInBounds_toArray, List.set_cons_succ, List.set_cons_zero]
        refine q_take (.agg (gvG (F j)).toList.toArray) rfl (fun w' hw' => e_load_mid 47 (.tmp 14) G (j * 38) (gvG (F j)).toList _ rfl (hw'.range HRG.out) Tryd.underlying47 rfl (by rw [gvl38]; exact Tryd.ginfo)) ?_; simp only [Act.put, List.setIfInBounds_toArray, List.set_cons_succ, List.set_cons_zero]
        refine q_take (.bool (sameB g (F j))) rfl (fun w' hw' => e_eqlG _ _ g (F j) rfl (by simp [Act.eval, go_sem])) ?_; simp only [Act.put, List.setIfInBounds_toArray, List.set_cons_succ, List.set_cons_zero]
        rw [HB.out]
        refine wpQuiet_nil ?_; intro w7 g7; have z7 := g7.size; have b1 := g7.blk b1; have gg := gg.trans g7
        go_wp2
        go_ret
        exact ⟨ret_int (HAT.out j HALL.out HB.out hlt).symm, gg⟩
    · obtain rfl : j = n := by omega
      have HV := hidI (HNO.out hall)
      clear hlt hall
      go_wp2
      go_ret
      exact ⟨ret_int HV.out.symm, gg⟩
end Go.Proofs.YtbppbbkcampglaaDoor
