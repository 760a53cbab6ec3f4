/-
  How many of the eight moves leave a tray as it is: in the program, in the model, and the law.
-/
import Derived.Test.YthjkeohnjggmiaaDoorEight
import Derived.Test.YthjkeohnjggmiaaDoorSpec2a
import Derived.Laws.StructEq
namespace Go.Proofs.YthjkeohnjggmiaaDoor
open Go.RowKit
theorem run_forIn_all {P : Program} {w : World} (n : Nat) (G : Nat → Option Bool × Unit → Sem (ForInStep (Option Bool × Unit))) (b : Nat → Bool)
    (hG : ∀ i, i < n → ∀ s, (G i s).run P w = .ok (if b i then .yield (none, ()) else .done (some false, ())) w) :
    (forIn [0:n] ((none, ()) : Option Bool × Unit) G).run P w = .ok (if (List.range n).all b then (none, ()) else (some false, ())) w := by
  have key : ∀ (l : List Nat), (∀ i ∈ l, i < n) → (forIn l ((none, ()) : Option Bool × Unit) G).run P w = .ok (if l.all b then (none, ()) else (some false, ())) w := by
    intro l
    induction l with
    | nil => intro _; simp [Sem.run_pure]
    | cons i l ih =>
      intro h
      have hi := hG i (h i (by simp)) (none, ())
      rw [List.forIn_cons]
      simp only [Sem.run_bind, hi, Result.andThen_ok]
      cases hb : b i
      · simp [Sem.run_pure, hb]
      · simp only [if_true]
        rw [ih (fun j hj => h j (by simp [hj]))]
        simp [hb]
  simp only [Std.Legacy.Range.forIn_eq_forIn_range', Std.Legacy.Range.size]
  rw [show (n - 0 + 1 - 1) / 1 = n by omega, ← List.range_eq_range']
  exact key (List.range n) (fun i hi => List.mem_range.1 hi)
theorem run_equal_arr {P : Program} {w : World} (d : Nat) (t e : TypeId) (n : Nat) (hu : P.underlying t = some (.array n e)) (he : P.underlying e = some (.int .u8)) (hs : ∀ w, (sizeOf e).run P w = .ok 1 w) (ha : ∀ w, (isAgg e).run P w = .ok false w)
    (xs ys : Array Value) (f g : Nat → Int) (hx : ∀ i, i < n → xs[i]? = some (.int .u8 (f i))) (hy : ∀ i, i < n → ys[i]? = some (.int .u8 (g i))) :
    (Op.equalIn (d + 2) t (.agg xs) (.agg ys)).run P w = .ok ((List.range n).all fun i => f i == g i) w := by
  unfold Op.equalIn
  simp only [Sem.run_bind, run_underlying hu, Result.andThen_ok, hs]
  rw [run_forIn_all n _ (fun i => f i == g i)]
  · simp only [Result.andThen_ok]
    cases hc : (List.range n).all fun i => f i == g i
    · simp [Sem.run_pure]
    · simp [Sem.run_pure]
  · intro i hi s
    have p1 : (part e xs (i * 1)).run P w = .ok (.int .u8 (f i)) w := by
      unfold part
      simp [Sem.run_bind, ha, hx i hi, Sem.run_pure, Result.andThen]
    have p2 : (part e ys (i * 1)).run P w = .ok (.int .u8 (g i)) w := by
      unfold part
      simp [Sem.run_bind, ha, hy i hi, Sem.run_pure, Result.andThen]
    simp only [Sem.run_bind, p1, p2, Result.andThen_ok]
    have p3 : (Op.equalIn (d + 1) e (.int .u8 (f i)) (.int .u8 (g i))).run P w = .ok (f i == g i) w := by
      unfold Op.equalIn
      simp [Sem.run_bind, run_underlying he, Sem.run_pure, Result.andThen]
    rw [p3]
    cases hb : f i == g i
    · simp [Sem.run_pure, Result.andThen]
    · simp [Sem.run_pure, Result.andThen]
section
variable {P : Program} {w : World} {ops : Array Oper} {rest : List Oper} {a : Act} {Q : Exit → Act → World → Prop} {dst : Option Tmp} {ty : TypeId} {pos : String} {aft : Array Edge} {gd : Option (Nat × Bool)}
/-- Two arrays of bytes compared. -/
theorem r_eql_arr (t e : TypeId) (n : Nat) (x y : Operand) (yt : TypeId) (hu : P.underlying t = some (.array n e)) (he : P.underlying e = some (.int .u8)) (hs : ∀ w, (sizeOf e).run P w = .ok 1 w) (ha : ∀ w, (isAgg e).run P w = .ok false w) (hm : P.eqGuardType P.depth t = false)
    (xs ys : Array Value) (f g : Nat → Int) (hx0 : a.eval x = .agg xs) (hy0 : a.eval y = .agg ys) (hx : ∀ i, i < n → xs[i]? = some (.int .u8 (f i))) (hy : ∀ i, i < n → ys[i]? = some (.int .u8 (g i)))
    (hgd : Region.wanted ⟨dst, .binOp .eql t x y yt, ty, pos, aft, gd⟩ (yielded ops a.tmps) = true)
    (h : wpList P ops Q rest (a.put dst (.bool ((List.range n).all fun i => f i == g i))) w) : wpList P ops Q (⟨dst, .binOp .eql t x y yt, ty, pos, aft, gd⟩ :: rest) a w :=
  wpList_want hgd fun _ hK => by
    unfold Oper.wp execOp
    simp only [hx0, hy0, Sem.run_bind, run_eqGuard_agg (w := w) .eql t x y xs ys hm, Result.andThen_ok, run_eql_struct, run_equal_arr (w := w) 9998 t e n hu he hs ha xs ys f g hx hy, Sem.run_pure, Oper.upon]
    exact hK _ _ h
end
/-- Two grids are the same. -/
def sameB (g k : Grid) : Bool := (g.w == k.w) && (g.h == k.h) && (List.range 36).all fun i => (((at0 g.c i).toNat : Int) == ((at0 k.c i).toNat : Int))
theorem blk_range {w : World} {B : Nat} {W H : Int} {c : List UInt8} {T : TypeId} (h : Blk w B (gv W H c) T) : w.rangeAt B 2 (cellsL 36 c) := by
  intro j v hj
  have hj36 : j < 36 := by
    rcases Nat.lt_or_ge j 36 with h | h
    · exact h
    · rw [List.getElem?_eq_none (by rw [cellsL_length]; exact h)] at hj; cases hj
  rw [h.cell (2 + j), gv_c W H c j hj36]
  rw [cellsL_get 36 c j hj36] at hj
  exact hj
theorem cellsL_arr (c : List UInt8) (i : Nat) (hi : i < 36) : (cellsL 36 c).toArray[i]? = some (.int .u8 (at0 c i).toNat) := by
  rw [List.getElem?_toArray]; exact cellsL_get 36 c i hi
theorem Tryd.a36 : (Tryd.prog.info? 44).map (·.size) = some 36 := by kernel_rfl
theorem Tryd.noGuard : Tryd.prog.eqGuardType Tryd.prog.depth 44 = false := by kernel_rfl
set_option maxHeartbeats 600000 in
set_option maxRecDepth 100000 in
theorem isSame_any (g k : Grid) (w : World) : Calls Tryd.prog 49 #[.agg (gvG g), .agg (gvG k)] w (Ret (.bool (sameB g k)) w) := by
  have gg := Gr.refl w
  unfold gvG
  by_cases hw : g.w = k.w
  · have e1 : ((g.w : Int) == (k.w : Int)) = true := by rw [hw]; simp
    by_cases hh : g.h = k.h
    · have e2 : ((g.h : Int) == (k.h : Int)) = true := by rw [hh]; simp
      obtain ⟨b, hb⟩ : ∃ b, b = (List.range 36).all fun i => (((at0 g.c i).toNat : Int) == ((at0 k.c i).toNat : Int)) := ⟨_, rfl⟩
      have HV := hidI (show sameB g k = b from by unfold sameB; rw [hw, hh, ← hb]; simp)
      have HB := hidI hb
      clear hw hh hb
      go_enter Tryd.func49, Tryd.ntmps49
      go_wp2_with (first | (refine r_box (dst := some 2) 46 _ (gv g.w g.h g.c) rfl rfl ?_; intro w1 B1 N1; have g1 := N1.gr; have b1 : Blk w1 B1 (gv g.w g.h g.c) 46 := N1.blk; have l1 := N1.lo; have t1 := N1.hi; have z1 := g1.size; have gg := gg.trans g1; clear N1; obtain ⟨b1_0, b1_1, b1_2⟩ := gcells b1) | (refine r_box (dst := some 3) 46 _ (gv k.w k.h k.c) rfl rfl ?_; intro w2 B2 N2; have g2 := N2.gr; have b2 : Blk w2 B2 (gv k.w k.h k.c) 46 := N2.blk; have l2 := N2.lo; have t2 := N2.hi; have z2 := g2.size; have b1 := g2.blk b1; obtain ⟨b1_0, b1_1, b1_2⟩ := gcells b1; have gg := gg.trans g2; clear N2; obtain ⟨b2_0, b2_1, b2_2⟩ := gcells b2) | (refine r_load_mid 44 (.tmp 18) B1 2 (cellsL 36 g.c) _ rfl (blk_range b1) Tryd.underlying44 rfl (by rw [cellsL_length]; exact Tryd.a36) rfl ?_) | (refine r_load_mid 44 (.tmp 20) B2 2 (cellsL 36 k.c) _ rfl (blk_range b2) Tryd.underlying44 rfl (by rw [cellsL_length]; exact Tryd.a36) rfl ?_) | (refine r_eql_arr 44 5 36 _ _ _ Tryd.underlying44 Tryd.underlying5 Tryd.sizeOf5 Tryd.isAgg5 Tryd.noGuard (cellsL 36 g.c).toArray (cellsL 36 k.c).toArray (fun i => ((at0 g.c i).toNat : Int)) (fun i => ((at0 k.c i).toNat : Int)) rfl rfl (cellsL_arr g.c) (cellsL_arr k.c) rfl ?_; rw [← HB.out]))
      go_ret
      exact ⟨ret_bool HV.out.symm, gg⟩
    · have e2 : ((g.h : Int) == (k.h : Int)) = false := by rw [beq_eq_false_iff_ne]; omega
      have HV := hidI (show sameB g k = false from by unfold sameB; simp [hh])
      clear hw hh
      go_enter Tryd.func49, Tryd.ntmps49
      go_wp2_with (first | (refine r_box (dst := some 2) 46 _ (gv g.w g.h g.c) rfl rfl ?_; intro w1 B1 N1; have g1 := N1.gr; have b1 : Blk w1 B1 (gv g.w g.h g.c) 46 := N1.blk; have l1 := N1.lo; have t1 := N1.hi; have z1 := g1.size; have gg := gg.trans g1; clear N1; obtain ⟨b1_0, b1_1, b1_2⟩ := gcells b1) | (refine r_box (dst := some 3) 46 _ (gv k.w k.h k.c) rfl rfl ?_; intro w2 B2 N2; have g2 := N2.gr; have b2 : Blk w2 B2 (gv k.w k.h k.c) 46 := N2.blk; have l2 := N2.lo; have t2 := N2.hi; have z2 := g2.size; have b1 := g2.blk b1; obtain ⟨b1_0, b1_1, b1_2⟩ := gcells b1; have gg := gg.trans g2; clear N2; obtain ⟨b2_0, b2_1, b2_2⟩ := gcells b2))
      go_ret
      exact ⟨ret_bool HV.out.symm, gg⟩
  · have e1 : ((g.w : Int) == (k.w : Int)) = false := by rw [beq_eq_false_iff_ne]; omega
    have HV := hidI (show sameB g k = false from by unfold sameB; simp [hw])
    clear hw
    go_enter Tryd.func49, Tryd.ntmps49
    go_wp2_with (first | (refine r_box (dst := some 2) 46 _ (gv g.w g.h g.c) rfl rfl ?_; intro w1 B1 N1; have g1 := N1.gr; have b1 : Blk w1 B1 (gv g.w g.h g.c) 46 := N1.blk; have l1 := N1.lo; have t1 := N1.hi; have z1 := g1.size; have gg := gg.trans g1; clear N1; obtain ⟨b1_0, b1_1, b1_2⟩ := gcells b1) | (refine r_box (dst := some 3) 46 _ (gv k.w k.h k.c) rfl rfl ?_; intro w2 B2 N2; have g2 := N2.gr; have b2 : Blk w2 B2 (gv k.w k.h k.c) 46 := N2.blk; have l2 := N2.lo; have t2 := N2.hi; have z2 := g2.size; have b1 := g2.blk b1; obtain ⟨b1_0, b1_1, b1_2⟩ := gcells b1; have gg := gg.trans g2; clear N2; obtain ⟨b2_0, b2_1, b2_2⟩ := gcells b2))
    go_ret
    exact ⟨ret_bool HV.out.symm, gg⟩
/-- How many of the first k moves leave the grid as it is. -/
def keepTo (g : Grid) : Nat → Nat
  | 0 => 0
  | k + 1 => keepTo g k + if sameB g (moveG k g) then 1 else 0
theorem keepTo_le (g : Grid) (k : Nat) : keepTo g k ≤ k := by
  induction k with
  | zero => exact Nat.le_refl _
  | succ k ih => unfold keepTo; split <;> omega
def keN (l : List UInt8) : Nat := if rdOk l then keepTo (rdG l) 8 else 0
set_option maxHeartbeats 800000 in
set_option maxRecDepth 100000 in
theorem iKeepersOf (s : ByteArray) (w : World) (hm : ML w) (hs : s.size ≤ 1048576) : Calls Tryd.prog 18 #[.string s] w (Ret (.tuple #[.int .i64 (keN s.data.toList), .bool (rdOk s.data.toList)]) w) := by
  have gg := Gr.refl w
  rcases rd_cases s.data.toList with ⟨hp, hg, hk⟩ | ⟨g, hp, hg, hk⟩
  · have HK := hidI hk
    have HV := hidI (show keN s.data.toList = 0 from by unfold keN; rw [hk]; rfl)
    clear hp hg hk
    go_enter Tryd.func18, Tryd.ntmps18
    go_wp2_with (first | (go_at_call 44; refine (readTray_any s _ hm hs).mono ?_; rintro e w1 ⟨rfl, g1⟩; rw [HK.out]; have z1 := g1.size; have gg := gg.trans g1) | (refine r_alloc 46 _ Tryd.gzero rfl ?_; intro w2 B2 N2; have g2 := N2.gr; have b2 : Blk w2 B2 (gv 0 0 []) 46 := N2.blk; have l2 := N2.lo; have t2 := N2.hi; have z2 := g2.size; have gg := gg.trans g2; clear N2; obtain ⟨b2_0, b2_1, b2_2⟩ := gcells b2) | (refine r_store_row 46 46 _ _ _ rfl (gv _ _ _) _ rfl b2 (Tryd.gsize' _ _ _) (by simp only [gv_size]) (gv_one _ _ _) rfl ?_; intro w3 u3 b2'; have z3 := u3.size; have gg := u3.gr gg (by omega); clear b2; have b2 := b2'; clear b2'; obtain ⟨b2_0, b2_1, b2_2⟩ := gcells b2))
    go_ret2
    exact ⟨fin_nb (by rw [HV.out]; rfl) (by rw [HK.out]), gg⟩
  · have HK := hidI hk
    have HG := hidI hg
    have ht := (parse_tray hp).good
    have HV := hidI (show keN s.data.toList = keepTo g 8 from by unfold keN; rw [hk, hg]; rfl)
    clear hp hg hk
    go_enter Tryd.func18, Tryd.ntmps18
    go_wp2_with (first | (go_at_call 44; refine (readTray_any s _ hm hs).mono ?_; rintro e w1 ⟨rfl, g1⟩; rw [HK.out, HG.out, gvG]; have z1 := g1.size; have gg := gg.trans g1) | (refine r_alloc 46 _ Tryd.gzero rfl ?_; intro w2 B2 N2; have g2 := N2.gr; have b2 : Blk w2 B2 (gv 0 0 []) 46 := N2.blk; have l2 := N2.lo; have t2 := N2.hi; have z2 := g2.size; have gg := gg.trans g2; clear N2; obtain ⟨b2_0, b2_1, b2_2⟩ := gcells b2) | (refine r_store_row 46 46 _ _ _ rfl (gv g.w g.h g.c) _ rfl b2 (Tryd.gsize' _ _ _) (by simp only [gv_size]) (gv_one _ _ _) rfl ?_; intro w3 u3 b2'; have z3 := u3.size; have gg := u3.gr gg (by omega); clear b2; have b2 := b2'; clear b2'; obtain ⟨b2_0, b2_1, b2_2⟩ := gcells b2))
    go_loopw [6, 7, 15] (fun n _ i wr => ∃ k : Nat, k ≤ 8 ∧ i = .int .i64 k ∧ n = .int .i64 (keepTo g k) ∧ Blk wr B2 (gv g.w g.h g.c) 46 ∧ Gr w wr) (fun _ _ i _ => 8 - (intOf i).toNat)
    case atStart => exact ⟨0, by omega, rfl, rfl, b2, gg⟩
    case round =>
      obtain ⟨k, hk, rfl, rfl, b2, gg⟩ := hrel
      by_cases hlt : k < 8
      · have hle := keepTo_le g k
        by_cases hb : sameB g (moveG k g) = true
        · have HB := hidI hb
          have HS := hidI (show keepTo g (k + 1) = keepTo g k + 1 from by rw [keepTo, if_pos hb])
          clear hb
          go_wp2
          refine q_whole (by kernel_rfl) (by kernel_rfl) ?_
          refine q_take (.agg (gv _ _ _)) rfl (fun w' hw' => e_load_row 46 (.tmp 4) _ _ _ _ rfl (hw'.blk b2) Tryd.underlying46 rfl (Tryd.ginfo' _ _ _)) ?_; simp only [Act.put, List.setIfInBounds_toArray, List.set_cons_succ, List.set_cons_zero]
          refine q_take (.agg (gv _ _ _)) rfl (fun w' hw' => e_load_row 46 (.tmp 4) _ _ _ _ rfl (hw'.blk b2) Tryd.underlying46 rfl (Tryd.ginfo' _ _ _)) ?_; simp only [Act.put, List.setIfInBounds_toArray, List.set_cons_succ, List.set_cons_zero]
          refine q_move _ (.int .i64 k) rfl rfl ?_; simp only [Act.put, List.setIfInBounds_toArray, List.set_cons_succ, List.set_cons_zero]
          refine q_call 46 [.tmp 19, .tmp 20] _ [.agg (gvG g), .int .i64 k] (.agg (gvG (moveG k g))) Tryd.call46 rfl rfl (fun w' hw' => ((movedBy_any k g w' ht hlt).mono fun e w'' h => ⟨h.1, hw'.trans h.2⟩)) ?_; simp only [Act.put, List.setIfInBounds_toArray, List.set_cons_succ, List.set_cons_zero]
          refine q_call 49 [.tmp 18, .tmp 21] _ [.agg (gvG g), .agg (gvG (moveG k g))] (.bool (sameB g (moveG k g))) Tryd.call49 rfl rfl (fun w' hw' => ((isSame_any g (moveG k g) w').mono fun e w'' h => ⟨h.1, hw'.trans h.2⟩)) ?_; simp only [Act.put, List.setIfInBounds_toArray, List.set_cons_succ, List.set_cons_zero]
          rw [HB.out]
          refine wpQuiet_nil ?_; intro w7 g7; have z7 := g7.size; have b2 := g7.blk b2; have gg := gg.trans g7
          go_wp2
          go_roundw
          case rel => exact ⟨k + 1, by omega, by go_num, by rw [HS.out]; go_num, b2, gg⟩
          case measure => simp [intOf]; omega
        · have HB := hidI (show sameB g (moveG k g) = false from by simpa using hb)
          have HS := hidI (show keepTo g (k + 1) = keepTo g k from by rw [keepTo, if_neg hb]; rfl)
          clear hb
          go_wp2
          refine q_whole (by kernel_rfl) (by kernel_rfl) ?_
          refine q_take (.agg (gv _ _ _)) rfl (fun w' hw' => e_load_row 46 (.tmp 4) _ _ _ _ rfl (hw'.blk b2) Tryd.underlying46 rfl (Tryd.ginfo' _ _ _)) ?_; simp only [Act.put, List.setIfInBounds_toArray, List.set_cons_succ, List.set_cons_zero]
          refine q_take (.agg (gv _ _ _)) rfl (fun w' hw' => e_load_row 46 (.tmp 4) _ _ _ _ rfl (hw'.blk b2) Tryd.underlying46 rfl (Tryd.ginfo' _ _ _)) ?_; simp only [Act.put, List.setIfInBounds_toArray, List.set_cons_succ, List.set_cons_zero]
          refine q_move _ (.int .i64 k) rfl rfl ?_; simp only [Act.put, List.setIfInBounds_toArray, List.set_cons_succ, List.set_cons_zero]
          refine q_call 46 [.tmp 19, .tmp 20] _ [.agg (gvG g), .int .i64 k] (.agg (gvG (moveG k g))) Tryd.call46 rfl rfl (fun w' hw' => ((movedBy_any k g w' ht hlt).mono fun e w'' h => ⟨h.1, hw'.trans h.2⟩)) ?_; simp only [Act.put, List.setIfInBounds_toArray, List.set_cons_succ, List.set_cons_zero]
          refine q_call 49 [.tmp 18, .tmp 21] _ [.agg (gvG g), .agg (gvG (moveG k g))] (.bool (sameB g (moveG k g))) Tryd.call49 rfl rfl (fun w' hw' => ((isSame_any g (moveG k g) w').mono fun e w'' h => ⟨h.1, hw'.trans h.2⟩)) ?_; simp only [Act.put, List.setIfInBounds_toArray, List.set_cons_succ, List.set_cons_zero]
          rw [HB.out]
          refine wpQuiet_nil ?_; intro w7 g7; have z7 := g7.size; have b2 := g7.blk b2; have gg := gg.trans g7
          go_wp2
          go_roundw
          case rel => exact ⟨k + 1, by omega, by go_num, by rw [HS.out], b2, gg⟩
          case measure => simp [intOf]; omega
      · obtain rfl : k = 8 := by omega
        clear hlt
        go_wp2
        go_ret2
        exact ⟨fin_nb (by rw [HV.out]) (by rw [HK.out]), gg⟩
/-- A tray and what the moves make of it. -/
structure All (g : Grid) : Prop where
  good : Good g
  w1 : 1 ≤ g.w
  h1 : 1 ≤ g.h
  cells : ∀ i, i < g.c.length → isCellB (at0 g.c i) = true
theorem All.turn {g : Grid} (h : All g) : All (turnG g) := ⟨h.good.turn, h.h1, h.w1, tuS_cells (Nat.lt_of_lt_of_le Nat.zero_lt_one h.h1) h.good.len h.cells⟩
theorem All.mir {g : Grid} (h : All g) : All (mirG g) := ⟨h.good.mir, h.w1, h.h1, miC_cells (Nat.lt_of_lt_of_le Nat.zero_lt_one h.w1) h.good.len h.cells⟩
theorem All.turnN {g : Grid} (h : All g) (k : Nat) : All (turnN k g) := by
  induction k with
  | zero => exact h
  | succ k ih => rw [turnN_succ]; exact ih.turn
theorem All.move {g : Grid} (h : All g) (k : Nat) : All (moveG k g) := by
  unfold moveG
  split
  · exact h.mir.turnN _
  · exact h.turnN _
theorem same_text {s : ByteArray} {g : Grid} (hp : parse s.data.toList = some g) (k : Nat) : sameB g (moveG k g) = decide (txtB (moveG k g).w (moveG k g).h (moveG k g).c = s) := by
  have ht := parse_tray hp
  have hg : All g := ⟨ht.good, ht.w1, ht.h1, ht.cells⟩
  have hm := hg.move k
  generalize moveG k g = m at hm
  have hs : s = txtB g.w g.h g.c := by
    apply ByteArray.ext
    apply Array.toList_inj.1
    rw [txtB_data, parse_text hp]
  rw [Bool.eq_iff_iff, decide_eq_true_eq]
  constructor
  · intro h
    unfold sameB at h
    rw [Bool.and_eq_true, Bool.and_eq_true, beq_iff_eq, beq_iff_eq, List.all_eq_true] at h
    obtain ⟨⟨h1, h2⟩, h3⟩ := h
    have hc : m.c = g.c := by
      apply list_ext (by rw [hm.good.len, hg.good.len, h1, h2])
      intro i hi
      have hi36 : i < 36 := by have := hm.good.len; have := hm.good.n36; omega
      have := h3 i (List.mem_range.2 hi36)
      rw [beq_iff_eq] at this
      exact UInt8.toNat_inj.1 (by omega)
    rw [hs, ← h1, ← h2, hc]
  · intro h
    rw [hs] at h
    have e : txtL m.w m.c m.h = txtL g.w g.c g.h := by rw [← txtB_data, ← txtB_data, h]
    obtain ⟨e1, e2, e3⟩ := txt_inj hm.w1 hm.h1 hg.h1 hm.good.len hg.good.len (cell_plain hm.cells) (cell_plain hg.cells) e
    unfold sameB
    rw [e1, e2, e3]
    simp
set_option maxHeartbeats 1600000 in
set_option maxRecDepth 100000 in
theorem sKeepersOf (s : ByteArray) (w : World) (hs : s.size ≤ 1048576) : Calls Tryd.prog 17 #[.string s] w (Ret (.tuple #[.int .i64 (keN s.data.toList), .bool (rdOk s.data.toList)]) w) := by
  have gg := Gr.refl w
  go_enter Tryd.func17, Tryd.ntmps17
  go_wp2_with fail
  refine (tyRead_any s _ hs).mono ?_
  rintro e w1 ⟨g1, ⟨hp, rfl⟩ | ⟨g, sl, hp, rfl, hown⟩⟩
  · have HK := hidI (rd_parse_none hp).2
    have HV := hidI (show keN s.data.toList = 0 from by unfold keN; rw [HK.out]; rfl)
    have z1 := g1.size
    have gg := gg.trans g1
    clear hp
    go_wp2_with (first | (refine r_alloc 40 _ Tryd.tzero rfl ?_; intro w2 B2 N2; have g2 := N2.gr; have b2 : Blk w2 B2 (tg 0 0 (.slice none 0 0)) 40 := N2.blk; have l2 := N2.lo; have t2 := N2.hi; have z2 := g2.size; have gg := gg.trans g2; clear N2; obtain ⟨b2_0, b2_1, b2_2⟩ := tcells b2) | (refine r_store_row 40 40 _ _ _ rfl (tg _ _ _) _ rfl b2 Tryd.tsize rfl (tg_one rfl) rfl ?_; intro w3 u3 b2'; have z3 := u3.size; have gg := u3.gr gg (by omega); clear b2; have b2 := b2'; clear b2'; obtain ⟨b2_0, b2_1, b2_2⟩ := tcells b2))
    go_ret2
    exact ⟨fin_nb (by rw [HV.out]; rfl) (by rw [HK.out]), gg⟩
  · obtain ⟨hg, hk⟩ := rd_parse_some hp
    have ht := parse_tray hp
    have z1 := g1.size
    have gg := gg.trans g1
    have hone := own_one hown
    have HK := hidI hk
    have HV := hidI (show keN s.data.toList = keepTo g 8 from by unfold keN; rw [hk, hg]; rfl)
    have HP := hidI hp
    have hgood := ht.good
    have hw1 := ht.w1
    have hh1 := ht.h1
    clear hp hg hk
    go_wp2_with (first | (refine r_alloc 40 _ Tryd.tzero rfl ?_; intro w2 B2 N2; have g2 := N2.gr; have b2 : Blk w2 B2 (tg 0 0 (.slice none 0 0)) 40 := N2.blk; have l2 := N2.lo; have t2 := N2.hi; have z2 := g2.size; have gg := gg.trans g2; clear N2; obtain ⟨b2_0, b2_1, b2_2⟩ := tcells b2) | (refine r_store_row 40 40 _ _ _ rfl (tg _ _ _) _ rfl b2 Tryd.tsize rfl (tg_one hone) rfl ?_; intro w3 u3 b2'; have z3 := u3.size; have gg := u3.gr gg (by omega); clear b2; have b2 := b2'; clear b2'; obtain ⟨b2_0, b2_1, b2_2⟩ := tcells b2) | (refine r_load_row 40 _ _ rfl _ _ _ b2 Tryd.underlying40 rfl Tryd.tinfo rfl ?_))
    refine (tyEight_any g sl w.heap.size _ ht (u3.row (g2.row hown) (own_new hown l2))).mono ?_
    rintro e w4 ⟨g4, v4, L, rfl, hL, own, hE⟩
    have gg := gg.trans g4
    obtain ⟨R, cap, rfl, -, -⟩ := own_shape own (by decide)
    go_wp2_with fail
    go_loopw [6, 8, 19] (fun n _ i wr => ∃ k : Nat, k ≤ 8 ∧ i = .int .i64 k ∧ n = .int .i64 (keepTo g k) ∧ Gr w4 wr) (fun _ _ i _ => 8 - (intOf i).toNat)
    case atStart => exact ⟨0, by omega, rfl, rfl, Gr.refl w4⟩
    case round =>
      obtain ⟨k, hk, rfl, rfl, gr⟩ := hrel
      have gg := gg.trans gr
      have zg := gg.size
      by_cases hlt : k < 8
      · obtain ⟨p, hp⟩ : ∃ p, L[k]? = some p := ⟨L[k], List.getElem?_eq_getElem (by omega)⟩
        obtain ⟨hpm, hpo⟩ := hE.at' k p hp
        have hrange := gr.range (grid_range own hL hp)
        have hpo := gr.row hpo
        have hgm := hgood.move k
        have hps := move_pos g hw1 hh1 k
        have hst := same_text HP.out k
        have hle := keepTo_le g k
        obtain ⟨t, st⟩ := p
        have hpm' : t = moveG k g := hpm
        have hks : keepTo g (k + 1) = keepTo g k + if sameB g (moveG k g) then 1 else 0 := rfl
        rw [← hpm'] at hgm hps hst hks
        obtain ⟨tw1, th1⟩ := hps
        have tw7 := hgm.w7
        have th7 := hgm.h7
        have t36 := hgm.n36
        have tlen := hgm.len
        have hone2 := own_one hpo
        have HR := hidI hrange
        clear hpm hpm' hrange hgm hp
        have hq := eql_bool (txtB t.w t.h t.c) s
        rw [← hst] at hq
        by_cases hb : sameB g t = true
        · rw [hb] at hq
          rw [if_pos hb] at hks
          have HS := hidI hks
          clear hb hks hst
          go_wp2_with (first | (refine r_val (.pointer (some ⟨R, k * 3, none⟩)) (e_val _ _ (Tryd.gidx R 8 cap k hlt _)) rfl ?_) | (refine r_load_mid 40 _ R (k * 3) [.int .i64 t.w, .int .i64 t.h, st] _ rfl HR.out Tryd.underlying40 rfl Tryd.tinfo rfl ?_) | (refine r_alloc 40 _ Tryd.tzero rfl ?_; intro w5 B5 N5; have g5 := N5.gr; have b5 : Blk w5 B5 (tg 0 0 (.slice none 0 0)) 40 := N5.blk; have l5 := N5.lo; have t5 := N5.hi; have z5 := g5.size; have gg := gg.trans g5; clear N5; obtain ⟨b5_0, b5_1, b5_2⟩ := tcells b5) | (refine r_store_row 40 40 _ _ _ rfl (tg _ _ _) _ rfl b5 Tryd.tsize rfl (tg_one hone2) rfl ?_; intro w6 u6 b5'; have z6 := u6.size; have gg := u6.gr gg (by omega); clear b5; have b5 := b5'; clear b5'; obtain ⟨b5_0, b5_1, b5_2⟩ := tcells b5) | (refine r_load_row 40 _ _ rfl _ _ _ b5 Tryd.underlying40 rfl Tryd.tinfo rfl ?_) | (go_at_call 48; refine (tyText_n t.w t.h 0 t.c.length t.c st _ tw1 th1 tw7 th7 t36 tlen rfl (u6.row (g5.row hpo) (own_new hpo l5))).mono ?_; rintro e w9 ⟨rfl, g9⟩; have gr' := (u6.gr (gr.trans g5) (by have := gr.size; omega)).trans g9))
          go_roundw
          case rel => exact ⟨k + 1, by omega, by go_num, by rw [HS.out]; go_num, gr'⟩
          case measure => simp [intOf]; omega
        · have hb' : sameB g t = false := by simpa using hb
          rw [hb'] at hq
          rw [if_neg hb] at hks
          have HS := hidI hks
          clear hb hb' hks hst
          go_wp2_with (first | (refine r_val (.pointer (some ⟨R, k * 3, none⟩)) (e_val _ _ (Tryd.gidx R 8 cap k hlt _)) rfl ?_) | (refine r_load_mid 40 _ R (k * 3) [.int .i64 t.w, .int .i64 t.h, st] _ rfl HR.out Tryd.underlying40 rfl Tryd.tinfo rfl ?_) | (refine r_alloc 40 _ Tryd.tzero rfl ?_; intro w5 B5 N5; have g5 := N5.gr; have b5 : Blk w5 B5 (tg 0 0 (.slice none 0 0)) 40 := N5.blk; have l5 := N5.lo; have t5 := N5.hi; have z5 := g5.size; have gg := gg.trans g5; clear N5; obtain ⟨b5_0, b5_1, b5_2⟩ := tcells b5) | (refine r_store_row 40 40 _ _ _ rfl (tg _ _ _) _ rfl b5 Tryd.tsize rfl (tg_one hone2) rfl ?_; intro w6 u6 b5'; have z6 := u6.size; have gg := u6.gr gg (by omega); clear b5; have b5 := b5'; clear b5'; obtain ⟨b5_0, b5_1, b5_2⟩ := tcells b5) | (refine r_load_row 40 _ _ rfl _ _ _ b5 Tryd.underlying40 rfl Tryd.tinfo rfl ?_) | (go_at_call 48; refine (tyText_n t.w t.h 0 t.c.length t.c st _ tw1 th1 tw7 th7 t36 tlen rfl (u6.row (g5.row hpo) (own_new hpo l5))).mono ?_; rintro e w9 ⟨rfl, g9⟩; have gr' := (u6.gr (gr.trans g5) (by have := gr.size; omega)).trans g9))
          go_roundw
          case rel => exact ⟨k + 1, by omega, by go_num, by rw [HS.out]; rfl, gr'⟩
          case measure => simp [intOf]; omega
      · obtain rfl : k = 8 := by omega
        clear hlt
        go_wp2
        go_ret2
        exact ⟨fin_nb (by rw [HV.out]) (by rw [HK.out]), gg⟩
set_option maxHeartbeats 1000000 in
theorem lawKeepersOf (s : ByteArray) (w : World) (hm : ML w) : Calls Tryd.prog 4 #[.string s] w (Ret (.bool true) w) := by
  have gg := Gr.refl w
  by_cases hs : 1048576 < s.size
  · go_enter Tryd.func4, Tryd.ntmps4
    go_wp2
    go_ret
    exact ⟨rfl, gg⟩
  · have hs' : s.size ≤ 1048576 := by omega
    clear hs
    go_enter Tryd.func4, Tryd.ntmps4
    go_wp2_with (first | (go_at_call 17; refine (sKeepersOf s _ hs').mono ?_; rintro e w1 ⟨rfl, g1⟩; have z1 := g1.size; have gg := gg.trans g1) | (go_at_call 18; refine (iKeepersOf s _ (gg.ml hm) hs').mono ?_; rintro e w2 ⟨rfl, g2⟩; have z2 := g2.size; have gg := gg.trans g2))
    go_ret
    exact ⟨rfl, gg⟩
end Go.Proofs.YthjkeohnjggmiaaDoor
