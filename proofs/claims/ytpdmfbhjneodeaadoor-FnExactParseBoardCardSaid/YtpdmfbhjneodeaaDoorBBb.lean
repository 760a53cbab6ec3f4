/-
  Boards that are read by the program, moves of the hole, and the parity.
  The laws' helpers on boards: copied, compared, marked and held.
  Boards in the model: whether it is one; the laws on boards and on the hole.
-/
import Derived.Test.YtpdmfbhjneodeaaDoorBBa
import Derived.Test.YtpdmfbhjneodeaaDoorBSp
namespace Go.Proofs.YtpdmfbhjneodeaaDoor
open Go.RowKit
theorem cellsI_eq (n : Nat) (c : List Int) (h : c.length ≤ n) : cellsI n c = intsV c ++ List.replicate (n - c.length) (.int .i64 0) := by
  apply List.ext_getElem?
  intro i
  by_cases hi : i < n
  · rw [cellsI_get n c i hi]
    unfold gi intsV
    by_cases hc : i < c.length
    · rw [List.getElem?_append_left (by simpa using hc)]
      simp [List.getD, hc]
    · rw [List.getElem?_append_right (by simpa using hc), List.getElem?_replicate, if_pos (by simp; omega)]
      simp [List.getD, List.getElem?_eq_none (show c.length ≤ i by omega)]
  · rw [List.getElem?_eq_none (by rw [cellsI_length]; omega), List.getElem?_eq_none (by simp [intsV]; omega)]
theorem lv_copy (W H : Int) (L : List Int) (h : L.length ≤ 9) :
    ((lv W H []).toList.take 2 ++ intsV L ++ (lv W H []).toList.drop (2 + L.length)).toArray = lv W H L := by
  have e : (lv W H []).toList = [Value.int .i64 W, Value.int .i64 H] ++ List.replicate 9 (.int .i64 0) := by
    unfold lv; rw [cellsI_eq 9 [] (by simp)]; rfl
  have e2 : lv W H L = ([Value.int .i64 W, Value.int .i64 H] ++ (intsV L ++ List.replicate (9 - L.length) (Value.int .i64 0))).toArray := by
    unfold lv; rw [cellsI_eq 9 L h]
  rw [e, e2]
  congr 1
  have h2 : List.drop (2 + L.length) ([Value.int .i64 W, Value.int .i64 H] ++ List.replicate 9 (.int .i64 0)) = List.replicate (9 - L.length) (Value.int .i64 0) := by
    rw [List.drop_append, List.drop_of_length_le (by simp), List.nil_append, List.drop_replicate]
    congr 1
    show 9 - (2 + L.length - 2) = 9 - L.length
    omega
  rw [h2]
  simp
section
variable {P : Program} {w : World} {ops : Array Oper} {rest : List Oper} {a : Act} {Q : Exit → Act → World → Prop} {dst : Option Tmp} {ty : TypeId} {pos : String} {aft : Array Edge} {gd : Option (Nat × Bool)}
theorem r_copy_row (d s : Operand) (dT sT elem t : TypeId) (hu : P.underlying dT = some (.slice elem)) (hs : (P.info? elem).map (·.size) = some 1) (B off dLen dCap : Nat) (cur : Array Value)
    (A : Option Addr) (m c : Nat) (news : List Value) (hd : a.eval d = .slice (some ⟨B, off, none⟩) dLen dCap) (hx : a.eval s = .slice A m c) (hB : Blk w B cur t) (hr : Rd w A m news) (hm : 0 < m) (hle : m ≤ dLen) (hfit : off + m ≤ cur.size) (h1 : ∀ v ∈ news, v.oneCell' = true)
    (hgd : Region.wanted ⟨dst, .call { callee := .builtin .copy, args := #[d, s], argTypes := #[dT, sT] }, ty, pos, aft, gd⟩ (yielded ops a.tmps) = true)
    (h : ∀ w1, Upd B w w1 → Blk w1 B (cur.toList.take off ++ news ++ cur.toList.drop (off + m)).toArray t → wpList P ops Q rest (a.put dst (goInt m)) w1) : wpList P ops Q (⟨dst, .call { callee := .builtin .copy, args := #[d, s], argTypes := #[dT, sT] }, ty, pos, aft, gd⟩ :: rest) a w :=
  wpList_want hgd fun _ hK => by
    obtain ⟨ad, rfl, hc⟩ := hr.2 hm
    have hl := hr.1
    have hrun := run_copy_row (P := P) w dT sT ty elem B off dLen dCap ad m c cur t news hu hs hB (by rw [hl]; exact (Nat.min_eq_left hle).symm) hc (by omega) h1
    rw [hl] at hrun
    unfold Oper.wp execOp
    simp only [resolve, invoke, builtin, Sem.run_bind, Sem.run_pure, Result.andThen_ok, List.map_toArray, List.map_cons, List.map_nil, hd, hx, hrun, Oper.upon]
    exact hK _ _ (h _ (Upd.setRow w B _) (setRow_heap w B cur _ t _ hB))
end
section
variable {P : Program} {w : World} {a : Act} {dst : Option Tmp} {ty : TypeId} {pos : String} {aft : Array Edge} {gd : Option (Nat × Bool)}
theorem e_quoD {T yt : TypeId} (x y : Operand) (m n : Nat) (hx : a.eval x = .int .i64 m) (hy : a.eval y = .int .i64 n) (hn : 0 < n) (hm : m ≤ 9223372036854775807) :
    (execOp a.eval ⟨dst, .binOp .quo T x y yt, ty, pos, aft, gd⟩).run P w = .ok (.value (.int .i64 (m / n : Nat))) w := by
  unfold execOp
  simp only [hx, hy, eqGuard_quo, Sem.run_bind, Sem.run_pure, Result.andThen_ok, run_quo T m n hn hm]
theorem e_len (T e : TypeId) (x : Operand) (A : Option Addr) (n c : Nat) (hx : a.eval x = .slice A n c) (hu : P.underlying T = some (.slice e)) :
    (execOp a.eval ⟨dst, .call { callee := .builtin .len, args := #[x], argTypes := #[T] }, ty, pos, aft, gd⟩).run P w = .ok (.value (.int .i64 n)) w := by
  have he : P.elem T = e := by unfold Program.elem; simp [hu]
  unfold execOp
  simp only [resolve, invoke, builtin, Sem.run_bind, Sem.run_pure, Result.andThen_ok, List.map_toArray, List.map_cons, List.map_nil, hx, run_len_slice (P := P) w T ty A n c (by rw [he]; exact hu)]
  rfl
end
section
variable {P : Program} {w : World} {a : Act} {dst : Option Tmp} {ty : TypeId} {pos : String} {aft : Array Edge} {gd : Option (Nat × Bool)}
theorem e_build (T : TypeId) (l : List (Nat × Operand)) (ps : List (Nat × Value)) (v : Value) (hr : (Instr.build T ps.toArray).run P w = .ok v w) (hp : l.map (fun x => (x.1, a.eval x.2)) = ps) :
    (execOp a.eval ⟨dst, .build T l.toArray, ty, pos, aft, gd⟩).run P w = .ok (.value v) w := by
  unfold execOp
  simp only [List.map_toArray]
  rw [show (l.map fun x => (x.1, a.eval x.2)) = ps from hp]
  simp only [Sem.run_bind, hr, Result.andThen_ok, Sem.run_pure]
end
/-- Nine Booleans. -/
def avv (f : Nat → Bool) : Array Value := ((List.range 9).map fun i => Value.bool (f i)).toArray
theorem avv_size (f : Nat → Bool) : (avv f).size = 9 := by simp [avv]
theorem avv_at (f : Nat → Bool) (i : Nat) (h : i < 9) : (avv f)[i]? = some (.bool (f i)) := by
  unfold avv
  rw [List.getElem?_toArray, List.getElem?_map, List.getElem?_range h]
  rfl
theorem avv_set (f g : Nat → Bool) (x : Nat) (h : x < 9) (hg : ∀ i, g i = (f i || decide (x = i))) : (avv f).setIfInBounds x (.bool true) = avv g := by
  apply Array.ext_getElem?
  intro j
  rw [Array.getElem?_setIfInBounds, avv_size]
  by_cases hj : j < 9
  · rw [avv_at _ _ hj, avv_at _ _ hj, hg]
    by_cases e : x = j
    · rw [if_pos e, if_pos h]; simp [e]
    · rw [if_neg e]; simp [e]
  · rw [Array.getElem?_eq_none (by rw [avv_size]; omega), Array.getElem?_eq_none (by rw [avv_size]; omega), if_neg (by omega)]
/-- What is read of a board. -/
def rdV (z : Int) (L : List Int) : Array Value := if bdOk z L = true then lv z ((L.length / z.toNat : Nat) : Int) L else lv 0 0 []
theorem rdV_bad {z : Int} {L : List Int} (h : bdOk z L = false) : rdV z L = lv 0 0 [] := by unfold rdV; rw [if_neg (by rw [h]; decide)]
theorem bdOk_iff {z : Int} {L : List Int} : bdOk z L = true ↔ (∃ W H : Nat, z = W ∧ L.length = nn W H ∧ 1 ≤ W ∧ W ≤ 3 ∧ 1 ≤ H ∧ H ≤ 3) ∧ hasAll L = true := by
  unfold bdOk
  rw [Bool.and_eq_true, bShape_iff]
theorem nn_divB {W H : Nat} (hW : 1 ≤ W) : nn W H / W = H := by unfold nn; exact Nat.mul_div_cancel_left _ hW
theorem nn_modB (W H : Nat) : nn W H % W = 0 := by unfold nn; exact Nat.mul_mod_right _ _
theorem rdV_good {W H : Nat} {L : List Int} (hl : L.length = nn W H) (hW : 1 ≤ W) (h : bdOk W L = true) : rdV W L = lv W H L := by
  unfold rdV
  rw [if_pos h, Int.toNat_natCast, hl, nn_divB hW]
/-- The cases of the shape. -/
theorem shape_cases (z : Int) (n : Nat) : bSz z 1 = false ∨ (∃ W : Nat, z = W ∧ 1 ≤ W ∧ W ≤ 3 ∧ bSz z 1 = true ∧ n % W ≠ 0) ∨ (∃ W : Nat, z = W ∧ 1 ≤ W ∧ W ≤ 3 ∧ bSz z 1 = true ∧ n % W = 0 ∧ bSz z ((n / W : Nat) : Int) = false) ∨ bShape z n = true := by
  by_cases h1 : bSz z 1 = true
  · right
    have h := bSz_iff.1 h1
    obtain ⟨W, rfl⟩ : ∃ W : Nat, z = W := ⟨z.toNat, by omega⟩
    by_cases h2 : n % W = 0
    · right
      by_cases h3 : bSz (W : Int) ((n / W : Nat) : Int) = true
      · right
        unfold bShape
        rw [Int.toNat_natCast, h3, h2]; rfl
      · left
        exact ⟨W, rfl, by omega, by omega, h1, h2, by simpa using h3⟩
    · left
      exact ⟨W, rfl, by omega, by omega, h1, h2⟩
  · left
    simpa using h1
theorem bad1 {z : Int} {n : Nat} (h : bSz z 1 = false) : bShape z n = false := by
  rw [← Bool.not_eq_true] at h ⊢
  rw [bSz_iff] at h
  rw [bShape_iff]
  rintro ⟨W, H, rfl, -, h1, h2, h3, h4⟩
  exact h ⟨by omega, by omega, by omega, by omega⟩
theorem bad2 {W n : Nat} (h : n % W ≠ 0) : bShape W n = false := by
  unfold bShape
  rw [Int.toNat_natCast, decide_eq_false h, Bool.and_false]
theorem bad3 {W n : Nat} (h : bSz W ((n / W : Nat) : Int) = false) : bShape W n = false := by
  unfold bShape
  rw [Int.toNat_natCast, h, Bool.false_and]
theorem bdOk_bad {z : Int} {L : List Int} (h : bShape z L.length = false) : bdOk z L = false := by unfold bdOk; rw [h]; rfl
theorem Tryd.azero (w : World) : (zeroValue 109).run Tryd.prog w = .ok (.agg (avv (seen [] 0))) w := by kernel_rfl
theorem Tryd.aarr : Tryd.prog.arrayLen 109 = 9 := by kernel_rfl
theorem Tryd.aelem9 : Tryd.prog.elem 109 = 4 := by kernel_rfl
theorem Tryd.aix (B k : Nat) (hk : k < 9) (w : World) : (Instr.indexAt 109 (.pointer (some ⟨B, 0, none⟩)) (.int .i64 k)).run Tryd.prog w = .ok (.pointer (some ⟨B, k, none⟩)) w := by
  rw [run_indexAt_array w 109 ⟨B, 0, none⟩ .i64 k (by rw [Tryd.aarr, Tryd.aelem9]; exact Tryd.underlying109), if_pos (by rw [Tryd.aarr]; omega), Tryd.aelem9]
  have hs : (sizeOf 4).run Tryd.prog w = .ok 1 w := by kernel_rfl
  simp [hs, Result.andThen, add_flat]
theorem Tryd.lf2 (B : Nat) (w : World) : (Instr.fieldAt 75 (.pointer (some ⟨B, 0, none⟩)) 2).run Tryd.prog w = .ok (.pointer (some ⟨B, 2, none⟩)) w := by kernel_rfl
theorem Tryd.lall (B : Nat) (w : World) : (Instr.sliceAt 73 (.pointer (some ⟨B, 2, none⟩)) none none none).run Tryd.prog w = .ok (.slice (some ⟨B, 2, none⟩) 9 9) w := by kernel_rfl
theorem bSize_quiet (x y : Int) (b : Bool) (h : bSz x y = b) (w : World) : Calls Tryd.prog 67 #[.int .i64 x, .int .i64 y] w fun e w' => e = .returned (.bool b) ∧ w' = w :=
  (bSize_any x y w).mono fun e w' ⟨h1, h2⟩ => ⟨by rw [h1, h], h2.symm⟩
set_option maxHeartbeats 400000 in
set_option maxRecDepth 100000 in
theorem readBoard_gen (z : Int) (L : List Int) (v : Value) (base : Nat) (w : World) (hown : w.ownsRow base 3 1 v L.length (intsV L)) (hl : L.length ≤ 1048577) :
    Calls Tryd.prog 41 #[.agg (bv z v)] w (Ret (.tuple #[.agg (rdV z L), .bool (bdOk z L)]) w) := by
  have gg := Gr.refl w
  obtain ⟨p, m, q, rfl⟩ := own_slice hown
  obtain rfl := own_len hown
  rcases shape_cases z L.length with h1 | ⟨W, rfl, hw1, hw3, h1, h2⟩ | ⟨W, rfl, hw1, hw3, h1, h2, h3⟩ | h1
  · have HV := hidI (bdOk_bad (L := L) (bad1 (n := L.length) h1))
    have HR := hidI (rdV_bad HV.out)
    have HQ := hidI h1
    clear h1
    go_enter Tryd.func41, Tryd.ntmps41
    go_wp2_with (first | (refine r_box 30 _ (bv (z) (.slice p L.length q)) rfl rfl ?_; intro w1 B1 N1; have g1 := N1.gr; have b1 : Blk w1 B1 (bv (z) (.slice p L.length q)) 30 := N1.blk; have l1 := N1.lo; have t1 := N1.hi; have z1 := g1.size; have gg := gg.trans g1; clear N1; obtain ⟨b1_0, b1_1⟩ := bcells b1) | (refine r_alloc 75 _ Tryd.lzero rfl ?_; intro w2 B2 N2; have g2 := N2.gr; have b2 : Blk w2 B2 (lv 0 0 []) 75 := N2.blk; have l2 := N2.lo; have t2 := N2.hi; have z2 := g2.size; have b1 := g2.blk b1; obtain ⟨b1_0, b1_1⟩ := bcells b1; have gg := gg.trans g2; clear N2; obtain ⟨b2_0, b2_1, b2_2⟩ := lcells b2))
    go_quiet ((go_at_call 67; exact Calls.quiet_of_same (bSize_quiet _ _ _ HQ.out _)))
    have gq9 := (Gr.refl w2).drewN nq; have b2 := gq9.blk b2; obtain ⟨b2_0, b2_1, b2_2⟩ := lcells b2; have gg := gg.trans gq9; have zq9 := gq9.size; generalize w2.drewN nq = w9 at *; clear gq9
    go_wp2_with (first | (refine r_build 75 [] [] _ (Tryd.lbuild0 _) rfl rfl ?_) | (refine r_store_row 75 75 _ _ _ rfl (lv (0) (0) ([])) _ rfl b2 (Tryd.lsize' _ _ _) (by simp only [lv_size]) (lv_one _ _ _) rfl ?_; intro w3 u3 b2'; have z3 := u3.size; have gg := u3.gr gg (by omega); clear b2; have b2 := b2'; clear b2'; obtain ⟨b2_0, b2_1, b2_2⟩ := lcells b2))
    rw [← HR.out] at b2
    refine bodyPost_ret (results_row_bool rfl _ _ _ _ _ _ rfl b2 Tryd.underlying75 rfl (by rw [HR.out]; exact Tryd.linfo' _ _ _)) rfl ?_
    exact ⟨by rw [HV.out]; rfl, gg⟩
  · have HV := hidI (bdOk_bad (L := L) (bad2 h2))
    have HR := hidI (rdV_bad HV.out)
    have HQ := hidI h1
    have hne : (W : Int) ≠ 0 := by omega
    have e1 := tmod_nat L.length W
    have e2 : (((L.length % W : Nat) : Int) != 0) = true := by rw [bne_iff_ne]; omega
    clear h1 h2
    generalize L.length % W = r at *
    generalize L.length = n at *
    go_enter Tryd.func41, Tryd.ntmps41
    go_wp2_with (first | (refine r_box 30 _ (bv (W) (.slice p n q)) rfl rfl ?_; intro w1 B1 N1; have g1 := N1.gr; have b1 : Blk w1 B1 (bv (W) (.slice p n q)) 30 := N1.blk; have l1 := N1.lo; have t1 := N1.hi; have z1 := g1.size; have gg := gg.trans g1; clear N1; obtain ⟨b1_0, b1_1⟩ := bcells b1) | (refine r_alloc 75 _ Tryd.lzero rfl ?_; intro w2 B2 N2; have g2 := N2.gr; have b2 : Blk w2 B2 (lv 0 0 []) 75 := N2.blk; have l2 := N2.lo; have t2 := N2.hi; have z2 := g2.size; have b1 := g2.blk b1; obtain ⟨b1_0, b1_1⟩ := bcells b1; have gg := gg.trans g2; clear N2; obtain ⟨b2_0, b2_1, b2_2⟩ := lcells b2))
    go_quiet ((go_at_call 67; exact Calls.quiet_of_same (bSize_quiet _ _ _ HQ.out _)))
    have gq9 := (Gr.refl w2).drewN nq; have b2 := gq9.blk b2; obtain ⟨b2_0, b2_1, b2_2⟩ := lcells b2; have gg := gg.trans gq9; have zq9 := gq9.size; generalize w2.drewN nq = w9 at *; clear gq9
    go_wp2_with (first | (refine r_build 75 [] [] _ (Tryd.lbuild0 _) rfl rfl ?_) | (refine r_store_row 75 75 _ _ _ rfl (lv (0) (0) ([])) _ rfl b2 (Tryd.lsize' _ _ _) (by simp only [lv_size]) (lv_one _ _ _) rfl ?_; intro w3 u3 b2'; have z3 := u3.size; have gg := u3.gr gg (by omega); clear b2; have b2 := b2'; clear b2'; obtain ⟨b2_0, b2_1, b2_2⟩ := lcells b2))
    rw [← HR.out] at b2
    refine bodyPost_ret (results_row_bool rfl _ _ _ _ _ _ rfl b2 Tryd.underlying75 rfl (by rw [HR.out]; exact Tryd.linfo' _ _ _)) rfl ?_
    exact ⟨by rw [HV.out]; rfl, gg⟩
  · have HV := hidI (bdOk_bad (L := L) (bad3 h3))
    have HR := hidI (rdV_bad HV.out)
    have HQ := hidI h1
    have HQ2 := hidI h3
    have hne : (W : Int) ≠ 0 := by omega
    have hne' : W ≠ 0 := by omega
    have e1 : Int.tmod (L.length : Int) (W : Int) = 0 := by rw [tmod_nat, h2]; rfl
    have e3 := tdiv_nat L.length W
    have hr := Nat.div_le_self L.length W
    clear h1 h2 h3
    generalize L.length / W = r at *
    generalize L.length = n at *
    go_enter Tryd.func41, Tryd.ntmps41
    go_wp2_with (first | (refine r_box 30 _ (bv (W) (.slice p n q)) rfl rfl ?_; intro w1 B1 N1; have g1 := N1.gr; have b1 : Blk w1 B1 (bv (W) (.slice p n q)) 30 := N1.blk; have l1 := N1.lo; have t1 := N1.hi; have z1 := g1.size; have gg := gg.trans g1; clear N1; obtain ⟨b1_0, b1_1⟩ := bcells b1) | (refine r_alloc 75 _ Tryd.lzero rfl ?_; intro w2 B2 N2; have g2 := N2.gr; have b2 : Blk w2 B2 (lv 0 0 []) 75 := N2.blk; have l2 := N2.lo; have t2 := N2.hi; have z2 := g2.size; have b1 := g2.blk b1; obtain ⟨b1_0, b1_1⟩ := bcells b1; have gg := gg.trans g2; clear N2; obtain ⟨b2_0, b2_1, b2_2⟩ := lcells b2))
    go_quiet ((go_at_call 67; exact Calls.quiet_of_same (bSize_quiet _ _ _ (by first | exact HQ.out | exact HQ2.out) _)))
    have gq9 := (Gr.refl w2).drewN nq; have b2 := gq9.blk b2; obtain ⟨b2_0, b2_1, b2_2⟩ := lcells b2; have gg := gg.trans gq9; have zq9 := gq9.size; generalize w2.drewN nq = w9 at *; clear gq9
    go_wp2_with (first | (refine r_build 75 [] [] _ (Tryd.lbuild0 _) rfl rfl ?_) | (refine r_store_row 75 75 _ _ _ rfl (lv (0) (0) ([])) _ rfl b2 (Tryd.lsize' _ _ _) (by simp only [lv_size]) (lv_one _ _ _) rfl ?_; intro w3 u3 b2'; have z3 := u3.size; have gg := u3.gr gg (by omega); clear b2; have b2 := b2'; clear b2'; obtain ⟨b2_0, b2_1, b2_2⟩ := lcells b2))
    rw [← HR.out] at b2
    refine bodyPost_ret (results_row_bool rfl _ _ _ _ _ _ rfl b2 Tryd.underlying75 rfl (by rw [HR.out]; exact Tryd.linfo' _ _ _)) rfl ?_
    exact ⟨by rw [HV.out]; rfl, gg⟩
  · have HSH := hidI h1
    obtain ⟨W, H, rfl, hn, hw1, hw3, hH1, hH3⟩ := bShape_iff.1 h1
    have hn9 : nn W H ≤ 9 := Nat.mul_le_mul hw3 hH3
    have hn1 : 1 ≤ nn W H := Nat.mul_pos hw1 hH1
    obtain ⟨n, hnn⟩ : ∃ n, n = L.length := ⟨_, rfl⟩
    have HQ := hidI (show bSz W 1 = true from bSz_iff.2 (by omega))
    have HQ2 := hidI (show bSz W (H : Int) = true from bSz_iff.2 (by omega))
    have hne : (W : Int) ≠ 0 := by omega
    have e1 : Int.tmod (n : Int) (W : Int) = 0 := by rw [hnn, hn, tmod_nat, nn_modB]; rfl
    have e3 : Int.tdiv (n : Int) (W : Int) = (H : Int) := by rw [hnn, hn, tdiv_nat, nn_divB hw1]
    rw [← hnn] at hown hn hl HSH ⊢
    rw [← hn] at hn9 hn1
    have HN := hidI hnn
    have HNW := hidI hn
    have HOWN := hidI hown
    clear h1 hnn hn hown
    go_enter Tryd.func41, Tryd.ntmps41
    go_wp2_with (first | (refine r_box 30 _ (bv (W) (.slice p n q)) rfl rfl ?_; intro w1 B1 N1; have g1 := N1.gr; have b1 : Blk w1 B1 (bv (W) (.slice p n q)) 30 := N1.blk; have l1 := N1.lo; have t1 := N1.hi; have z1 := g1.size; have gg := gg.trans g1; clear N1; obtain ⟨b1_0, b1_1⟩ := bcells b1) | (refine r_alloc 75 _ Tryd.lzero rfl ?_; intro w2 B2 N2; have g2 := N2.gr; have b2 : Blk w2 B2 (lv 0 0 []) 75 := N2.blk; have l2 := N2.lo; have t2 := N2.hi; have z2 := g2.size; have b1 := g2.blk b1; obtain ⟨b1_0, b1_1⟩ := bcells b1; have gg := gg.trans g2; clear N2; obtain ⟨b2_0, b2_1, b2_2⟩ := lcells b2))
    go_quiet ((go_at_call 67; exact Calls.quiet_of_same (bSize_quiet _ _ _ (by first | exact HQ.out | exact HQ2.out) _)))
    have gq9 := (Gr.refl w2).drewN nq; have b1 := gq9.blk b1; obtain ⟨b1_0, b1_1⟩ := bcells b1; have b2 := gq9.blk b2; obtain ⟨b2_0, b2_1, b2_2⟩ := lcells b2; have gg := gg.trans gq9; have zq9 := gq9.size; generalize w2.drewN nq = w9 at *; clear gq9
    go_wp2_with (refine r_alloc 109 _ Tryd.azero rfl ?_; intro w4 B4 N4; have g4 := N4.gr; have b4 : Blk w4 B4 (avv (seen [] 0)) 109 := N4.blk; have l4 := N4.lo; have t4 := N4.hi; have z4 := g4.size; have b1 := g4.blk b1; obtain ⟨b1_0, b1_1⟩ := bcells b1; have b2 := g4.blk b2; obtain ⟨b2_0, b2_1, b2_2⟩ := lcells b2; have gg := gg.trans g4; clear N4)
    have b4 : Blk w4 B4 (avv (seen L 0)) 109 := b4
    go_loopw [6, 37] (fun _ i wr => ∃ k : Nat, k ≤ n ∧ i = .int .i64 k ∧ Blk wr B4 (avv (seen L k)) 109 ∧ Blk wr B1 (bv W (.slice p n q)) 30 ∧ Blk wr B2 (lv 0 0 []) 75 ∧ Gr w wr ∧ Hid (goodTo L k)) (fun _ i _ => n - (intOf i).toNat)
    case atStart => exact ⟨0, Nat.zero_le _, rfl, b4, b1, b2, gg, fun i hi => by omega⟩
    case round =>
      obtain ⟨k, hk, rfl, b4, b1, b2, gg, HG⟩ := hrel
      have hB12 : B1 < B2 := by omega
      have hB24 : B2 < B4 := by omega
      have lo1 : w.heap.size ≤ B1 := by omega
      clear b1_0 b1_1 b2_0 b2_1 b2_2
      obtain ⟨b1_0, b1_1⟩ := bcells b1
      by_cases hlt : k < n
      · obtain ⟨g, c, e, -, -⟩ := own_shape HOWN.out (by omega)
        cases e
        have hc := own_int (gg.row HOWN.out) k hlt HN.out
        obtain ⟨x, hx⟩ : ∃ x, x = gi L k := ⟨_, rfl⟩
        rw [← hx] at hc
        by_cases h1 : x < 0
        · have HV := hidI (show bdOk W L = false from by unfold bdOk; rw [goodTo_out (by rw [← HN.out]; exact hlt) (.inl (by rw [← hx]; exact h1)), Bool.and_false])
          have HR := hidI (rdV_bad HV.out)
          clear hx
          go_wp2_with (first | (refine r_build 75 [] [] _ (Tryd.lbuild0 _) rfl rfl ?_) | (refine r_store_row 75 75 _ _ _ rfl (lv (0) (0) ([])) _ rfl b2 (Tryd.lsize' _ _ _) (by simp only [lv_size]) (lv_one _ _ _) rfl ?_; intro w9 u9 b2'; have z9 := u9.size; have gg := u9.gr gg (by omega); clear b2; have b2 := b2'; clear b2'; obtain ⟨b2_0, b2_1, b2_2⟩ := lcells b2))
          rw [← HR.out] at b2
          refine bodyPost_ret (results_row_bool rfl _ _ _ _ _ _ rfl b2 Tryd.underlying75 rfl (by rw [HR.out]; exact Tryd.linfo' _ _ _)) rfl ?_
          exact ⟨by rw [HV.out]; rfl, gg⟩
        · by_cases h2 : (n : Int) ≤ x
          · have HV := hidI (show bdOk W L = false from by unfold bdOk; rw [goodTo_out (by rw [← HN.out]; exact hlt) (.inr (by rw [← hx, ← HN.out]; exact h2)), Bool.and_false])
            have HR := hidI (rdV_bad HV.out)
            clear hx
            go_wp2_with (first | (refine r_build 75 [] [] _ (Tryd.lbuild0 _) rfl rfl ?_) | (refine r_store_row 75 75 _ _ _ rfl (lv (0) (0) ([])) _ rfl b2 (Tryd.lsize' _ _ _) (by simp only [lv_size]) (lv_one _ _ _) rfl ?_; intro w9 u9 b2'; have z9 := u9.size; have gg := u9.gr gg (by omega); clear b2; have b2 := b2'; clear b2'; obtain ⟨b2_0, b2_1, b2_2⟩ := lcells b2))
            rw [← HR.out] at b2
            refine bodyPost_ret (results_row_bool rfl _ _ _ _ _ _ rfl b2 Tryd.underlying75 rfl (by rw [HR.out]; exact Tryd.linfo' _ _ _)) rfl ?_
            exact ⟨by rw [HV.out]; rfl, gg⟩
          · obtain ⟨x, rfl⟩ : ∃ m : Nat, x = m := ⟨x.toNat, by omega⟩
            have hx9 : x < 9 := by omega
            have hix := Tryd.aix B4 x hx9
            have hcx := (b4.cell x).trans (avv_at (seen L k) x hx9)
            by_cases h3 : seen L k x = true
            · have HV := hidI (show bdOk W L = false from by
                obtain ⟨j, hj, he⟩ := seen_iff.1 h3
                unfold bdOk; rw [goodTo_twice (by rw [← HN.out]; exact hlt) hj (by rw [← hx, he]), Bool.and_false])
              have HR := hidI (rdV_bad HV.out)
              rw [h3] at hcx
              clear hx h3
              go_wp2_with (first | (refine r_build 75 [] [] _ (Tryd.lbuild0 _) rfl rfl ?_) | (refine r_store_row 75 75 _ _ _ rfl (lv (0) (0) ([])) _ rfl b2 (Tryd.lsize' _ _ _) (by simp only [lv_size]) (lv_one _ _ _) rfl ?_; intro w9 u9 b2'; have z9 := u9.size; have gg := u9.gr gg (by omega); clear b2; have b2 := b2'; clear b2'; obtain ⟨b2_0, b2_1, b2_2⟩ := lcells b2))
              rw [← HR.out] at b2
              refine bodyPost_ret (results_row_bool rfl _ _ _ _ _ _ rfl b2 Tryd.underlying75 rfl (by rw [HR.out]; exact Tryd.linfo' _ _ _)) rfl ?_
              exact ⟨by rw [HV.out]; rfl, gg⟩
            · have HX := hidI hx
              have HS3 := hidI h3
              have h3' : seen L k x = false := by simpa using h3
              rw [h3'] at hcx
              have HSET := hidI (avv_set (seen L k) (seen L (k + 1)) x hx9 (fun i => by
                rw [seen_succ, ← hx]
                congr 1
                exact decide_eq_decide.2 ⟨fun h => by omega, fun h => by omega⟩))
              clear hx h3 h3'
              go_wp2_with (refine r_store_cell 4 109 _ _ B4 x rfl (.bool true) rfl _ b4 (by rw [avv_size]; omega) Tryd.sizeOf4 rfl rfl ?_; intro w9 u9 b49; rw [HSET.out] at b49; have gg := u9.gr gg (by omega); have b1 := u9.blk b1 (by omega); have b2 := u9.blk b2 (by omega))
              go_roundw
              case rel =>
                refine ⟨k + 1, by omega, by go_num, b49, b1, b2, gg, fun i hi => ?_⟩
                by_cases e : i < k
                · exact HG.out i e
                · obtain rfl : i = k := by omega
                  refine ⟨⟨by rw [← HX.out]; omega, by rw [← HX.out, ← HN.out]; omega⟩, fun j hj he => ?_⟩
                  exact HS3.out (seen_iff.2 ⟨j, hj, by rw [he, ← HX.out]⟩)
              case measure => simp [intOf]; omega
      · obtain rfl : k = n := by omega
        have hall : hasAll L = true := goodTo_end (by rw [← HN.out]; exact HG.out)
        have hOK : bdOk W L = true := bdOk_iff.2 ⟨⟨W, H, rfl, by rw [← HN.out]; exact HNW.out, hw1, hw3, hH1, hH3⟩, hall⟩
        have HV := hidI hOK
        have HR := hidI (rdV_good (by rw [← HN.out]; exact HNW.out) hw1 hOK)
        have own := gg.row HOWN.out
        obtain ⟨g, c, e, -, -⟩ := own_shape own (by omega)
        cases e
        clear hall hOK hlt b4
        go_wp2
        refine F_begin (fun w => w.cell? ⟨B1, 0, none⟩ = some (.int .i64 (W : Int)) ∧ w.cell? ⟨B1, 1, none⟩ = some (.slice (some ⟨g, 0, none⟩) k q)) 10 11 #[false, false, false, false, false, false, false, false, false, false, false] rfl (by kernel_rfl) (by kernel_rfl) ?_
        have gd := (Gr.refl wr).drew
        have b1 := gd.blk b1
        have b2 := gd.blk b2
        have own := gd.row own
        have gg := gg.trans gd
        have zd := gd.size
        generalize wr.drew = wd at *
        have hl1 := b1.lt
        have hl2 := b2.lt
        clear b1_0 b1_1
        have hb1 := bcells b1
        refine F_take (v := .pointer (some ⟨B1, 0, none⟩)) 0 #[true, false, false, false, false, false, false, false, false, false, false] rfl (by kernel_rfl) (fun _ _ _ h => h) rfl (fun w hF => rfl) (hb1) ?_; simp only [Act.put, List.setIfInBounds_toArray, List.set_cons_succ, List.set_cons_zero]
        refine F_take (v := .int .i64 W) 1 #[true, true, false, false, false, false, false, false, false, false, false] rfl (by kernel_rfl) (fun _ _ _ h => h) rfl (fun w hF => e_load 3 (.tmp 59) ⟨B1, 0, none⟩ _ rfl (Tryd.isAgg3 _) hF.1) (hb1) ?_; simp only [Act.put, List.setIfInBounds_toArray, List.set_cons_succ, List.set_cons_zero]
        refine F_take (v := .pointer (some ⟨B1, 1, none⟩)) 2 #[true, true, true, false, false, false, false, false, false, false, false] rfl (by kernel_rfl) (fun _ _ _ h => h) rfl (fun w hF => rfl) (hb1) ?_; simp only [Act.put, List.setIfInBounds_toArray, List.set_cons_succ, List.set_cons_zero]
        refine F_take (v := .slice (some ⟨g, 0, none⟩) k q) 3 #[true, true, true, true, false, false, false, false, false, false, false] rfl (by kernel_rfl) (fun _ _ _ h => h) rfl (fun w hF => e_load 28 (.tmp 61) ⟨B1, 1, none⟩ _ rfl (Tryd.isAgg28 _) hF.2) (hb1) ?_; simp only [Act.put, List.setIfInBounds_toArray, List.set_cons_succ, List.set_cons_zero]
        refine F_free (v := .int .i64 k) 4 #[true, true, true, true, true, false, false, false, false, false, false] rfl (by kernel_rfl) (fun _ _ _ h => h) rfl (fun _ => e_len 28 3 (.tmp 62) (some ⟨g, 0, none⟩) k q rfl Tryd.underlying28) (hb1) ?_; simp only [Act.put, List.setIfInBounds_toArray, List.set_cons_succ, List.set_cons_zero]
        refine F_take (v := .pointer (some ⟨B1, 0, none⟩)) 5 #[true, true, true, true, true, true, false, false, false, false, false] rfl (by kernel_rfl) (fun _ _ _ h => h) rfl (fun w hF => rfl) (hb1) ?_; simp only [Act.put, List.setIfInBounds_toArray, List.set_cons_succ, List.set_cons_zero]
        refine F_take (v := .int .i64 W) 6 #[true, true, true, true, true, true, true, false, false, false, false] rfl (by kernel_rfl) (fun _ _ _ h => h) rfl (fun w hF => e_load 3 (.tmp 64) ⟨B1, 0, none⟩ _ rfl (Tryd.isAgg3 _) hF.1) (hb1) ?_; simp only [Act.put, List.setIfInBounds_toArray, List.set_cons_succ, List.set_cons_zero]
        refine F_free (v := .int .i64 (k / W : Nat)) 7 #[true, true, true, true, true, true, true, true, false, false, false] rfl (by kernel_rfl) (fun _ _ _ h => h) rfl (fun _ => e_quoD (.tmp 63) (.tmp 65) k W rfl rfl hw1 (by omega)) (hb1) ?_; simp only [Act.put, List.setIfInBounds_toArray, List.set_cons_succ, List.set_cons_zero]
        rw [show ((k / W : Nat) : Int) = (H : Int) from by rw [← tdiv_nat, e3]]
        refine F_free (v := .agg (lv W H [])) 8 #[true, true, true, true, true, true, true, true, true, false, false] rfl (by kernel_rfl) (fun _ _ _ h => h) rfl (fun _ => e_build 75 [(0, .tmp 60), (1, .tmp 66)] [(0, .int .i64 W), (1, .int .i64 H)] _ (Tryd.lbuild _ _ _) rfl) (hb1) ?_; simp only [Act.put, List.setIfInBounds_toArray, List.set_cons_succ, List.set_cons_zero]
        refine F_one 9 #[true, true, true, true, true, true, true, true, true, true, false] rfl (by kernel_rfl) ?_
        (refine r_alloc 75 _ Tryd.lzero rfl ?_; intro w5 B5 N5; have g5 := N5.gr; have b5 : Blk w5 B5 (lv 0 0 []) 75 := N5.blk; have l5 := N5.lo; have t5 := N5.hi; have z5 := g5.size; have b1 := g5.blk b1; obtain ⟨b1_0, b1_1⟩ := bcells b1; have b2 := g5.blk b2; obtain ⟨b2_0, b2_1, b2_2⟩ := lcells b2; have gg := gg.trans g5; clear N5; obtain ⟨b5_0, b5_1, b5_2⟩ := lcells b5)
        have own := g5.row own
        refine ⟨fun _ => ⟨b1_0, b1_1⟩, ?_⟩
        simp only [Act.put, List.setIfInBounds_toArray, List.set_cons_succ, List.set_cons_zero]
        have hne5 := own_ne own b5 (by decide)
        refine F_one 10 #[true, true, true, true, true, true, true, true, true, true, true] rfl (by kernel_rfl) ?_
        (refine r_store_row 75 75 _ _ _ rfl (lv (W) (H) ([])) _ rfl b5 (Tryd.lsize' _ _ _) (by simp only [lv_size]) (lv_one _ _ _) rfl ?_; intro w6 u6 b5'; have z6 := u6.size; have gg := u6.gr gg (by omega); have b1 := u6.blk b1 (by omega); obtain ⟨b1_0, b1_1⟩ := bcells b1; have b2 := u6.blk b2 (by omega); obtain ⟨b2_0, b2_1, b2_2⟩ := lcells b2; clear b5; have b5 := b5'; clear b5'; obtain ⟨b5_0, b5_1, b5_2⟩ := lcells b5)
        have own := u6.row own hne5
        refine ⟨fun h => (by cases h), ?_⟩
        simp only [Act.put]
        refine F_done (by kernel_rfl) ?_
        go_wp2
        refine F_begin (fun w => w.cell? ⟨B1, 1, none⟩ = some (.slice (some ⟨g, 0, none⟩) k q)) 4 5 #[false, false, false, false, false] rfl (by kernel_rfl) (by kernel_rfl) ?_
        have gd := (Gr.refl w6).drew
        have b1 := gd.blk b1
        have b2 := gd.blk b2
        have b5 := gd.blk b5
        have own := gd.row own
        have gg := gg.trans gd
        have zd6 := gd.size
        generalize w6.drew = we at *
        have hb1 := (bcells b1).2
        refine F_free (v := .pointer (some ⟨B5, 2, none⟩)) 0 #[true, false, false, false, false] rfl (by kernel_rfl) (fun _ _ _ h => h) rfl (fun _ => e_val _ _ (Tryd.lf2 B5 _)) (hb1) ?_; simp only [Act.put, List.setIfInBounds_toArray, List.set_cons_succ, List.set_cons_zero]
        refine F_free (v := .slice (some ⟨B5, 2, none⟩) 9 9) 1 #[true, true, false, false, false] rfl (by kernel_rfl) (fun _ _ _ h => h) rfl (fun _ => e_val _ _ (Tryd.lall B5 _)) (hb1) ?_; simp only [Act.put, List.setIfInBounds_toArray, List.set_cons_succ, List.set_cons_zero]
        refine F_free (v := .pointer (some ⟨B1, 1, none⟩)) 2 #[true, true, true, false, false] rfl (by kernel_rfl) (fun _ _ _ h => h) rfl (fun _ => rfl) (hb1) ?_; simp only [Act.put, List.setIfInBounds_toArray, List.set_cons_succ, List.set_cons_zero]
        refine F_take (v := .slice (some ⟨g, 0, none⟩) k q) 3 #[true, true, true, true, false] rfl (by kernel_rfl) (fun _ _ _ h => h) rfl (fun w hF => e_load 28 (.tmp 70) ⟨B1, 1, none⟩ _ rfl (Tryd.isAgg28 _) hF) (hb1) ?_; simp only [Act.put, List.setIfInBounds_toArray, List.set_cons_succ, List.set_cons_zero]
        have hrd := Rd.of_own own
        have hcpy := lv_copy (W : Int) (H : Int) L (by rw [← HN.out]; exact hn9)
        rw [← HN.out] at hcpy
        refine F_one 4 #[true, true, true, true, true] rfl (by kernel_rfl) ?_
        refine r_copy_row (.tmp 69) (.tmp 71) 28 28 3 75 Tryd.underlying28 rfl B5 2 9 9 (lv W H []) (some ⟨g, 0, none⟩) k q (intsV L) rfl rfl b5 hrd (by omega) hn9 (by rw [lv_size]; omega) (intsV_one L) rfl ?_
        intro w7 u7 b5'
        rw [hcpy] at b5'
        have b2 := u7.blk b2 (by omega)
        have gg := u7.gr gg (by omega)
        refine ⟨fun h => (by cases h), ?_⟩
        simp only [Act.put, List.setIfInBounds_toArray, List.set_cons_succ, List.set_cons_zero]
        refine F_done (by kernel_rfl) ?_
        go_wp2_with (first | (refine r_load_row 75 _ _ rfl _ _ _ b5' Tryd.underlying75 rfl (Tryd.linfo' _ _ _) rfl ?_) | (refine r_store_row 75 75 _ _ _ rfl (lv (W) (H) (L)) _ rfl b2 (Tryd.lsize' _ _ _) (by simp only [lv_size]) (lv_one _ _ _) rfl ?_; intro w8 u8 b2'; have z8 := u8.size; have gg := u8.gr gg (by omega); clear b2; have b2 := b2'; clear b2'; obtain ⟨b2_0, b2_1, b2_2⟩ := lcells b2))
        rw [← HR.out] at b2
        refine bodyPost_ret (results_row_bool rfl _ _ _ _ _ _ rfl b2 Tryd.underlying75 rfl (by rw [HR.out]; exact Tryd.linfo' _ _ _)) rfl ?_
        exact ⟨by rw [HV.out]; rfl, gg⟩
theorem readBoard_any (z : Int) (L : List Int) (v : Value) (base : Nat) (w : World) (hown : w.ownsRow base 3 1 v L.length (intsV L)) (hl : L.length ≤ 1048576) :
    Calls Tryd.prog 41 #[.agg (bv z v)] w (Ret (.tuple #[.agg (rdV z L), .bool (bdOk z L)]) w) :=
  readBoard_gen z L v base w hown (Nat.le_succ_of_le hl)
end Go.Proofs.YtpdmfbhjneodeaaDoor
namespace Go.Proofs.YtpdmfbhjneodeaaDoor
open Go.RowKit
/-- The list of n numbers told by an index. -/
def genI (n : Nat) (f : Nat → Int) : List Int := (List.range n).map f
theorem genI_length (n : Nat) (f : Nat → Int) : (genI n f).length = n := by simp [genI]
theorem genI_at (n : Nat) (f : Nat → Int) (i : Nat) (h : i < n) : gi (genI n f) i = f i := by unfold gi genI; simp [List.getD, h]
theorem genI_congr {n : Nat} {f g : Nat → Int} (h : ∀ i, i < n → f i = g i) : genI n f = genI n g := by
  apply int_ext (by rw [genI_length, genI_length])
  intro i hi
  rw [genI_length] at hi
  rw [genI_at _ _ _ hi, genI_at _ _ _ hi, h i hi]
theorem genI_set (n : Nat) (f : Nat → Int) (i : Nat) (x : Int) (h : i < n) : (genI n f).set i x = genI n fun j => if j = i then x else f j := by
  apply int_ext (by simp [genI])
  intro j hj
  rw [List.length_set, genI_length] at hj
  rw [gi_set _ _ _ _ (by rw [genI_length]; exact h), genI_at _ _ _ hj, genI_at _ _ _ hj]
theorem genI_self (L : List Int) : genI L.length (gi L) = L := by
  apply int_ext (genI_length _ _)
  intro i hi
  rw [genI_length] at hi
  rw [genI_at _ _ _ hi]
theorem own_zeros {w w1 : World} {B n : Nat} {T : TypeId} (N : New w w1 B (madeCells (Value.int .i64 0).cells (n * 1)) T) (hn : n ≤ 1073741824) : w1.ownsRow w.heap.size T 1 (.slice (some ⟨B, 0, none⟩) n n) n (intsV (genI n fun _ => 0)) := by
  refine ⟨by simp [intsV, genI_length], .inr ⟨B, n, _, rfl, N.lo, N.blk, Nat.le_refl _, by unfold maxLen; omega, size_madeCells _ _, ?_⟩⟩
  apply List.ext_getElem?
  intro i
  by_cases hi : i < n
  · rw [List.getElem?_take, if_pos (by omega)]
    unfold madeCells intsV genI
    simp [hi]
    have e : (Value.int .i64 0).cells = #[Value.int .i64 0] := rfl
    rw [e]
    simp [Nat.mod_one]
  · rw [List.getElem?_eq_none (by simp; omega), List.getElem?_eq_none (by simp [intsV, genI_length]; omega)]
def inI (L : List Int) (x : Int) : Bool := L.contains x
def szR (n : Nat) : Int := if 1048576 < n then -1 else 1048576 - (n : Int)
/-- A slice, nil or not, that reads as a list. -/
def Sl (w : World) (v : Value) (L : List Int) : Prop := ∃ p c, v = .slice p L.length c ∧ Rd w p L.length (intsV L)
theorem Sl.gr {w w' : World} {v : Value} {L : List Int} (h : Sl w v L) (g : Gr w w') : Sl w' v L := by
  obtain ⟨p, c, e, h⟩ := h
  exact ⟨p, c, e, h.gr g⟩
theorem fitsN {m : Nat} (h : m ≤ 1000) : -9223372036854775808 ≤ (m : Int) ∧ (m : Int) ≤ 9223372036854775807 := by omega
set_option maxHeartbeats 400000 in
theorem eqBoard_same (z : Int) (L : List Int) (v1 v2 : Value) (b1 b2 : Nat) (w : World) (h1 : w.ownsRow b1 3 1 v1 L.length (intsV L)) (h2 : w.ownsRow b2 3 1 v2 L.length (intsV L)) (hl : L.length ≤ 1048576) :
    Calls Tryd.prog 10 #[.agg (bv z v1), .agg (bv z v2)] w (Ret (.bool true) w) := by
  have gg := Gr.refl w
  have H1 := hidI h1
  have H2 := hidI h2
  obtain ⟨p1, m1, q1, rfl⟩ := own_slice h1
  obtain ⟨p2, m2, q2, rfl⟩ := own_slice h2
  clear h1 h2
  go_enter Tryd.func10, Tryd.ntmps10
  go_wp2_with (first | (refine r_box (dst := some 2) 30 _ (bv (z) (.slice p1 m1 q1)) rfl rfl ?_; intro w3 B3 N3; have g3 := N3.gr; have b3 : Blk w3 B3 (bv (z) (.slice p1 m1 q1)) 30 := N3.blk; have l3 := N3.lo; have t3 := N3.hi; have z3 := g3.size; have gg := gg.trans g3; clear N3; obtain ⟨b3_0, b3_1⟩ := bcells b3) | (refine r_box (dst := some 3) 30 _ (bv (z) (.slice p2 m2 q2)) rfl rfl ?_; intro w4 B4 N4; have g4 := N4.gr; have b4 : Blk w4 B4 (bv (z) (.slice p2 m2 q2)) 30 := N4.blk; have l4 := N4.lo; have t4 := N4.hi; have z4 := g4.size; have b3 := g4.blk b3; obtain ⟨b3_0, b3_1⟩ := bcells b3; have gg := gg.trans g4; clear N4; obtain ⟨b4_0, b4_1⟩ := bcells b4))
  refine (eqIntS_any _ _ L L b1 b2 _ (gg.row H1.out) (gg.row H2.out) hl).mono ?_
  rintro e w5 ⟨rfl, g5⟩
  rw [decide_eq_true rfl]
  have gg := gg.trans g5
  go_wp2
  go_ret
  exact ⟨rfl, gg⟩
set_option maxHeartbeats 400000 in
theorem markBoard_any (z : Int) (L : List Int) (v : Value) (k base : Nat) (w : World) (h1 : w.ownsRow base 3 1 v L.length (intsV L)) (hl : L.length ≤ 1048576) (hk : k ≤ 1073741824) :
    Calls Tryd.prog 11 #[.agg (bv z v), .int .i64 k] w fun e w' => e = .returned (.int .i64 (k + L.length : Nat)) ∧ w'.ownsRow base 3 1 v L.length (intsV (marks k L.length)) ∧ Grb v.ownBlock w w' := by
  have gg := Gr.refl w
  have H1 := hidI h1
  obtain ⟨p1, m1, q1, rfl⟩ := own_slice h1
  clear h1
  go_enter Tryd.func11, Tryd.ntmps11
  go_wp2_with (refine r_box 30 _ (bv (z) (.slice p1 m1 q1)) rfl rfl ?_; intro w2 B2 N2; have g2 := N2.gr; have b2 : Blk w2 B2 (bv (z) (.slice p1 m1 q1)) 30 := N2.blk; have l2 := N2.lo; have t2 := N2.hi; have z2 := g2.size; have gg := gg.trans g2; clear N2; obtain ⟨b2_0, b2_1⟩ := bcells b2)
  have own1 := g2.row H1.out
  refine (markIntS_any _ L k base _ own1 hl hk).mono ?_
  rintro e w5 ⟨rfl, own5, g5, z5⟩
  go_wp2
  go_ret
  exact ⟨rfl, own5, (g2.grb _).trans g5⟩
set_option maxHeartbeats 400000 in
theorem heldBoard_any (z : Int) (v : Value) (n k base : Nat) (w : World) (h1 : w.ownsRow base 3 1 v n (intsV (marks k n))) (hl : n ≤ 1048576) (hk : k ≤ 1073741824) :
    Calls Tryd.prog 12 #[.agg (bv z v), .int .i64 k] w (Ret (.int .i64 (k + n : Nat)) w) := by
  have gg := Gr.refl w
  have H1 := hidI h1
  obtain ⟨p1, m1, q1, rfl⟩ := own_slice h1
  obtain ⟨m, hm⟩ : ∃ m, m = k + n := ⟨_, rfl⟩
  have HM := hidI hm
  have hm2 : m ≤ 1074790400 := by omega
  rw [← hm]
  clear h1 hm
  go_enter Tryd.func12, Tryd.ntmps12
  go_wp2_with (refine r_box 30 _ (bv (z) (.slice p1 m1 q1)) rfl rfl ?_; intro w2 B2 N2; have g2 := N2.gr; have b2 : Blk w2 B2 (bv (z) (.slice p1 m1 q1)) 30 := N2.blk; have l2 := N2.lo; have t2 := N2.hi; have z2 := g2.size; have gg := gg.trans g2; clear N2; obtain ⟨b2_0, b2_1⟩ := bcells b2)
  refine (heldIntS_any _ n k base _ (g2.row H1.out) hl hk).mono ?_
  rintro e w5 ⟨rfl, g5⟩
  rw [← HM.out]
  have gg := gg.trans g5
  go_wp2
  go_ret
  exact ⟨rfl, gg⟩
set_option maxHeartbeats 400000 in
theorem has_any (v : Value) (L : List Int) (x : Int) (base : Nat) (w : World) (h1 : w.ownsRow base 3 1 v L.length (intsV L)) (hl : L.length ≤ 1048576) : Calls Tryd.prog 39 #[v, .int .i64 x] w (Ret (.bool (inI L x)) w) := by
  have gg := Gr.refl w
  have H1 := hidI h1
  obtain ⟨p1, m1, q1, rfl⟩ := own_slice h1
  obtain rfl := own_len h1
  clear h1
  go_enter Tryd.func39, Tryd.ntmps39
  go_wp2
  go_loop [6, 9] (fun _ i => ∃ k : Nat, k ≤ L.length ∧ i = .int .i64 k ∧ Hid (∀ j, j < k → gi L j ≠ x)) (fun _ i => L.length - (intOf i).toNat)
  case atStart => exact ⟨0, Nat.zero_le _, rfl, fun j hj => by omega⟩
  case round =>
    obtain ⟨k, hk, rfl, HA⟩ := hrel
    by_cases hlt : k < L.length
    · obtain ⟨g, c, e, -, -⟩ := own_shape H1.out (by omega)
      cases e
      have hc := own_int H1.out k hlt rfl
      by_cases hb : gi L k = x
      · have e1 : (gi L k == x) = true := by rw [hb]; simp
        have HV := hidI (show inI L x = true from by unfold inI; rw [List.contains_iff_mem]; exact hb ▸ gi_mem hlt)
        clear hb
        go_wp2
        go_ret
        exact ⟨ret_bool HV.out.symm, gg⟩
      · have e1 : (gi L k == x) = false := by rw [beq_eq_false_iff_ne]; exact hb
        have HB := hidI hb
        clear hb
        go_wp2
        go_round
        case rel => exact ⟨k + 1, by omega, by go_num, fun j hj => if h : j < k then HA.out j h else by rw [show j = k by omega]; exact HB.out⟩
        case measure => simp [intOf]; omega
    · obtain rfl : k = L.length := by omega
      have HV := hidI (show inI L x = false from by
        unfold inI
        rw [← Bool.not_eq_true, List.contains_iff_mem]
        intro hm
        obtain ⟨j, hj, e⟩ := mem_gi hm
        exact HA.out j hj e)
      clear hlt
      go_wp2
      go_ret
      exact ⟨ret_bool HV.out.symm, gg⟩
end Go.Proofs.YtpdmfbhjneodeaaDoor
namespace Go.Proofs.YtpdmfbhjneodeaaDoor
open Go.RowKit
/-- The cases of the shape, as the model asks for them. -/
theorem shapeS_cases (z : Int) (n : Nat) : (btw z 1 3 = false ∧ bShape z n = false) ∨ (∃ W : Nat, z = W ∧ 1 ≤ W ∧ W ≤ 3 ∧ btw n 1 (3 * (W : Int)) = false ∧ bShape z n = false) ∨
    (∃ W : Nat, z = W ∧ 1 ≤ W ∧ W ≤ 3 ∧ btw n 1 (3 * (W : Int)) = true ∧ n % W ≠ 0 ∧ bShape z n = false) ∨ (bShape z n = true ∧ ∃ W : Nat, z = W ∧ 1 ≤ W ∧ W ≤ 3 ∧ btw n 1 (3 * (W : Int)) = true ∧ n % W = 0) := by
  by_cases h1 : btw z 1 3 = true
  · have h := h1
    unfold btw at h
    rw [Bool.and_eq_true, decide_eq_true_eq, decide_eq_true_eq] at h
    obtain ⟨W, rfl⟩ : ∃ W : Nat, z = W := ⟨z.toNat, by omega⟩
    by_cases h2 : btw n 1 (3 * (W : Int)) = true
    · by_cases h3 : n % W = 0
      · refine .inr (.inr (.inr ⟨?_, W, rfl, by omega, by omega, h2, h3⟩))
        unfold btw at h2
        rw [Bool.and_eq_true, decide_eq_true_eq, decide_eq_true_eq] at h2
        have hd := Nat.div_add_mod n W
        have hq : n / W ≤ 3 := by
          rcases Nat.lt_or_ge 3 (n / W) with h4 | h4
          · have : W * 4 ≤ W * (n / W) := Nat.mul_le_mul_left _ h4
            omega
          · exact h4
        have hq1 : 1 ≤ n / W := by
          rcases Nat.eq_zero_or_pos (n / W) with h4 | h4
          · rw [h4] at hd; omega
          · exact h4
        unfold bShape
        rw [Int.toNat_natCast, bSz_iff.2 (by omega), h3]; rfl
      · exact .inr (.inr (.inl ⟨W, rfl, by omega, by omega, h2, h3, bad2 h3⟩))
    · refine .inr (.inl ⟨W, rfl, by omega, by omega, by simpa using h2, ?_⟩)
      rw [← Bool.not_eq_true, bShape_iff]
      rintro ⟨W', H, e, rfl, a1, a2, a3, a4⟩
      obtain rfl : W = W' := by omega
      refine h2 ?_
      unfold btw nn
      rw [Bool.and_eq_true, decide_eq_true_eq, decide_eq_true_eq]
      have b1 : W * H ≤ W * 3 := Nat.mul_le_mul_left _ a4
      have b2 : 0 < W * H := Nat.mul_pos a1 a3
      omega
  · refine .inl ⟨by simpa using h1, ?_⟩
    rw [← Bool.not_eq_true, bShape_iff]
    rintro ⟨W', H, rfl, -, a1, a2, -, -⟩
    refine h1 ?_
    unfold btw
    rw [Bool.and_eq_true, decide_eq_true_eq, decide_eq_true_eq]
    omega
theorem hasTo_end {L : List Int} (h : ∀ k : Nat, k < L.length → inI L k = true) : hasAll L = true := by
  rw [hasAll_iff]
  intro k hk
  have := h k hk
  unfold inI at this
  rwa [List.contains_iff_mem] at this
theorem hasTo_not {L : List Int} {k : Nat} (hk : k < L.length) (h : inI L k = false) : hasAll L = false := by
  rw [← Bool.not_eq_true] at h ⊢
  intro e
  refine h ?_
  unfold inI
  rw [List.contains_iff_mem]
  exact hasAll_iff.1 e k hk
theorem l1In_quiet (x lo h : Int) (b : Bool) (hb : btw x lo h = b) (w : World) : Calls Tryd.prog 38 #[.int .i64 x, .int .i64 lo, .int .i64 h] w fun e w' => e = .returned (.bool b) ∧ w' = w :=
  (l1In_any x lo h w).mono fun e w' ⟨h1, h2⟩ => ⟨by rw [h1, hb], h2.symm⟩
set_option maxHeartbeats 1000000 in
set_option maxRecDepth 100000 in
theorem blGood_any (z : Int) (L : List Int) (v : Value) (base : Nat) (w : World) (hown : w.ownsRow base 3 1 v L.length (intsV L)) (hl : L.length ≤ 1048576) :
    Calls Tryd.prog 21 #[.agg (bv z v)] w (Ret (.bool (bdOk z L)) w) := by
  have gg := Gr.refl w
  obtain ⟨p, m, q, rfl⟩ := own_slice hown
  obtain rfl := own_len hown
  have HOWN := hidI hown
  clear hown
  rcases shapeS_cases z L.length with ⟨h1, h2⟩ | ⟨W, rfl, hw1, hw3, h1, h2⟩ | ⟨W, rfl, hw1, hw3, h1, h2, h3⟩ | ⟨h0, W, rfl, hw1, hw3, h1, h2⟩
  · have HV := hidI (bdOk_bad (L := L) h2)
    have HQ := hidI h1
    clear h1 h2
    go_enter Tryd.func21, Tryd.ntmps21
    go_wp2_with (first | (refine r_box 30 _ (bv (z) (.slice p L.length q)) rfl rfl ?_; intro w1 B1 N1; have g1 := N1.gr; have b1 : Blk w1 B1 (bv (z) (.slice p L.length q)) 30 := N1.blk; have l1 := N1.lo; have t1 := N1.hi; have z1 := g1.size; have gg := gg.trans g1; clear N1; obtain ⟨b1_0, b1_1⟩ := bcells b1) | (go_at_call 38; refine (l1In_any _ _ _ _).mono ?_; rintro e wSame ⟨rfl, rfl⟩; rw [HQ.out]))
    go_ret
    exact ⟨ret_bool (by rw [HV.out] <;> (first | rfl | (simp; done) | (simp; omega))), gg⟩
  · have HV := hidI (bdOk_bad (L := L) h2)
    have HQ := hidI h1
    have HQ0 := hidI (show btw W 1 3 = true from by unfold btw; rw [Bool.and_eq_true, decide_eq_true_eq, decide_eq_true_eq]; omega)
    clear h1 h2
    go_enter Tryd.func21, Tryd.ntmps21
    go_wp2_with (first | (refine r_box 30 _ (bv (W) (.slice p L.length q)) rfl rfl ?_; intro w1 B1 N1; have g1 := N1.gr; have b1 : Blk w1 B1 (bv (W) (.slice p L.length q)) 30 := N1.blk; have l1 := N1.lo; have t1 := N1.hi; have z1 := g1.size; have gg := gg.trans g1; clear N1; obtain ⟨b1_0, b1_1⟩ := bcells b1) | (go_at_call 38; refine (l1In_any _ _ _ _).mono ?_; rintro e wSame ⟨rfl, rfl⟩; first | rw [HQ.out] | rw [HQ0.out]))
    go_ret
    exact ⟨ret_bool (by rw [HV.out] <;> (first | rfl | (simp; done) | (simp; omega))), gg⟩
  · have HV := hidI (bdOk_bad (L := L) h3)
    have HQ := hidI h1
    have HQ0 := hidI (show btw W 1 3 = true from by unfold btw; rw [Bool.and_eq_true, decide_eq_true_eq, decide_eq_true_eq]; omega)
    have hne' : W ≠ 0 := by omega
    have e1 := tmod_nat L.length W
    have e2 : (((L.length % W : Nat) : Int) != 0) = true := by rw [bne_iff_ne]; omega
    clear h1 h2 h3
    generalize L.length % W = r at *
    generalize hnn : L.length = n at *
    clear hnn
    go_enter Tryd.func21, Tryd.ntmps21
    go_wp2_with (first | (refine r_box 30 _ (bv (W) (.slice p n q)) rfl rfl ?_; intro w1 B1 N1; have g1 := N1.gr; have b1 : Blk w1 B1 (bv (W) (.slice p n q)) 30 := N1.blk; have l1 := N1.lo; have t1 := N1.hi; have z1 := g1.size; have gg := gg.trans g1; clear N1; obtain ⟨b1_0, b1_1⟩ := bcells b1) | (go_at_call 38; refine (l1In_any _ _ _ _).mono ?_; rintro e wSame ⟨rfl, rfl⟩; first | rw [HQ.out] | rw [HQ0.out]))
    go_ret
    exact ⟨ret_bool (by rw [HV.out] <;> (first | rfl | (simp; done) | (simp; omega))), gg⟩
  · have HSH := hidI h0
    have HQ := hidI h1
    have HQ0 := hidI (show btw W 1 3 = true from by unfold btw; rw [Bool.and_eq_true, decide_eq_true_eq, decide_eq_true_eq]; omega)
    have hne' : W ≠ 0 := by omega
    have e1 : Int.tmod (L.length : Int) (W : Int) = 0 := by rw [tmod_nat, h2]; rfl
    obtain ⟨n, hnn⟩ : ∃ n, n = L.length := ⟨_, rfl⟩
    rw [← hnn] at HOWN HQ e1 hl ⊢
    have HN := hidI hnn
    clear h0 h1 h2 hnn
    go_enter Tryd.func21, Tryd.ntmps21
    go_wp2_with (first | (refine r_box 30 _ (bv (W) (.slice p n q)) rfl rfl ?_; intro w1 B1 N1; have g1 := N1.gr; have b1 : Blk w1 B1 (bv (W) (.slice p n q)) 30 := N1.blk; have l1 := N1.lo; have t1 := N1.hi; have z1 := g1.size; have gg := gg.trans g1; clear N1; obtain ⟨b1_0, b1_1⟩ := bcells b1) | (go_at_call 38; refine (l1In_any _ _ _ _).mono ?_; rintro e wSame ⟨rfl, rfl⟩; first | rw [HQ.out] | rw [HQ0.out]))
    go_loopw [4] (fun i wr => ∃ k : Nat, k ≤ n ∧ i = .int .i64 k ∧ Blk wr B1 (bv W (.slice p n q)) 30 ∧ Gr w wr ∧ Hid (∀ j : Nat, j < k → inI L j = true)) (fun i _ => n - (intOf i).toNat)
    case atStart => exact ⟨0, Nat.zero_le _, rfl, b1, gg, fun j hj => by omega⟩
    case round =>
      obtain ⟨k, hk, rfl, b1, gg, HA⟩ := hrel
      clear b1_0 b1_1
      obtain ⟨b1_0, b1_1⟩ := bcells b1
      by_cases hlt : k < n
      · have own := gg.row HOWN.out
        rw [HN.out] at own
        by_cases hb : inI L k = true
        · have HB := hidI hb
          clear hb
          go_wp2_with fail
          rw [HN.out]
          refine (has_any _ L k base _ own (by rw [← HN.out]; exact hl)).mono ?_
          rintro e w3 ⟨rfl, g3⟩
          rw [HB.out, ← HN.out]
          have b1 := g3.blk b1
          have gg := gg.trans g3
          go_wp2
          go_roundw
          case rel => exact ⟨k + 1, by omega, by go_num, b1, gg, fun j hj => if h : j < k then HA.out j h else by rw [show j = k by omega]; exact HB.out⟩
          case measure => simp [intOf]; omega
        · have hb' : inI L k = false := by simpa using hb
          have HB := hidI hb'
          have HV := hidI (show bdOk W L = false from by unfold bdOk; rw [hasTo_not (by rw [← HN.out]; exact hlt) hb', Bool.and_false])
          clear hb hb'
          go_wp2_with fail
          rw [HN.out]
          refine (has_any _ L k base _ own (by rw [← HN.out]; exact hl)).mono ?_
          rintro e w3 ⟨rfl, g3⟩
          rw [HB.out]
          have gg := gg.trans g3
          go_wp2
          go_ret
          exact ⟨ret_bool (by rw [HV.out] <;> (first | rfl | (simp; done) | (simp; omega))), gg⟩
      · obtain rfl : k = n := by omega
        have HV := hidI (show bdOk W L = true from by
          unfold bdOk
          rw [HSH.out, hasTo_end (L := L) (fun j hj => HA.out j (by rw [HN.out]; exact hj))]; rfl)
        clear hlt
        go_wp2
        go_ret
        exact ⟨ret_bool (by rw [HV.out] <;> (first | rfl | (simp; done) | (simp; omega))), gg⟩
end Go.Proofs.YtpdmfbhjneodeaaDoor
