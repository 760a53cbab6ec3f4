/-
  The shape of a piece: in the model; and the law.
-/
import Derived.Test.YtagoipongdnegaaDoorFormN
import Derived.Test.YtagoipongdnegaaDoorCropS
namespace Go.Proofs.YtagoipongdnegaaDoor
open Go.RowKit
theorem bx_all {W H : Nat} {R : List Int} (hW : 1 ≤ W) (hne : posTo R (nn W H) ≠ []) :
    bxL W (fdL W (posTo R (nn W H))) (fdR W (posTo R (nn W H)) + 1 - fdL W (posTo R (nn W H))) (fdT W H (posTo R (nn W H))) (posTo R (nn W H)) (genC (nn (fdR W (posTo R (nn W H)) + 1 - fdL W (posTo R (nn W H))) (fdB W (posTo R (nn W H)) + 1 - fdT W H (posTo R (nn W H)))) fun _ => 46) = (shG W H R).c := by
  obtain ⟨b1, b2, b3, b4, b5, b6, b7, b8, b9⟩ := sh_box hW hne
  have hin := fun i (hi : i < nn W H) (h : 0 ≤ gi R i) => cr_in (W := W) (H := H) (c := paC R (nn W H)) (nn W H) i hi (by rw [paC_at hi, if_pos h]; decide)
  rw [b6, b7, b8, b9] at hin
  unfold shG
  generalize fdL W (posTo R (nn W H)) = l at *
  generalize fdR W (posTo R (nn W H)) = r at *
  generalize fdT W H (posTo R (nn W H)) = t at *
  generalize fdB W (posTo R (nn W H)) = b at *
  refine list_ext (by rw [bxL_length, genC_length]; exact (genC_length _ _).symm) fun q hq => ?_
  rw [bxL_length, genC_length] at hq
  have hv : 0 < r + 1 - l := by
    rcases Nat.eq_zero_or_pos (r + 1 - l) with h | h
    · omega
    · exact h
  have hx : q % (r + 1 - l) < r + 1 - l := Nat.mod_lt _ hv
  have hy : q / (r + 1 - l) < b + 1 - t := row_lt hq
  rw [bxL_at (m := b + 1 - t) (N := nn W H) (by omega) (genC_length _ _) (fun i hi h => by
    have := hin i hi h
    omega) (nn W H) (Nat.le_refl _) q hq, genC_at, if_pos hq]
  have hlt : nn W (t + q / (r + 1 - l)) + (l + q % (r + 1 - l)) < nn W H := by
    have := nn_row (W := W) (y := t + q / (r + 1 - l)) (H := H) (by omega)
    omega
  show _ = at0 (bxC W R l (r + 1 - l) t (b + 1 - t)) q
  unfold bxC
  rw [genC_at, if_pos hq]
  by_cases h : 0 ≤ gi R (nn W (t + q / (r + 1 - l)) + (l + q % (r + 1 - l)))
  · rw [if_pos ⟨hlt, h⟩, if_pos h]
  · rw [if_neg (fun h2 => h h2.2), if_neg h]
theorem take_gi1 {L : List Int} {j : Nat} (h : j < L.length) : L.take (j + 1) = L.take j ++ [gi L j] := by
  have e : gi L j = L[j] := by unfold gi; simp [List.getD, h]
  rw [List.take_succ_eq_append_getElem h, e]
section
variable {P : Program} {w : World} {a : Act} {dst : Option Tmp} {ty : TypeId} {pos : String} {aft : Array Edge} {gd : Option (Nat × Bool)}
theorem e_mulN {T yt : TypeId} (x y : Operand) (m n r : Int) (hx : a.eval x = .int .i64 m) (hy : a.eval y = .int .i64 n) (hr : m * n = r) (h : -9223372036854775808 ≤ r ∧ r ≤ 9223372036854775807) :
    (execOp a.eval ⟨dst, .binOp .mul T x y yt, ty, pos, aft, gd⟩).run P w = .ok (.value (.int .i64 r)) w := by
  unfold execOp
  simp only [hx, hy, eqGuard_mul, Sem.run_bind, Sem.run_pure, Result.andThen_ok, run_mul T m n r hr h]
theorem e_addN {T yt : TypeId} (x y : Operand) (m n r : Int) (hx : a.eval x = .int .i64 m) (hy : a.eval y = .int .i64 n) (hr : m + n = r) (h : -9223372036854775808 ≤ r ∧ r ≤ 9223372036854775807) :
    (execOp a.eval ⟨dst, .binOp .add T x y yt, ty, pos, aft, gd⟩).run P w = .ok (.value (.int .i64 r)) w := by
  unfold execOp
  simp only [hx, hy, eqGuard_add, Sem.run_bind, Sem.run_pure, Result.andThen_ok, run_add T m n r hr h]
end
theorem l1LeastF (a b : Int) (w : World) : Calls Tryd.prog 108 #[.int .i64 a, .int .i64 b] w fun e w' => e = .returned (.int .i64 (min a b)) ∧ w = w' := by
  by_cases h : a < b
  · have HV := hidI (show min a b = a from by omega)
    go_enter Tryd.func108, Tryd.ntmps108
    go_wp2
    go_ret
    exact ⟨congrArg (fun x => Ending.returned (.int .i64 x)) HV.out.symm, rfl⟩
  · have HV := hidI (show min a b = b from by omega)
    have h' : b ≤ a := by omega
    clear h
    go_enter Tryd.func108, Tryd.ntmps108
    go_wp2
    go_ret
    exact ⟨congrArg (fun x => Ending.returned (.int .i64 x)) HV.out.symm, rfl⟩
theorem l1MostF (a b : Int) (w : World) : Calls Tryd.prog 109 #[.int .i64 a, .int .i64 b] w fun e w' => e = .returned (.int .i64 (max a b)) ∧ w = w' := by
  by_cases h : b < a
  · have HV := hidI (show max a b = a from by omega)
    go_enter Tryd.func109, Tryd.ntmps109
    go_wp2
    go_ret
    exact ⟨congrArg (fun x => Ending.returned (.int .i64 x)) HV.out.symm, rfl⟩
  · have HV := hidI (show max a b = b from by omega)
    have h' : a ≤ b := by omega
    clear h
    go_enter Tryd.func109, Tryd.ntmps109
    go_wp2
    go_ret
    exact ⟨congrArg (fun x => Ending.returned (.int .i64 x)) HV.out.symm, rfl⟩
set_option maxHeartbeats 4000000 in
set_option maxRecDepth 100000 in
theorem skShape_any (W H : Nat) (R : List Int) (sl v : Value) (base : Nat) (w : World) (hW : 1 ≤ W) (hW7 : W ≤ 7) (hH7 : H ≤ 7) (h36 : nn W H ≤ 36) (hne : posTo R (nn W H) ≠ [])
    (own : w.ownsRow base 3 1 v (posTo R (nn W H)).length (intsV (posTo R (nn W H)))) : Calls Tryd.prog 61 #[.agg (tg W H sl), v] w (Ret (.string (leastTo (shG W H R) 8)) w) := by
  have gg := Gr.refl w
  obtain ⟨c1, c2, c3, c4, -⟩ := sh_box hW hne
  have ht := sh_tray hW hW7 hH7 h36 hne
  have hbx := bx_all hW hne
  have HTL := hidI (fun (sl : Value) (b : Nat) (w : World) ho => tyLeast_any (shG W H R) sl b w ht ho)
  have hgl : (shG W H R).c.length = nn (shG W H R).w (shG W H R).h := ht.len
  have HIN := hidI (fun x (hx : x ∈ posTo R (nn W H)) => show ∃ i : Nat, x = i ∧ i < nn W H ∧ fdL W (posTo R (nn W H)) ≤ i % W ∧ i % W ≤ fdR W (posTo R (nn W H)) ∧ fdT W H (posTo R (nn W H)) ≤ i / W ∧ i / W ≤ fdB W (posTo R (nn W H)) from by
    obtain ⟨i, rfl⟩ := posTo_nat hx
    obtain ⟨hi, h0⟩ := (mem_posTo R (nn W H) i).1 hx
    obtain ⟨-, -, -, -, -, b6, b7, b8, b9⟩ := sh_box hW hne
    have h := cr_in (W := W) (H := H) (c := paC R (nn W H)) (nn W H) i hi (by rw [paC_at hi, if_pos h0]; decide)
    rw [b6, b7, b8, b9] at h
    exact ⟨i, rfl, hi, by omega, by omega, by omega, by omega⟩)
  have hll := posTo_le R (nn W H)
  have hl0 : 0 < (posTo R (nn W H)).length := List.length_pos_iff.2 hne
  unfold shG at hbx hgl HTL
  obtain ⟨res, hres⟩ : ∃ res, res = leastTo (shG W H R) 8 := ⟨_, rfl⟩
  rw [show leastTo ⟨fdR W (posTo R (nn W H)) + 1 - fdL W (posTo R (nn W H)), fdB W (posTo R (nn W H)) + 1 - fdT W H (posTo R (nn W H)), bxC W R (fdL W (posTo R (nn W H))) (fdR W (posTo R (nn W H)) + 1 - fdL W (posTo R (nn W H))) (fdT W H (posTo R (nn W H))) (fdB W (posTo R (nn W H)) + 1 - fdT W H (posTo R (nn W H)))⟩ 8 = res from hres.symm] at HTL
  rw [← hres]
  obtain ⟨cb, hcb⟩ : ∃ cb, cb = bxC W R (fdL W (posTo R (nn W H))) (fdR W (posTo R (nn W H)) + 1 - fdL W (posTo R (nn W H))) (fdT W H (posTo R (nn W H))) (fdB W (posTo R (nn W H)) + 1 - fdT W H (posTo R (nn W H))) := ⟨_, rfl⟩
  rw [← hcb] at hbx hgl HTL
  dsimp only at hbx hgl HTL
  obtain ⟨L, hL⟩ : ∃ L, L = posTo R (nn W H) := ⟨_, rfl⟩
  rw [← hL] at c1 c2 c3 c4 hbx HIN hll hl0 own hgl HTL
  obtain ⟨n, hn⟩ : ∃ n, n = L.length := ⟨_, rfl⟩
  have HNL := hidI hn
  rw [← hn] at own hll hl0
  obtain ⟨G, cap, rfl, -, -⟩ := own_shape own hl0
  have HBX := hidI hbx
  have HGL := hidI hgl
  have HFL := hidI (show L.take n = L from by rw [hn, List.take_length])
  have HTK := hidI (fun k (h : k < n) => take_gi1 (L := L) (j := k) (by rw [← hn]; exact h))
  have HMEM := hidI (fun k (h : k < n) => HIN.out (gi L k) (by
    have h1 : k < L.length := by rw [← hn]; exact h
    have e : gi L k = L[k] := by unfold gi; simp [List.getD, h1]
    rw [e]; exact List.getElem_mem h1))
  have HOW := hidI own
  have lG := (own.lt G rfl).2
  clear hL hne ht hbx hgl hres hcb hn HIN own hl0
  go_enter Tryd.func61, Tryd.ntmps61
  go_wp2_with (refine r_box 45 _ (tg (W) (H) (sl)) rfl rfl ?_; intro w1 B1 N1; have g1 := N1.gr; have b1 : Blk w1 B1 (tg (W) (H) (sl)) 45 := N1.blk; have l1 := N1.lo; have t1 := N1.hi; have z1 := g1.size; have gg := gg.trans g1; clear N1; obtain ⟨b1_0, b1_1, b1_2⟩ := tcells b1)
  refine q_whole (by kernel_rfl) (by kernel_rfl) ?_
  refine q_take (.pointer (some ⟨B1, 0, none⟩)) rfl (fun w' hw' => e_val _ _ (Tryd.tf0 B1 _)) ?_; simp only [Act.put, List.setIfInBounds_toArray, List.set_cons_succ, List.set_cons_zero]
  refine q_take (.int .i64 W) rfl (fun w' hw' => e_load 3 (.tmp 14) ⟨B1, 0, none⟩ _ rfl (Tryd.isAgg3 _) (hw'.cell b1_0)) ?_; simp only [Act.put, List.setIfInBounds_toArray, List.set_cons_succ, List.set_cons_zero]
  refine q_take (.pointer (some ⟨B1, 1, none⟩)) rfl (fun w' hw' => e_val _ _ (Tryd.tf1 B1 _)) ?_; simp only [Act.put, List.setIfInBounds_toArray, List.set_cons_succ, List.set_cons_zero]
  refine q_take (.int .i64 H) rfl (fun w' hw' => e_load 3 (.tmp 16) ⟨B1, 1, none⟩ _ rfl (Tryd.isAgg3 _) (hw'.cell b1_1)) ?_; simp only [Act.put, List.setIfInBounds_toArray, List.set_cons_succ, List.set_cons_zero]
  refine q_assign _ (.int .i64 W) rfl rfl ?_; simp only [Act.put, List.setIfInBounds_toArray, List.set_cons_succ, List.set_cons_zero]
  refine q_assign _ (.int .i64 0) rfl rfl ?_; simp only [Act.put, List.setIfInBounds_toArray, List.set_cons_succ, List.set_cons_zero]
  refine q_assign _ (.int .i64 H) rfl rfl ?_; simp only [Act.put, List.setIfInBounds_toArray, List.set_cons_succ, List.set_cons_zero]
  refine q_assign _ (.int .i64 0) rfl rfl ?_; simp only [Act.put, List.setIfInBounds_toArray, List.set_cons_succ, List.set_cons_zero]
  refine wpQuiet_nil ?_
  intro w4 g4
  have b1 := g4.blk b1
  have gg := gg.trans g4
  have z4 := g4.size
  go_wp2
  clear b1_0 b1_1 b1_2
  go_loopw [5, 6, 7, 8, 20] (fun lv rv tv bv iv wr => ∃ k : Nat, k ≤ n ∧ iv = .int .i64 k ∧ lv = .int .i64 (fdL W (L.take k) : Nat) ∧ rv = .int .i64 (fdR W (L.take k) : Nat) ∧ tv = .int .i64 (fdT W H (L.take k) : Nat) ∧ bv = .int .i64 (fdB W (L.take k) : Nat) ∧ Gr w4 wr) (fun _ _ _ _ iv _ => n - (intOf iv).toNat)
  case atStart => exact ⟨0, Nat.zero_le _, rfl, rfl, rfl, rfl, rfl, Gr.refl w4⟩
  case round =>
    obtain ⟨k, hk, rfl, rfl, rfl, rfl, rfl, gr⟩ := hrel
    have b1 := gr.blk b1
    have gg := gg.trans gr
    have own := gg.row HOW.out
    have zr := gg.size
    have tb1 := b1.lt
    obtain ⟨wq, rfl⟩ : ∃ wq : World, wq = wr := ⟨_, rfl⟩
    obtain ⟨b1_0, b1_1, b1_2⟩ := tcells b1
    by_cases hlt : k < n
    · obtain ⟨i, hi, hiN, -⟩ := HMEM.out k hlt
      have cx := own_int own k hlt HNL.out
      have hs := HTK.out k hlt
      rw [hi] at cx hs
      obtain ⟨x, hx⟩ : ∃ x, x = i % W := ⟨_, rfl⟩
      obtain ⟨y, hy⟩ : ∃ y, y = i / W := ⟨_, rfl⟩
      have HS := hidI (show fdL W (L.take (k + 1)) = min (fdL W (L.take k)) x ∧ fdR W (L.take (k + 1)) = max (fdR W (L.take k)) x ∧ fdT W H (L.take (k + 1)) = min (fdT W H (L.take k)) y ∧ fdB W (L.take (k + 1)) = max (fdB W (L.take k)) y from by
        rw [hs]
        unfold fdL fdR fdT fdB
        rw [fd_snoc, fd_snoc, fd_snoc, fd_snoc, Int.toNat_natCast, ← hx, ← hy]
        exact ⟨rfl, rfl, rfl, rfl⟩)
      have HXV := hidI (show Value.int .i64 ((i % W : Nat) : Int) = .int .i64 (x : Int) from by rw [hx])
      have HYV := hidI (show Value.int .i64 ((i / W : Nat) : Int) = .int .i64 (y : Int) from by rw [hy])
      have HREM := hidI (fun (P : Program) (w : World) (a : Act) dst ty T yt pos aft gd (p q : Operand) (h1 : a.eval p = .int .i64 i) (h2 : a.eval q = .int .i64 W) => (show (execOp a.eval ⟨dst, .binOp .rem T p q yt, ty, pos, aft, gd⟩).run P w = .ok (.value (.int .i64 (x : Int))) w from by rw [← HXV.out]; exact e_remC p q i W h1 h2 hW))
      have HQUO := hidI (fun (P : Program) (w : World) (a : Act) dst ty T yt pos aft gd (p q : Operand) (h1 : a.eval p = .int .i64 i) (h2 : a.eval q = .int .i64 W) => (show (execOp a.eval ⟨dst, .binOp .quo T p q yt, ty, pos, aft, gd⟩).run P w = .ok (.value (.int .i64 (y : Int))) w from by rw [← HYV.out]; exact e_quoC p q i W h1 h2 hW (by omega)))
      clear hi hs hx hy
      generalize fdL W (L.take k) = l at *
      generalize fdR W (L.take k) = r at *
      generalize fdT W H (L.take k) = t at *
      generalize fdB W (L.take k) = b at *
      go_wp2_with (first | (refine r_idx 27 _ _ (.slice (some ⟨G, 0, none⟩) n cap) (.int .i64 k) _ rfl rfl (Tryd.wix0 G n cap k hlt _) rfl ?_) | (refine r_ldc 3 _ ⟨G, k, none⟩ (.int .i64 i) rfl (Tryd.isAgg3 _) cx rfl ?_) | (refine r_val (.int .i64 (x : Int)) (HREM.out _ _ _ _ _ _ _ _ _ _ _ _ rfl rfl) rfl ?_) | (refine r_val (.int .i64 (y : Int)) (HQUO.out _ _ _ _ _ _ _ _ _ _ _ _ rfl rfl) rfl ?_) | (go_at_call 108; refine (l1LeastF _ _ _).mono ?_; rintro e wS ⟨rfl, rfl⟩) | (go_at_call 109; refine (l1MostF _ _ _).mono ?_; rintro e wS ⟨rfl, rfl⟩))
      go_roundw
      case rel => exact ⟨k + 1, by omega, by go_num, by (rw [HS.out.1]; exact congrArg _ (by omega)), by (rw [HS.out.2.1]; exact congrArg _ (by omega)), by (rw [HS.out.2.2.1]; exact congrArg _ (by omega)), by (rw [HS.out.2.2.2]; exact congrArg _ (by omega)), gr⟩
      case measure => simp [intOf]; omega
    · have hkn : k = n := by omega
      rw [hkn, HFL.out]
      clear hlt
      generalize fdL W L = l at *
      generalize fdR W L = r at *
      generalize fdT W H L = t at *
      generalize fdB W L = b at *
      obtain ⟨v1, hv⟩ : ∃ v, v = r + 1 - l := ⟨_, rfl⟩
      obtain ⟨m1, hm⟩ : ∃ m, m = b + 1 - t := ⟨_, rfl⟩
      rw [← hv, ← hm] at HBX HGL HTL
      have h36' : nn v1 m1 ≤ 36 := Nat.le_trans (Nat.mul_le_mul (show v1 ≤ W by omega) (show m1 ≤ H by omega)) h36
      have hN0 : 0 < nn v1 m1 := Nat.mul_pos (show 0 < v1 by omega) (show 0 < m1 by omega)
      have HQ := hidI (fun x y (h1 : l ≤ x) (h2 : x ≤ r) (h3 : t ≤ y) (h4 : y ≤ b) => show nn v1 (y - t) + (x - l) < nn v1 m1 from by
        have := nn_row (W := v1) (y := y - t) (H := m1) (by omega)
        omega)
      obtain ⟨N1, hN1⟩ : ∃ N1, N1 = nn v1 m1 := ⟨_, rfl⟩
      rw [← hN1] at HBX HGL h36' hN0 HQ
      have HTE := hidI (fun w => show Calls Tryd.prog 110 #[.int .i64 ((r : Int) - (l : Int) + 1), .int .i64 ((b : Int) - (t : Int) + 1)] w (fun e w' => Gr w w' ∧ ∃ G5 k5 : Nat, e = .returned (.agg (tg v1 m1 (.slice (some ⟨G5, 0, none⟩) N1 k5))) ∧ w.heap.size ≤ G5 ∧ w'.ownsRow w.heap.size 5 1 (.slice (some ⟨G5, 0, none⟩) N1 k5) N1 (cellsV (genC N1 fun _ => 46))) from by
        rw [show (r : Int) - (l : Int) + 1 = ((v1 : Nat) : Int) by omega, show (b : Int) - (t : Int) + 1 = ((m1 : Nat) : Int) by omega]
        refine (tyEmpty_any v1 m1 w (by rw [← hN1]; exact h36')).mono ?_
        rintro e w' ⟨g, sl, rfl, ho⟩
        rw [genC_length, ← hN1] at ho
        obtain ⟨G5, k5, rfl, hlo, -⟩ := own_shape ho hN0
        exact ⟨g, G5, k5, rfl, hlo, ho⟩)
      obtain ⟨c0, hc0⟩ : ∃ c0, c0 = genC N1 fun _ => (46 : UInt8) := ⟨_, rfl⟩
      rw [← hc0] at HBX HTE
      have hlv : l + v1 = r + 1 := by omega
      have htm : t + m1 = b + 1 := by omega
      have HLV := hidI hlv
      have HTM := hidI htm
      have HC0 := hidI (show c0.length = N1 from by rw [hc0, genC_length])
      clear hv hm hlv htm hN1 hc0 hkn
      go_wp2_with (first | (go_at_call 110; refine (HTE.out _).mono ?_; rintro e w5 ⟨g5, G5, k5, rfl, lG5, own5⟩; have b1 := g5.blk b1; have gg := gg.trans g5; have z5 := g5.size; have hone5 := own_one own5; have tG5 := (own5.lt G5 rfl).2) | (refine r_alloc (dst := some 11) 45 _ Tryd.tzero rfl ?_; intro w6 B6 N6; have g6 := N6.gr; have b6 : Blk w6 B6 (tg 0 0 (.slice none 0 0)) 45 := N6.blk; have l6 := N6.lo; have t6 := N6.hi; have z6 := g6.size; have b1 := g6.blk b1; obtain ⟨b1_0, b1_1, b1_2⟩ := tcells b1; have gg := gg.trans g6; clear N6; obtain ⟨b6_0, b6_1, b6_2⟩ := tcells b6) | (refine r_store_row 45 45 _ _ _ rfl (tg _ _ _) _ rfl b6 Tryd.tsize rfl (tg_one hone5) rfl ?_; intro w7 u7 b6'; have z7 := u7.size; have gg := u7.gr gg (by omega); have b1 := u7.blk b1 (by omega); obtain ⟨b1_0, b1_1, b1_2⟩ := tcells b1; clear b6; have b6 := b6'; clear b6'; obtain ⟨b6_0, b6_1, b6_2⟩ := tcells b6))
      have own7 : w7.ownsRow w.heap.size 5 1 (.slice (some ⟨G5, 0, none⟩) N1 k5) N1 (cellsV (bxL W l v1 t (L.take 0) c0)) := own_up (u7.row (g6.row own5) (own_new own5 l6)) zr
      have hG5w : w.heap.size ≤ G5 := by omega
      clear b1_0 b1_1 b1_2 b6_0 b6_1 b6_2 own own5
      go_loopw [60] (fun iv wr => ∃ k : Nat, k ≤ n ∧ iv = .int .i64 k ∧ wr.ownsRow w.heap.size 5 1 (.slice (some ⟨G5, 0, none⟩) N1 k5) N1 (cellsV (bxL W l v1 t (L.take k) c0)) ∧ Blk wr B1 (tg W H sl) 45 ∧ Blk wr B6 (tg v1 m1 (.slice (some ⟨G5, 0, none⟩) N1 k5)) 45 ∧ Gr w wr) (fun iv _ => n - (intOf iv).toNat)
      case atStart => exact ⟨0, Nat.zero_le _, rfl, own7, b1, b6, gg⟩
      case round =>
        clear own7 b1 b6 gg gr
        obtain ⟨k, hk, rfl, own, b1, b6, gg⟩ := hrel
        obtain ⟨wo, rfl⟩ : ∃ wo : World, wo = wr := ⟨_, rfl⟩
        have ownL := gg.row HOW.out
        have zo := gg.size
        by_cases hlt : k < n
        · obtain ⟨i, hi, hiN, i1, i2, i3, i4⟩ := HMEM.out k hlt
          have cx := own_int ownL k hlt HNL.out
          have hs := HTK.out k hlt
          rw [hi] at cx hs
          obtain ⟨x, hx⟩ : ∃ x, x = i % W := ⟨_, rfl⟩
          obtain ⟨y, hy⟩ : ∃ y, y = i / W := ⟨_, rfl⟩
          rw [← hx] at i1 i2
          rw [← hy] at i3 i4
          have hq := HQ.out x y i1 i2 i3 i4
          have HMU := hidI (mul_nnC v1 (y - t))
          obtain ⟨z, hz⟩ : ∃ z, z = nn v1 (y - t) := ⟨_, rfl⟩
          obtain ⟨q, hqq⟩ : ∃ q, q = z + (x - l) := ⟨_, rfl⟩
          rw [← hz, ← hqq] at hq
          rw [← hz] at HMU
          have HS := hidI (show bxL W l v1 t (L.take (k + 1)) c0 = (bxL W l v1 t (L.take k) c0).set q 111 from by
            rw [hs]
            unfold bxL
            rw [fd_snoc, Int.toNat_natCast, ← hx, ← hy, ← hz, ← hqq])
          have HXV := hidI (show Value.int .i64 ((i % W : Nat) : Int) = .int .i64 (x : Int) from by rw [hx])
          have HYV := hidI (show Value.int .i64 ((i / W : Nat) : Int) = .int .i64 (y : Int) from by rw [hy])
          have HREM := hidI (fun (P : Program) (w : World) (a : Act) dst ty T yt pos aft gd (p q : Operand) (h1 : a.eval p = .int .i64 i) (h2 : a.eval q = .int .i64 W) => (show (execOp a.eval ⟨dst, .binOp .rem T p q yt, ty, pos, aft, gd⟩).run P w = .ok (.value (.int .i64 (x : Int))) w from by rw [← HXV.out]; exact e_remC p q i W h1 h2 hW))
          have HQUO := hidI (fun (P : Program) (w : World) (a : Act) dst ty T yt pos aft gd (p q : Operand) (h1 : a.eval p = .int .i64 i) (h2 : a.eval q = .int .i64 W) => (show (execOp a.eval ⟨dst, .binOp .quo T p q yt, ty, pos, aft, gd⟩).run P w = .ok (.value (.int .i64 (y : Int))) w from by rw [← HYV.out]; exact e_quoC p q i W h1 h2 hW (by omega)))
          have hQ0 := hqq
          clear hi hs hx hy hz hqq
          obtain ⟨cc, hcc⟩ : ∃ cc, cc = bxL W l v1 t (L.take k) c0 := ⟨_, rfl⟩
          rw [← hcc] at own HS
          clear hcc
          have hQI : (q : Int) = (z : Int) + (x : Int) - (l : Int) := by omega
          have HQI := hidI hQI
          have hYI : ((y - t : Nat) : Int) = (y : Int) - (t : Int) := by omega
          have HYI := hidI hYI
          obtain ⟨d, hd⟩ : ∃ d, d = y - t := ⟨_, rfl⟩
          rw [← hd] at HMU HYI
          have hd7 : d ≤ 7 := by omega
          have hzx : z + x ≤ 1000 := by omega
          clear hQ0 hQI hYI hd i1 i2 i3 i4
          go_wp2_with (first | (refine r_idx 27 _ _ (.slice (some ⟨G, 0, none⟩) n cap) (.int .i64 k) _ rfl rfl (Tryd.wix0 G n cap k hlt _) rfl ?_) | (refine r_ldc 3 _ ⟨G, k, none⟩ (.int .i64 i) rfl (Tryd.isAgg3 _) cx rfl ?_))
          have gd := (Gr.refl wo).drew
          have b1 := gd.blk b1
          have b6 := gd.blk b6
          have own := gd.row own
          have gg := gg.trans gd
          have zd := gd.size
          refine K_begin (fun w => Blk w B6 (tg v1 m1 (.slice (some ⟨G5, 0, none⟩) N1 k5)) 45 ∧ Blk w B1 (tg W H sl) 45) 20 20 #[false, false, false, false, false, false, false, false, false, false, false, false, false, false, false, false, false, false, false, false] rfl (by kernel_rfl) (by kernel_rfl) ?_
          generalize wo.drew = wd at *
          have FF := And.intro b6 b1
          refine K_take 0 #[true, false, false, false, false, false, false, false, false, false, false, false, false, false, false, false, false, false, false, false] rfl (by kernel_rfl) (fun _ _ _ h => h) rfl (fun w hF => e_val _ _ (Tryd.tf2 B6 _)) (FF) ?_; simp only [Act.put, List.setIfInBounds_toArray, List.set_cons_succ, List.set_cons_zero]
          refine K_take 1 #[true, true, false, false, false, false, false, false, false, false, false, false, false, false, false, false, false, false, false, false] rfl (by kernel_rfl) (fun _ _ _ h => h) rfl (fun w hF => e_load 43 (.tmp 64) ⟨B6, 2, none⟩ (.slice (some ⟨G5, 0, none⟩) N1 k5) rfl (Tryd.isAgg43 _) (tcells hF.1).2.2) (FF) ?_; simp only [Act.put, List.setIfInBounds_toArray, List.set_cons_succ, List.set_cons_zero]
          refine K_take (v := .int .i64 i) 2 #[true, true, true, false, false, false, false, false, false, false, false, false, false, false, false, false, false, false, false, false] rfl (by kernel_rfl) (fun _ _ _ h => h) rfl (fun _ _ => rfl) (FF) ?_; simp only [Act.put, List.setIfInBounds_toArray, List.set_cons_succ, List.set_cons_zero]
          refine K_take 3 #[true, true, true, true, false, false, false, false, false, false, false, false, false, false, false, false, false, false, false, false] rfl (by kernel_rfl) (fun _ _ _ h => h) rfl (fun w hF => e_val _ _ (Tryd.tf0 B1 _)) (FF) ?_; simp only [Act.put, List.setIfInBounds_toArray, List.set_cons_succ, List.set_cons_zero]
          refine K_take 4 #[true, true, true, true, true, false, false, false, false, false, false, false, false, false, false, false, false, false, false, false] rfl (by kernel_rfl) (fun _ _ _ h => h) rfl (fun w hF => e_load 3 (.tmp 67) ⟨B1, 0, none⟩ (.int .i64 W) rfl (Tryd.isAgg3 _) (tcells hF.2).1) (FF) ?_; simp only [Act.put, List.setIfInBounds_toArray, List.set_cons_succ, List.set_cons_zero]
          refine K_take (v := .int .i64 y) 5 #[true, true, true, true, true, true, false, false, false, false, false, false, false, false, false, false, false, false, false, false] rfl (by kernel_rfl) (fun _ _ _ h => h) rfl (fun w hF => HQUO.out _ _ _ _ _ _ _ _ _ _ _ _ rfl rfl) (FF) ?_; simp only [Act.put, List.setIfInBounds_toArray, List.set_cons_succ, List.set_cons_zero]
          refine K_take (v := .int .i64 t) 6 #[true, true, true, true, true, true, true, false, false, false, false, false, false, false, false, false, false, false, false, false] rfl (by kernel_rfl) (fun _ _ _ h => h) rfl (fun _ _ => rfl) (FF) ?_; simp only [Act.put, List.setIfInBounds_toArray, List.set_cons_succ, List.set_cons_zero]
          refine K_take (v := .int .i64 d) 7 #[true, true, true, true, true, true, true, true, false, false, false, false, false, false, false, false, false, false, false, false] rfl (by kernel_rfl) (fun _ _ _ h => h) rfl (fun w hF => e_subC _ _ (y : Int) (t : Int) d rfl rfl HYI.out.symm (by omega)) (FF) ?_; simp only [Act.put, List.setIfInBounds_toArray, List.set_cons_succ, List.set_cons_zero]
          refine K_take 8 #[true, true, true, true, true, true, true, true, true, false, false, false, false, false, false, false, false, false, false, false] rfl (by kernel_rfl) (fun _ _ _ h => h) rfl (fun w hF => e_val _ _ (Tryd.tf0 B6 _)) (FF) ?_; simp only [Act.put, List.setIfInBounds_toArray, List.set_cons_succ, List.set_cons_zero]
          refine K_take 9 #[true, true, true, true, true, true, true, true, true, true, false, false, false, false, false, false, false, false, false, false] rfl (by kernel_rfl) (fun _ _ _ h => h) rfl (fun w hF => e_load 3 (.tmp 72) ⟨B6, 0, none⟩ (.int .i64 v1) rfl (Tryd.isAgg3 _) (tcells hF.1).1) (FF) ?_; simp only [Act.put, List.setIfInBounds_toArray, List.set_cons_succ, List.set_cons_zero]
          refine K_take (v := .int .i64 z) 10 #[true, true, true, true, true, true, true, true, true, true, true, false, false, false, false, false, false, false, false, false] rfl (by kernel_rfl) (fun _ _ _ h => h) rfl (fun w hF => e_mulN _ _ (d : Int) (v1 : Int) z rfl rfl HMU.out (by omega)) (FF) ?_; simp only [Act.put, List.setIfInBounds_toArray, List.set_cons_succ, List.set_cons_zero]
          refine K_take (v := .int .i64 i) 11 #[true, true, true, true, true, true, true, true, true, true, true, true, false, false, false, false, false, false, false, false] rfl (by kernel_rfl) (fun _ _ _ h => h) rfl (fun _ _ => rfl) (FF) ?_; simp only [Act.put, List.setIfInBounds_toArray, List.set_cons_succ, List.set_cons_zero]
          refine K_take 12 #[true, true, true, true, true, true, true, true, true, true, true, true, true, false, false, false, false, false, false, false] rfl (by kernel_rfl) (fun _ _ _ h => h) rfl (fun w hF => e_val _ _ (Tryd.tf0 B1 _)) (FF) ?_; simp only [Act.put, List.setIfInBounds_toArray, List.set_cons_succ, List.set_cons_zero]
          refine K_take 13 #[true, true, true, true, true, true, true, true, true, true, true, true, true, true, false, false, false, false, false, false] rfl (by kernel_rfl) (fun _ _ _ h => h) rfl (fun w hF => e_load 3 (.tmp 76) ⟨B1, 0, none⟩ (.int .i64 W) rfl (Tryd.isAgg3 _) (tcells hF.2).1) (FF) ?_; simp only [Act.put, List.setIfInBounds_toArray, List.set_cons_succ, List.set_cons_zero]
          refine K_take (v := .int .i64 x) 14 #[true, true, true, true, true, true, true, true, true, true, true, true, true, true, true, false, false, false, false, false] rfl (by kernel_rfl) (fun _ _ _ h => h) rfl (fun w hF => HREM.out _ _ _ _ _ _ _ _ _ _ _ _ rfl rfl) (FF) ?_; simp only [Act.put, List.setIfInBounds_toArray, List.set_cons_succ, List.set_cons_zero]
          refine K_take (v := .int .i64 ((z : Int) + (x : Int))) 15 #[true, true, true, true, true, true, true, true, true, true, true, true, true, true, true, true, false, false, false, false] rfl (by kernel_rfl) (fun _ _ _ h => h) rfl (fun w hF => e_addN _ _ (z : Int) (x : Int) _ rfl rfl rfl (by omega)) (FF) ?_; simp only [Act.put, List.setIfInBounds_toArray, List.set_cons_succ, List.set_cons_zero]
          refine K_take (v := .int .i64 l) 16 #[true, true, true, true, true, true, true, true, true, true, true, true, true, true, true, true, true, false, false, false] rfl (by kernel_rfl) (fun _ _ _ h => h) rfl (fun _ _ => rfl) (FF) ?_; simp only [Act.put, List.setIfInBounds_toArray, List.set_cons_succ, List.set_cons_zero]
          refine K_take (v := .int .i64 q) 17 #[true, true, true, true, true, true, true, true, true, true, true, true, true, true, true, true, true, true, false, false] rfl (by kernel_rfl) (fun _ _ _ h => h) rfl (fun w hF => e_subC _ _ ((z : Int) + (x : Int)) (l : Int) q rfl rfl HQI.out.symm (by omega)) (FF) ?_; simp only [Act.put, List.setIfInBounds_toArray, List.set_cons_succ, List.set_cons_zero]
          refine K_take 18 #[true, true, true, true, true, true, true, true, true, true, true, true, true, true, true, true, true, true, true, false] rfl (by kernel_rfl) (fun _ _ _ h => h) rfl (fun w hF => e_val _ _ (Tryd.six0 G5 N1 k5 q hq _)) (FF) ?_; simp only [Act.put, List.setIfInBounds_toArray, List.set_cons_succ, List.set_cons_zero]
          refine K_one 19 #[true, true, true, true, true, true, true, true, true, true, true, true, true, true, true, true, true, true, true, true] rfl (by kernel_rfl) ?_
          refine r_store_own 5 5 _ _ G5 q N1 k5 w.heap.size (cellsV cc) rfl (byteV 111) rfl own hq Tryd.sizeOf5 rfl rfl ?_
          intro w8 u8 own8
          rw [cellsV_set] at own8
          simp only [Act.put]
          have b1 := u8.blk b1 (fun e => own_ne own b1 (by decide) (by rw [e]; rfl))
          have b6 := u8.blk b6 (fun e => own_ne own b6 (by decide) (by rw [e]; rfl))
          have gg := u8.gr gg hG5w
          refine ⟨fun _ => And.intro b6 b1, ?_⟩
          refine K_done' (by kernel_rfl) ?_
          go_wp2
          go_roundw
          case rel => exact ⟨k + 1, by omega, by go_num, by rw [HS.out]; exact own8, b1, b6, gg⟩
          case measure => simp [intOf]; omega
        · have hkn : k = n := by omega
          rw [hkn, HFL.out, HBX.out] at own
          have own' := own
          rw [← HGL.out] at own'
          have hkn2 : k = n := hkn
          have HTL2 := hidI (HTL.out (.slice (some ⟨G5, 0, none⟩) cb.length k5) w.heap.size)
          rw [HGL.out] at HTL2
          clear hlt hkn own'
          go_wp2_with (first | (refine r_load_row 45 _ _ rfl _ _ _ b6 Tryd.underlying45 rfl Tryd.tinfo rfl ?_) | (go_at_call 111; refine (HTL2.out _ own).mono ?_; rintro e w9 ⟨rfl, g9⟩; have z9 := g9.size; have gg := gg.trans g9))
          go_ret
          exact ⟨rfl, gg⟩
set_option maxHeartbeats 2000000 in
set_option maxRecDepth 100000 in
theorem sShapeOf (s : ByteArray) (x : Int) (w : World) (hs : s.size ≤ 1048576) : Calls Tryd.prog 27 #[.string s, .int .i64 x] w (Ret (.tuple #[.string (shS s.data.toList x), .bool (pceOk s.data.toList x)]) w) := by
  have gg := Gr.refl w
  go_enter Tryd.func27, Tryd.ntmps27
  go_wp2_with fail
  refine (skAt_any s x _ hs).mono ?_
  rintro e w1 ⟨g1, ⟨hf, a, b, sl, hone, rfl⟩ | ⟨g, G, cap, v, hp, hg, hf, rfl, own, ownV⟩⟩
  · have HF := hidI hf
    have HV := hidI (show shS s.data.toList x = ⟨#[]⟩ from by unfold shS; rw [hf]; rfl)
    have gg := gg.trans g1
    have z1 := g1.size
    clear hf
    go_wp2_with (first | (refine r_alloc 45 _ Tryd.tzero rfl ?_; intro w2 B2 N2; have g2 := N2.gr; have b2 : Blk w2 B2 (tg 0 0 (.slice none 0 0)) 45 := N2.blk; have l2 := N2.lo; have t2 := N2.hi; have z2 := g2.size; have gg := gg.trans g2; clear N2; obtain ⟨b2_0, b2_1, b2_2⟩ := tcells b2) | (refine r_store_row 45 45 _ _ _ rfl (tg _ _ _) _ rfl b2 Tryd.tsize rfl (tg_one hone) rfl ?_; intro w3 u3 b2'; have z3 := u3.size; have gg := u3.gr gg (by omega); clear b2; have b2 := b2'; clear b2'; obtain ⟨b2_0, b2_1, b2_2⟩ := tcells b2))
    go_ret2
    exact ⟨fin_sb HV.out.symm HF.out.symm, gg⟩
  · have HF := hidI hf
    have ht := parse_tray hp
    have hx : x = ((x.toNat : Nat) : Int) := by
      have h := hf
      unfold pceOk at h
      rw [Bool.and_eq_true, Bool.and_eq_true] at h
      have := (inB_true.1 h.1.2).1
      omega
    obtain ⟨hne, -⟩ := pce_self hp hg hx hf
    have HL := hidI (show pceL s.data.toList x = posTo (shR s.data.toList x) (nn g.w g.h) from by unfold pceL shR; rw [hf, if_pos rfl, hg])
    have HV := hidI (show shS s.data.toList x = leastTo (shG g.w g.h (shR s.data.toList x)) 8 from by unfold shS; rw [hf, if_pos rfl, hg])
    rw [HL.out] at ownV
    have HSS := hidI (fun (sl : Value) (b : Nat) w ho => skShape_any g.w g.h (shR s.data.toList x) sl v b w ht.w1 ht.w7 ht.h7 ht.n36 hne ho)
    obtain ⟨r, hr⟩ : ∃ r, r = leastTo (shG g.w g.h (shR s.data.toList x)) 8 := ⟨_, rfl⟩
    rw [← hr] at HV HSS
    have gg := gg.trans g1
    have z1 := g1.size
    have hone := own_one own
    clear hp hg hf ht hx hne hr
    go_wp2_with (first | (refine r_alloc 45 _ Tryd.tzero rfl ?_; intro w2 B2 N2; have g2 := N2.gr; have b2 : Blk w2 B2 (tg 0 0 (.slice none 0 0)) 45 := N2.blk; have l2 := N2.lo; have t2 := N2.hi; have z2 := g2.size; have gg := gg.trans g2; clear N2; obtain ⟨b2_0, b2_1, b2_2⟩ := tcells b2) | (refine r_store_row 45 45 _ _ _ rfl (tg _ _ _) _ rfl b2 Tryd.tsize rfl (tg_one hone) rfl ?_; intro w3 u3 b2'; have z3 := u3.size; have gg := u3.gr gg (by omega); clear b2; have b2 := b2'; clear b2'; obtain ⟨b2_0, b2_1, b2_2⟩ := tcells b2) | (refine r_load_row 45 _ _ rfl _ _ _ b2 Tryd.underlying45 rfl Tryd.tinfo rfl ?_) | (go_at_call 61; refine (HSS.out _ _ _ (u3.row (g2.row ownV) (own_new ownV l2))).mono ?_; rintro e w4 ⟨rfl, g4⟩; have z4 := g4.size; have gg := gg.trans g4))
    go_ret2
    exact ⟨fin_sb HV.out.symm HF.out.symm, gg⟩
set_option maxHeartbeats 1000000 in
theorem lawShapeOf (s : ByteArray) (x : Int) (w : World) (hm : ML w) : Calls Tryd.prog 7 #[.string s, .int .i64 x] w (Ret (.bool true) w) := by
  have gg := Gr.refl w
  by_cases hs : 1048576 < s.size
  · go_enter Tryd.func7, Tryd.ntmps7
    go_wp2
    go_ret
    exact ⟨rfl, gg⟩
  · have hs' : s.size ≤ 1048576 := by omega
    clear hs
    go_enter Tryd.func7, Tryd.ntmps7
    go_wp2_with (first | (go_at_call 27; refine (sShapeOf s x _ hs').mono ?_; rintro e w1 ⟨rfl, g1⟩; have z1 := g1.size; have gg := gg.trans g1) | (go_at_call 28; refine (iShapeOf s x _ (gg.ml hm) hs').mono ?_; rintro e w2 ⟨rfl, g2⟩; have z2 := g2.size; have gg := gg.trans g2))
    go_ret
    exact ⟨rfl, gg⟩
end Go.Proofs.YtagoipongdnegaaDoor
