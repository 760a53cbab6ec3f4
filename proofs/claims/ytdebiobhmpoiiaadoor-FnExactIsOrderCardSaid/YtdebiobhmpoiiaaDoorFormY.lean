/-
  Forms: free ways, cells that can be added and taken, in the model.
-/
import Derived.Test.YtdebiobhmpoiiaaDoorFormM
import Derived.Test.YtdebiobhmpoiiaaDoorFormW
import Derived.Test.YtdebiobhmpoiiaaDoorBTq
namespace Go.Proofs.YtdebiobhmpoiiaaDoor
open Go.RowKit
def buM (W H d : Nat) (iv : Value) : Nat := if intOf iv < 0 then 0 else md W H (opd d) (intOf iv).toNat + 1
theorem wyN_stay {W H : Nat} {c : List UInt8} {i n : Nat} (h : 0 ≤ wyN W H c i n) : ∀ k, wyN W H c i (n + k) = wyN W H c i n
  | 0 => rfl
  | k + 1 => by
    have ih := wyN_stay h k
    show wyN W H c i (n + k + 1) = _
    rw [wyN, if_pos (by rw [ih]; exact h), ih]
theorem wyN_first {W H : Nat} {c : List UInt8} {i n k : Nat} (h : ∀ d, d < k → frB W H c d i = false) (hk : frB W H c k i = true) (hn : k < n) : wyN W H c i n = (k : Int) := by
  have h1 : wyN W H c i (k + 1) = (k : Int) := by
    rw [wyN, if_neg (by have := wyN_neg.2 h; omega), if_pos hk]
  obtain ⟨m, rfl⟩ : ∃ m, n = k + 1 + m := ⟨n - (k + 1), by omega⟩
  rw [wyN_stay (by rw [h1]; exact Int.natCast_nonneg k), h1]
/-- The first direction with which a cell can be added, -1 for none. -/
def bwN (W H : Nat) (c : List UInt8) (i : Nat) : Int := if besB W H c i = true then wyN W H c i 4 else -1
theorem bwN_can {W H : Nat} {c : List UInt8} {i : Nat} : canB W H c i = true ↔ 0 ≤ bwN W H c i := by
  unfold canB bwN
  cases h : besB W H c i with
  | false => rw [if_neg (by decide)]; simp
  | true => rw [if_pos rfl, Bool.true_and, decide_eq_true_eq, can_way]
theorem bwN_le {W H : Nat} {c : List UInt8} {i : Nat} : -1 ≤ bwN W H c i ∧ bwN W H c i < 4 := by
  have h : ∀ n, -1 ≤ wyN W H c i n ∧ wyN W H c i n < (n : Int) ∨ wyN W H c i n = -1 := by
    intro n
    induction n with
    | zero => exact .inr rfl
    | succ n ih =>
      unfold wyN
      split
      · left; omega
      · split
        · left; omega
        · exact .inr rfl
  unfold bwN
  split
  · have := h 4
    omega
  · omega
section
variable {P : Program} {w : World} {a : Act} {dst : Option Tmp} {ty : TypeId} {pos : String} {aft : Array Edge} {gd : Option (Nat × Bool)}
theorem e_subF {T yt : TypeId} (x y : Operand) (m n r : Int) (hx : a.eval x = .int .i64 m) (hy : a.eval y = .int .i64 n) (hr : m - n = r) (h : -9223372036854775808 ≤ r ∧ r ≤ 9223372036854775807) :
    (execOp a.eval ⟨dst, .binOp .sub T x y yt, ty, pos, aft, gd⟩).run P w = .ok (.value (.int .i64 r)) w := by
  unfold execOp
  simp only [hx, hy, eqGuard_sub, Sem.run_bind, Sem.run_pure, Result.andThen_ok, run_sub T m n r hr h]
theorem e_eql8F {T yt : TypeId} (x y : Operand) (m n : Int) (b : Bool) (hx : a.eval x = .int .u8 m) (hy : a.eval y = .int .u8 n) (hb : (m == n) = b) :
    (execOp a.eval ⟨dst, .binOp .eql T x y yt, ty, pos, aft, gd⟩).run P w = .ok (.value (.bool b)) w := by
  subst hb
  unfold execOp
  simp [hx, hy, eqGuard, binOp, Op.intCmp]
theorem e_geqF {T yt : TypeId} (x y : Operand) (m n : Int) (b : Bool) (hx : a.eval x = .int .i64 m) (hy : a.eval y = .int .i64 n) (hb : decide (n ≤ m) = b) :
    (execOp a.eval ⟨dst, .binOp .geq T x y yt, ty, pos, aft, gd⟩).run P w = .ok (.value (.bool b)) w := by
  subst hb
  unfold execOp
  simp [hx, hy, eqGuard, binOp, Op.intCmp]
end
structure Ty (W H N : Nat) (c : List UInt8) : Prop where
  w1 : 1 ≤ W
  h1 : 1 ≤ H
  w7 : W ≤ 7
  h7 : H ≤ 7
  hN : N = nn W H
  n36 : N ≤ 36
  len : N = c.length
theorem Ty.pos {W H N : Nat} {c : List UInt8} (t : Ty W H N c) : 1 ≤ N := by rw [t.hN]; exact Nat.mul_pos t.w1 t.h1
set_option maxHeartbeats 4000000 in
set_option maxRecDepth 100000 in
theorem buFree_any (W H base G cap N d i : Nat) (c : List UInt8) (w : World) (t : Ty W H N c) (hd : d < 4) (hi : i < N)
    (hown : w.ownsRow base 5 1 (.slice (some ⟨G, 0, none⟩) N cap) N (cellsV c)) :
    Calls Tryd.prog 136 #[.agg (tg W H (.slice (some ⟨G, 0, none⟩) N cap)), .int .i64 i, .int .i64 d] w (Ret (.bool (frB W H c d i)) w) := by
  have gg := Gr.refl w
  obtain ⟨R, hR⟩ : ∃ R, R = frB W H c d i := ⟨_, rfl⟩
  rw [← hR]
  have hdc : d = 0 ∨ d = 1 ∨ d = 2 ∨ d = 3 := by omega
  rcases hdc with rfl | rfl | rfl | rfl
  · skip
    have HTA := hidI (fun (k : Nat) (w : World) (hk : k < N) (ho : w.ownsRow base 5 1 (.slice (some ⟨G, 0, none⟩) N cap) N (cellsV c)) => show Calls Tryd.prog 155 #[.agg (tg W H (.slice (some ⟨G, 0, none⟩) N cap)), .int .i64 k, .int .i64 2] w (Ret (.int .i64 (aI (nx W H c (opd 0) k))) w) from by
      have h36 := t.n36
      have hN := t.hN
      rw [t.len] at ho ⊢
      exact tiAhead_any W H base 2 k c G cap w (by decide) (by rw [← hN]; exact hk) t.w7 t.h7 (by rw [← t.len]; exact h36) (by rw [← t.len]; exact hN) ho)
    have HR := hidI (show R = frB W H c 0 i from hR)
    clear hR
    go_enter Tryd.func136, Tryd.ntmps136
    go_wp2_with (refine r_box 55 _ (tg (W) (H) (.slice (some ⟨G, 0, none⟩) N cap)) rfl rfl ?_; intro w1 B1 N1; have g1 := N1.gr; have b1 : Blk w1 B1 (tg (W) (H) (.slice (some ⟨G, 0, none⟩) N cap)) 55 := N1.blk; have l1 := N1.lo; have t1 := N1.hi; have z1 := g1.size; have gg := gg.trans g1; clear N1; obtain ⟨b1_0, b1_1, b1_2⟩ := tcells b1)
    have own := g1.row hown
    clear b1_0 b1_1 b1_2
    go_loopw [7] (fun iv wr => wr.ownsRow base 5 1 (.slice (some ⟨G, 0, none⟩) N cap) N (cellsV c) ∧ Blk wr B1 (tg W H (.slice (some ⟨G, 0, none⟩) N cap)) 55 ∧ Gr w wr ∧ ((iv = .int .i64 (-1) ∧ Hid (R = true)) ∨ ∃ k : Nat, iv = .int .i64 k ∧ k < N ∧ Hid (R = frB W H c 0 k))) (fun iv _ => buM W H 0 iv)
    case atStart => exact ⟨own, b1, gg, .inr ⟨i, rfl, hi, HR⟩⟩
    case round =>
      clear own b1 gg
      obtain ⟨own, b1, gg, ⟨rfl, HRT⟩ | ⟨k, rfl, hk, HRK⟩⟩ := hrel
      · go_wp2
        go_ret
        exact ⟨ret_bool HRT.out.symm, gg⟩
      · obtain ⟨b1_0, b1_1, b1_2⟩ := tcells b1
        have hck := own_cell own k (by rw [← t.len]; exact hk) t.len
        have hgk := Tryd.six0 G N cap k hk
        by_cases hc : at0 c k = 46
        · have e1 : (((at0 c k).toNat : Int) == 46) = true := beq_byte hc
          have e2 : (((at0 c k).toNat : Int) != 46) = false := by rw [bne, e1]; rfl
          cases hn : nx W H c (opd 0) k with
          | none =>
            have HT := hidI (show R = true from by rw [HRK.out]; exact fr_none hc hn)
            have HST := hidI (fun w ho => show Calls Tryd.prog 155 #[.agg (tg W H (.slice (some ⟨G, 0, none⟩) N cap)), .int .i64 k, .int .i64 2] w (Ret (.int .i64 (-1)) w) from by have h := HTA.out k w hk ho; rw [hn] at h; exact h)
            clear hc hn
            go_wp2_with (first | (refine r_load_row 55 _ _ rfl _ _ _ b1 Tryd.underlying55 rfl Tryd.tinfo rfl ?_) | (go_at_call 155; refine (HST.out _ own).mono ?_; rintro e w5 ⟨rfl, g5⟩; have b1 := g5.blk b1; have own := g5.row own; have gg := gg.trans g5))
            go_roundw
            case rel => exact ⟨own, b1, gg, .inl ⟨rfl, HT⟩⟩
            case measure =>
              have n2 : ¬ ((k : Int) < 0) := by omega
              show buM W H 0 (.int .i64 (-1)) < buM W H 0 (.int .i64 k)
              unfold buM
              rw [show intOf (.int .i64 (-1)) = -1 from rfl, show intOf (.int .i64 (k : Int)) = (k : Int) from rfl, if_pos (by decide), if_neg n2]
              omega
          | some j =>
            have HT := hidI (show R = frB W H c 0 j from by rw [HRK.out]; exact fr_some hc hn)
            have hmd := hidI (nx_md (opd_lt 0) hn)
            have hj : j < N := by rw [t.hN]; exact (nx_some hn).2.2.1
            have HST := hidI (fun w ho => show Calls Tryd.prog 155 #[.agg (tg W H (.slice (some ⟨G, 0, none⟩) N cap)), .int .i64 k, .int .i64 2] w (Ret (.int .i64 (j : Nat)) w) from by have h := HTA.out k w hk ho; rw [hn] at h; exact h)
            clear hc hn
            go_wp2_with (first | (refine r_load_row 55 _ _ rfl _ _ _ b1 Tryd.underlying55 rfl Tryd.tinfo rfl ?_) | (go_at_call 155; refine (HST.out _ own).mono ?_; rintro e w5 ⟨rfl, g5⟩; have b1 := g5.blk b1; have own := g5.row own; have gg := gg.trans g5))
            go_roundw
            case rel => exact ⟨own, b1, gg, .inr ⟨j, rfl, hj, HT⟩⟩
            case measure =>
              have h1 := hmd.out
              have n1 : ¬ ((j : Int) < 0) := by omega
              have n2 : ¬ ((k : Int) < 0) := by omega
              show buM W H 0 (.int .i64 j) < buM W H 0 (.int .i64 k)
              unfold buM
              rw [show intOf (.int .i64 (j : Int)) = (j : Int) from rfl, show intOf (.int .i64 (k : Int)) = (k : Int) from rfl, if_neg n1, if_neg n2, Int.toNat_natCast, Int.toNat_natCast]
              omega
        · have e1 : (((at0 c k).toNat : Int) == 46) = false := bne_byte hc
          have e2 : (((at0 c k).toNat : Int) != 46) = true := by rw [bne, e1]; rfl
          have HT := hidI (show R = false from by rw [HRK.out]; exact fr_stop hc)
          clear hc
          go_wp2
          go_ret
          exact ⟨ret_bool HT.out.symm, gg⟩
  · skip
    have HTA := hidI (fun (k : Nat) (w : World) (hk : k < N) (ho : w.ownsRow base 5 1 (.slice (some ⟨G, 0, none⟩) N cap) N (cellsV c)) => show Calls Tryd.prog 155 #[.agg (tg W H (.slice (some ⟨G, 0, none⟩) N cap)), .int .i64 k, .int .i64 3] w (Ret (.int .i64 (aI (nx W H c (opd 1) k))) w) from by
      have h36 := t.n36
      have hN := t.hN
      rw [t.len] at ho ⊢
      exact tiAhead_any W H base 3 k c G cap w (by decide) (by rw [← hN]; exact hk) t.w7 t.h7 (by rw [← t.len]; exact h36) (by rw [← t.len]; exact hN) ho)
    have HR := hidI (show R = frB W H c 1 i from hR)
    clear hR
    go_enter Tryd.func136, Tryd.ntmps136
    go_wp2_with (refine r_box 55 _ (tg (W) (H) (.slice (some ⟨G, 0, none⟩) N cap)) rfl rfl ?_; intro w1 B1 N1; have g1 := N1.gr; have b1 : Blk w1 B1 (tg (W) (H) (.slice (some ⟨G, 0, none⟩) N cap)) 55 := N1.blk; have l1 := N1.lo; have t1 := N1.hi; have z1 := g1.size; have gg := gg.trans g1; clear N1; obtain ⟨b1_0, b1_1, b1_2⟩ := tcells b1)
    have own := g1.row hown
    clear b1_0 b1_1 b1_2
    go_loopw [7] (fun iv wr => wr.ownsRow base 5 1 (.slice (some ⟨G, 0, none⟩) N cap) N (cellsV c) ∧ Blk wr B1 (tg W H (.slice (some ⟨G, 0, none⟩) N cap)) 55 ∧ Gr w wr ∧ ((iv = .int .i64 (-1) ∧ Hid (R = true)) ∨ ∃ k : Nat, iv = .int .i64 k ∧ k < N ∧ Hid (R = frB W H c 1 k))) (fun iv _ => buM W H 1 iv)
    case atStart => exact ⟨own, b1, gg, .inr ⟨i, rfl, hi, HR⟩⟩
    case round =>
      clear own b1 gg
      obtain ⟨own, b1, gg, ⟨rfl, HRT⟩ | ⟨k, rfl, hk, HRK⟩⟩ := hrel
      · go_wp2
        go_ret
        exact ⟨ret_bool HRT.out.symm, gg⟩
      · obtain ⟨b1_0, b1_1, b1_2⟩ := tcells b1
        have hck := own_cell own k (by rw [← t.len]; exact hk) t.len
        have hgk := Tryd.six0 G N cap k hk
        by_cases hc : at0 c k = 46
        · have e1 : (((at0 c k).toNat : Int) == 46) = true := beq_byte hc
          have e2 : (((at0 c k).toNat : Int) != 46) = false := by rw [bne, e1]; rfl
          cases hn : nx W H c (opd 1) k with
          | none =>
            have HT := hidI (show R = true from by rw [HRK.out]; exact fr_none hc hn)
            have HST := hidI (fun w ho => show Calls Tryd.prog 155 #[.agg (tg W H (.slice (some ⟨G, 0, none⟩) N cap)), .int .i64 k, .int .i64 3] w (Ret (.int .i64 (-1)) w) from by have h := HTA.out k w hk ho; rw [hn] at h; exact h)
            clear hc hn
            go_wp2_with (first | (refine r_load_row 55 _ _ rfl _ _ _ b1 Tryd.underlying55 rfl Tryd.tinfo rfl ?_) | (go_at_call 155; refine (HST.out _ own).mono ?_; rintro e w5 ⟨rfl, g5⟩; have b1 := g5.blk b1; have own := g5.row own; have gg := gg.trans g5))
            go_roundw
            case rel => exact ⟨own, b1, gg, .inl ⟨rfl, HT⟩⟩
            case measure =>
              have n2 : ¬ ((k : Int) < 0) := by omega
              show buM W H 1 (.int .i64 (-1)) < buM W H 1 (.int .i64 k)
              unfold buM
              rw [show intOf (.int .i64 (-1)) = -1 from rfl, show intOf (.int .i64 (k : Int)) = (k : Int) from rfl, if_pos (by decide), if_neg n2]
              omega
          | some j =>
            have HT := hidI (show R = frB W H c 1 j from by rw [HRK.out]; exact fr_some hc hn)
            have hmd := hidI (nx_md (opd_lt 1) hn)
            have hj : j < N := by rw [t.hN]; exact (nx_some hn).2.2.1
            have HST := hidI (fun w ho => show Calls Tryd.prog 155 #[.agg (tg W H (.slice (some ⟨G, 0, none⟩) N cap)), .int .i64 k, .int .i64 3] w (Ret (.int .i64 (j : Nat)) w) from by have h := HTA.out k w hk ho; rw [hn] at h; exact h)
            clear hc hn
            go_wp2_with (first | (refine r_load_row 55 _ _ rfl _ _ _ b1 Tryd.underlying55 rfl Tryd.tinfo rfl ?_) | (go_at_call 155; refine (HST.out _ own).mono ?_; rintro e w5 ⟨rfl, g5⟩; have b1 := g5.blk b1; have own := g5.row own; have gg := gg.trans g5))
            go_roundw
            case rel => exact ⟨own, b1, gg, .inr ⟨j, rfl, hj, HT⟩⟩
            case measure =>
              have h1 := hmd.out
              have n1 : ¬ ((j : Int) < 0) := by omega
              have n2 : ¬ ((k : Int) < 0) := by omega
              show buM W H 1 (.int .i64 j) < buM W H 1 (.int .i64 k)
              unfold buM
              rw [show intOf (.int .i64 (j : Int)) = (j : Int) from rfl, show intOf (.int .i64 (k : Int)) = (k : Int) from rfl, if_neg n1, if_neg n2, Int.toNat_natCast, Int.toNat_natCast]
              omega
        · have e1 : (((at0 c k).toNat : Int) == 46) = false := bne_byte hc
          have e2 : (((at0 c k).toNat : Int) != 46) = true := by rw [bne, e1]; rfl
          have HT := hidI (show R = false from by rw [HRK.out]; exact fr_stop hc)
          clear hc
          go_wp2
          go_ret
          exact ⟨ret_bool HT.out.symm, gg⟩
  · skip
    have HTA := hidI (fun (k : Nat) (w : World) (hk : k < N) (ho : w.ownsRow base 5 1 (.slice (some ⟨G, 0, none⟩) N cap) N (cellsV c)) => show Calls Tryd.prog 155 #[.agg (tg W H (.slice (some ⟨G, 0, none⟩) N cap)), .int .i64 k, .int .i64 0] w (Ret (.int .i64 (aI (nx W H c (opd 2) k))) w) from by
      have h36 := t.n36
      have hN := t.hN
      rw [t.len] at ho ⊢
      exact tiAhead_any W H base 0 k c G cap w (by decide) (by rw [← hN]; exact hk) t.w7 t.h7 (by rw [← t.len]; exact h36) (by rw [← t.len]; exact hN) ho)
    have HR := hidI (show R = frB W H c 2 i from hR)
    clear hR
    go_enter Tryd.func136, Tryd.ntmps136
    go_wp2_with (refine r_box 55 _ (tg (W) (H) (.slice (some ⟨G, 0, none⟩) N cap)) rfl rfl ?_; intro w1 B1 N1; have g1 := N1.gr; have b1 : Blk w1 B1 (tg (W) (H) (.slice (some ⟨G, 0, none⟩) N cap)) 55 := N1.blk; have l1 := N1.lo; have t1 := N1.hi; have z1 := g1.size; have gg := gg.trans g1; clear N1; obtain ⟨b1_0, b1_1, b1_2⟩ := tcells b1)
    have own := g1.row hown
    clear b1_0 b1_1 b1_2
    go_loopw [7] (fun iv wr => wr.ownsRow base 5 1 (.slice (some ⟨G, 0, none⟩) N cap) N (cellsV c) ∧ Blk wr B1 (tg W H (.slice (some ⟨G, 0, none⟩) N cap)) 55 ∧ Gr w wr ∧ ((iv = .int .i64 (-1) ∧ Hid (R = true)) ∨ ∃ k : Nat, iv = .int .i64 k ∧ k < N ∧ Hid (R = frB W H c 2 k))) (fun iv _ => buM W H 2 iv)
    case atStart => exact ⟨own, b1, gg, .inr ⟨i, rfl, hi, HR⟩⟩
    case round =>
      clear own b1 gg
      obtain ⟨own, b1, gg, ⟨rfl, HRT⟩ | ⟨k, rfl, hk, HRK⟩⟩ := hrel
      · go_wp2
        go_ret
        exact ⟨ret_bool HRT.out.symm, gg⟩
      · obtain ⟨b1_0, b1_1, b1_2⟩ := tcells b1
        have hck := own_cell own k (by rw [← t.len]; exact hk) t.len
        have hgk := Tryd.six0 G N cap k hk
        by_cases hc : at0 c k = 46
        · have e1 : (((at0 c k).toNat : Int) == 46) = true := beq_byte hc
          have e2 : (((at0 c k).toNat : Int) != 46) = false := by rw [bne, e1]; rfl
          cases hn : nx W H c (opd 2) k with
          | none =>
            have HT := hidI (show R = true from by rw [HRK.out]; exact fr_none hc hn)
            have HST := hidI (fun w ho => show Calls Tryd.prog 155 #[.agg (tg W H (.slice (some ⟨G, 0, none⟩) N cap)), .int .i64 k, .int .i64 0] w (Ret (.int .i64 (-1)) w) from by have h := HTA.out k w hk ho; rw [hn] at h; exact h)
            clear hc hn
            go_wp2_with (first | (refine r_load_row 55 _ _ rfl _ _ _ b1 Tryd.underlying55 rfl Tryd.tinfo rfl ?_) | (go_at_call 155; refine (HST.out _ own).mono ?_; rintro e w5 ⟨rfl, g5⟩; have b1 := g5.blk b1; have own := g5.row own; have gg := gg.trans g5))
            go_roundw
            case rel => exact ⟨own, b1, gg, .inl ⟨rfl, HT⟩⟩
            case measure =>
              have n2 : ¬ ((k : Int) < 0) := by omega
              show buM W H 2 (.int .i64 (-1)) < buM W H 2 (.int .i64 k)
              unfold buM
              rw [show intOf (.int .i64 (-1)) = -1 from rfl, show intOf (.int .i64 (k : Int)) = (k : Int) from rfl, if_pos (by decide), if_neg n2]
              omega
          | some j =>
            have HT := hidI (show R = frB W H c 2 j from by rw [HRK.out]; exact fr_some hc hn)
            have hmd := hidI (nx_md (opd_lt 2) hn)
            have hj : j < N := by rw [t.hN]; exact (nx_some hn).2.2.1
            have HST := hidI (fun w ho => show Calls Tryd.prog 155 #[.agg (tg W H (.slice (some ⟨G, 0, none⟩) N cap)), .int .i64 k, .int .i64 0] w (Ret (.int .i64 (j : Nat)) w) from by have h := HTA.out k w hk ho; rw [hn] at h; exact h)
            clear hc hn
            go_wp2_with (first | (refine r_load_row 55 _ _ rfl _ _ _ b1 Tryd.underlying55 rfl Tryd.tinfo rfl ?_) | (go_at_call 155; refine (HST.out _ own).mono ?_; rintro e w5 ⟨rfl, g5⟩; have b1 := g5.blk b1; have own := g5.row own; have gg := gg.trans g5))
            go_roundw
            case rel => exact ⟨own, b1, gg, .inr ⟨j, rfl, hj, HT⟩⟩
            case measure =>
              have h1 := hmd.out
              have n1 : ¬ ((j : Int) < 0) := by omega
              have n2 : ¬ ((k : Int) < 0) := by omega
              show buM W H 2 (.int .i64 j) < buM W H 2 (.int .i64 k)
              unfold buM
              rw [show intOf (.int .i64 (j : Int)) = (j : Int) from rfl, show intOf (.int .i64 (k : Int)) = (k : Int) from rfl, if_neg n1, if_neg n2, Int.toNat_natCast, Int.toNat_natCast]
              omega
        · have e1 : (((at0 c k).toNat : Int) == 46) = false := bne_byte hc
          have e2 : (((at0 c k).toNat : Int) != 46) = true := by rw [bne, e1]; rfl
          have HT := hidI (show R = false from by rw [HRK.out]; exact fr_stop hc)
          clear hc
          go_wp2
          go_ret
          exact ⟨ret_bool HT.out.symm, gg⟩
  · skip
    have HTA := hidI (fun (k : Nat) (w : World) (hk : k < N) (ho : w.ownsRow base 5 1 (.slice (some ⟨G, 0, none⟩) N cap) N (cellsV c)) => show Calls Tryd.prog 155 #[.agg (tg W H (.slice (some ⟨G, 0, none⟩) N cap)), .int .i64 k, .int .i64 1] w (Ret (.int .i64 (aI (nx W H c (opd 3) k))) w) from by
      have h36 := t.n36
      have hN := t.hN
      rw [t.len] at ho ⊢
      exact tiAhead_any W H base 1 k c G cap w (by decide) (by rw [← hN]; exact hk) t.w7 t.h7 (by rw [← t.len]; exact h36) (by rw [← t.len]; exact hN) ho)
    have HR := hidI (show R = frB W H c 3 i from hR)
    clear hR
    go_enter Tryd.func136, Tryd.ntmps136
    go_wp2_with (refine r_box 55 _ (tg (W) (H) (.slice (some ⟨G, 0, none⟩) N cap)) rfl rfl ?_; intro w1 B1 N1; have g1 := N1.gr; have b1 : Blk w1 B1 (tg (W) (H) (.slice (some ⟨G, 0, none⟩) N cap)) 55 := N1.blk; have l1 := N1.lo; have t1 := N1.hi; have z1 := g1.size; have gg := gg.trans g1; clear N1; obtain ⟨b1_0, b1_1, b1_2⟩ := tcells b1)
    have own := g1.row hown
    clear b1_0 b1_1 b1_2
    go_loopw [7] (fun iv wr => wr.ownsRow base 5 1 (.slice (some ⟨G, 0, none⟩) N cap) N (cellsV c) ∧ Blk wr B1 (tg W H (.slice (some ⟨G, 0, none⟩) N cap)) 55 ∧ Gr w wr ∧ ((iv = .int .i64 (-1) ∧ Hid (R = true)) ∨ ∃ k : Nat, iv = .int .i64 k ∧ k < N ∧ Hid (R = frB W H c 3 k))) (fun iv _ => buM W H 3 iv)
    case atStart => exact ⟨own, b1, gg, .inr ⟨i, rfl, hi, HR⟩⟩
    case round =>
      clear own b1 gg
      obtain ⟨own, b1, gg, ⟨rfl, HRT⟩ | ⟨k, rfl, hk, HRK⟩⟩ := hrel
      · go_wp2
        go_ret
        exact ⟨ret_bool HRT.out.symm, gg⟩
      · obtain ⟨b1_0, b1_1, b1_2⟩ := tcells b1
        have hck := own_cell own k (by rw [← t.len]; exact hk) t.len
        have hgk := Tryd.six0 G N cap k hk
        by_cases hc : at0 c k = 46
        · have e1 : (((at0 c k).toNat : Int) == 46) = true := beq_byte hc
          have e2 : (((at0 c k).toNat : Int) != 46) = false := by rw [bne, e1]; rfl
          cases hn : nx W H c (opd 3) k with
          | none =>
            have HT := hidI (show R = true from by rw [HRK.out]; exact fr_none hc hn)
            have HST := hidI (fun w ho => show Calls Tryd.prog 155 #[.agg (tg W H (.slice (some ⟨G, 0, none⟩) N cap)), .int .i64 k, .int .i64 1] w (Ret (.int .i64 (-1)) w) from by have h := HTA.out k w hk ho; rw [hn] at h; exact h)
            clear hc hn
            go_wp2_with (first | (refine r_load_row 55 _ _ rfl _ _ _ b1 Tryd.underlying55 rfl Tryd.tinfo rfl ?_) | (go_at_call 155; refine (HST.out _ own).mono ?_; rintro e w5 ⟨rfl, g5⟩; have b1 := g5.blk b1; have own := g5.row own; have gg := gg.trans g5))
            go_roundw
            case rel => exact ⟨own, b1, gg, .inl ⟨rfl, HT⟩⟩
            case measure =>
              have n2 : ¬ ((k : Int) < 0) := by omega
              show buM W H 3 (.int .i64 (-1)) < buM W H 3 (.int .i64 k)
              unfold buM
              rw [show intOf (.int .i64 (-1)) = -1 from rfl, show intOf (.int .i64 (k : Int)) = (k : Int) from rfl, if_pos (by decide), if_neg n2]
              omega
          | some j =>
            have HT := hidI (show R = frB W H c 3 j from by rw [HRK.out]; exact fr_some hc hn)
            have hmd := hidI (nx_md (opd_lt 3) hn)
            have hj : j < N := by rw [t.hN]; exact (nx_some hn).2.2.1
            have HST := hidI (fun w ho => show Calls Tryd.prog 155 #[.agg (tg W H (.slice (some ⟨G, 0, none⟩) N cap)), .int .i64 k, .int .i64 1] w (Ret (.int .i64 (j : Nat)) w) from by have h := HTA.out k w hk ho; rw [hn] at h; exact h)
            clear hc hn
            go_wp2_with (first | (refine r_load_row 55 _ _ rfl _ _ _ b1 Tryd.underlying55 rfl Tryd.tinfo rfl ?_) | (go_at_call 155; refine (HST.out _ own).mono ?_; rintro e w5 ⟨rfl, g5⟩; have b1 := g5.blk b1; have own := g5.row own; have gg := gg.trans g5))
            go_roundw
            case rel => exact ⟨own, b1, gg, .inr ⟨j, rfl, hj, HT⟩⟩
            case measure =>
              have h1 := hmd.out
              have n1 : ¬ ((j : Int) < 0) := by omega
              have n2 : ¬ ((k : Int) < 0) := by omega
              show buM W H 3 (.int .i64 j) < buM W H 3 (.int .i64 k)
              unfold buM
              rw [show intOf (.int .i64 (j : Int)) = (j : Int) from rfl, show intOf (.int .i64 (k : Int)) = (k : Int) from rfl, if_neg n1, if_neg n2, Int.toNat_natCast, Int.toNat_natCast]
              omega
        · have e1 : (((at0 c k).toNat : Int) == 46) = false := bne_byte hc
          have e2 : (((at0 c k).toNat : Int) != 46) = true := by rw [bne, e1]; rfl
          have HT := hidI (show R = false from by rw [HRK.out]; exact fr_stop hc)
          clear hc
          go_wp2
          go_ret
          exact ⟨ret_bool HT.out.symm, gg⟩
set_option maxHeartbeats 4000000 in
set_option maxRecDepth 100000 in
theorem buNext_any (W H base G cap N i : Nat) (c : List UInt8) (w : World) (t : Ty W H N c) (hi : i < N)
    (hown : w.ownsRow base 5 1 (.slice (some ⟨G, 0, none⟩) N cap) N (cellsV c)) :
    Calls Tryd.prog 137 #[.agg (tg W H (.slice (some ⟨G, 0, none⟩) N cap)), .int .i64 i] w (Ret (.bool (besB W H c i)) w) := by
  have gg := Gr.refl w
  obtain ⟨L, hL⟩ : ∃ L, L = (nearL W H i).length := ⟨_, rfl⟩
  have HL := hidI hL
  have hL4 : L ≤ 4 := by rw [hL]; exact nearL_le _ _ _
  have HN1 := hidI (fun (w : World) => show Calls Tryd.prog 162 #[.agg (tg W H (.slice (some ⟨G, 0, none⟩) N cap)), .int .i64 i] w fun e w' => Gr w w' ∧ ∃ p m, e = .returned (.slice p L m) ∧ w'.ownsRow w.heap.size 3 1 (.slice p L m) L (intsV (natsI (nearL W H i))) from
    (tyNear_any W H i (.slice (some ⟨G, 0, none⟩) N cap) w t.w1 t.w7 t.h7 (by rw [← t.hN]; exact hi) (by rw [← t.hN]; exact t.n36)).mono fun e w' ⟨g, v, he, ho⟩ => by
      rw [natsI_length, ← hL] at ho
      obtain ⟨p, m, k, rfl⟩ := own_slice ho
      obtain rfl : m = L := own_len ho
      exact ⟨g, p, k, he, ho⟩)
  clear hL
  go_enter Tryd.func137, Tryd.ntmps137
  go_wp2_with (first | (refine r_box 55 _ (tg (W) (H) (.slice (some ⟨G, 0, none⟩) N cap)) rfl rfl ?_; intro w1 B1 N1; have g1 := N1.gr; have b1 : Blk w1 B1 (tg (W) (H) (.slice (some ⟨G, 0, none⟩) N cap)) 55 := N1.blk; have l1 := N1.lo; have t1 := N1.hi; have z1 := g1.size; have gg := gg.trans g1; clear N1; obtain ⟨b1_0, b1_1, b1_2⟩ := tcells b1) | (refine r_load_row 55 _ _ rfl _ _ _ b1 Tryd.underlying55 rfl Tryd.tinfo rfl ?_) | (go_at_call 162; refine (HN1.out _).mono ?_; rintro e w2 ⟨g2, p, m, rfl, ownn⟩; have b1 := g2.blk b1; have gg := gg.trans g2))
  have own := g2.row (g1.row hown)
  clear b1_0 b1_1 b1_2
  go_loopw [11] (fun iv wr => ∃ k : Nat, k ≤ L ∧ iv = .int .i64 k ∧ Hid (∀ q j, q < k → (nearL W H i)[q]? = some j → okB c j = false) ∧ wr.ownsRow w1.heap.size 3 1 (.slice p L m) L (intsV (natsI (nearL W H i))) ∧ wr.ownsRow base 5 1 (.slice (some ⟨G, 0, none⟩) N cap) N (cellsV c) ∧ Blk wr B1 (tg W H (.slice (some ⟨G, 0, none⟩) N cap)) 55 ∧ Gr w wr) (fun iv _ => L - (intOf iv).toNat)
  case atStart => exact ⟨0, Nat.zero_le _, rfl, hidI (fun q j h => absurd h (Nat.not_lt_zero _)), ownn, own, b1, gg⟩
  case round =>
    clear ownn own b1 gg
    obtain ⟨k, hk, rfl, HNO, ownn, own, b1, gg⟩ := hrel
    by_cases hlt : k < L
    · obtain ⟨gn, cn', e, -, -⟩ := own_shape ownn (by omega)
      cases e
      obtain ⟨j, hj1, hj2⟩ := near_get (show k < (nearL W H i).length by rw [← HL.out]; exact hlt)
      have hjN : j < N := by rw [t.hN]; exact nearL_lt (by rw [← t.hN]; exact hi) j (List.mem_of_getElem? hj1)
      have cj := own_int ownn k hlt (by rw [natsI_length]; exact HL.out)
      rw [hj2] at cj
      obtain ⟨b1_0, b1_1, b1_2⟩ := tcells b1
      have hcj := own_cell own j (by rw [← t.len]; exact hjN) t.len
      have hgj := Tryd.six0 G N cap j hjN
      cases hb : okB c j with
      | true =>
        have HB := hidI (show isBallB (at0 c j) = true from hb)
        have HV := hidI (show besB W H c i = true from by unfold besB; rw [List.any_eq_true]; exact ⟨j, List.mem_of_getElem? hj1, hb⟩)
        clear hb hj1 hj2
        go_wp2_with (first | (refine r_idx 34 _ _ (.slice (some ⟨gn, 0, none⟩) L m) (.int .i64 k) _ rfl rfl (Tryd.wix0 gn L m k hlt _) rfl ?_) | (refine r_ldc 3 _ ⟨gn, k, none⟩ (.int .i64 j) rfl (Tryd.isAgg3 _) cj rfl ?_) | (go_at_call 111; refine (tyBall_any _ _).mono ?_; rintro e wSame ⟨rfl, rfl⟩; rw [HB.out]))
        go_ret
        exact ⟨ret_bool HV.out.symm, gg⟩
      | false =>
        have HB := hidI (show isBallB (at0 c j) = false from hb)
        have HNO2 := hidI (show ∀ q j, q < k + 1 → (nearL W H i)[q]? = some j → okB c j = false from fun q j' hq hj' => if h : q < k then HNO.out q j' h hj' else by
          obtain rfl : q = k := by omega
          rw [hj1] at hj'
          cases hj'
          exact hb)
        clear hb hj1 hj2
        go_wp2_with (first | (refine r_idx 34 _ _ (.slice (some ⟨gn, 0, none⟩) L m) (.int .i64 k) _ rfl rfl (Tryd.wix0 gn L m k hlt _) rfl ?_) | (refine r_ldc 3 _ ⟨gn, k, none⟩ (.int .i64 j) rfl (Tryd.isAgg3 _) cj rfl ?_) | (go_at_call 111; refine (tyBall_any _ _).mono ?_; rintro e wSame ⟨rfl, rfl⟩; rw [HB.out]))
        go_roundw
        case rel => exact ⟨k + 1, by omega, by go_num, HNO2, ownn, own, b1, gg⟩
        case measure => simp [intOf]; omega
    · obtain rfl : k = L := by omega
      have HV := hidI (show besB W H c i = false from by
        unfold besB
        rw [← Bool.not_eq_true, List.any_eq_true]
        rintro ⟨j, hj, hb⟩
        obtain ⟨q, hq, e⟩ := List.getElem_of_mem hj
        have := HNO.out q j (by rw [HL.out]; exact hq) (by rw [List.getElem?_eq_getElem hq, e])
        rw [this] at hb
        cases hb)
      clear hlt
      go_wp2
      go_ret
      exact ⟨ret_bool HV.out.symm, gg⟩
set_option maxHeartbeats 2000000 in
set_option maxRecDepth 100000 in
theorem buCan_any (W H base G cap N d i : Nat) (c : List UInt8) (w : World) (t : Ty W H N c) (hd : d < 4) (hi : i < N)
    (hown : w.ownsRow base 5 1 (.slice (some ⟨G, 0, none⟩) N cap) N (cellsV c)) :
    Calls Tryd.prog 112 #[.agg (tg W H (.slice (some ⟨G, 0, none⟩) N cap)), .int .i64 i, .int .i64 d] w (Ret (.bool (frB W H c d i && besB W H c i)) w) := by
  have gg := Gr.refl w
  have HF := hidI (fun w ho => buFree_any W H base G cap N d i c w t hd hi ho)
  have HX := hidI (fun w ho => buNext_any W H base G cap N i c w t hi ho)
  cases hb : frB W H c d i with
  | false =>
    rw [hb] at HF
    clear hb
    go_enter Tryd.func112, Tryd.ntmps112
    go_wp2_with (first | (refine r_box 55 _ (tg (W) (H) (.slice (some ⟨G, 0, none⟩) N cap)) rfl rfl ?_; intro w1 B1 N1; have g1 := N1.gr; have b1 : Blk w1 B1 (tg (W) (H) (.slice (some ⟨G, 0, none⟩) N cap)) 55 := N1.blk; have l1 := N1.lo; have t1 := N1.hi; have z1 := g1.size; have gg := gg.trans g1; clear N1; obtain ⟨b1_0, b1_1, b1_2⟩ := tcells b1) | (refine r_load_row 55 _ _ rfl _ _ _ b1 Tryd.underlying55 rfl Tryd.tinfo rfl ?_) | (go_at_call 136; refine (HF.out _ (g1.row hown)).mono ?_; rintro e w2 ⟨rfl, g2⟩; have z2 := g2.size; have b1 := g2.blk b1; obtain ⟨b1_0, b1_1, b1_2⟩ := tcells b1; have gg := gg.trans g2))
    go_ret
    exact ⟨rfl, gg⟩
  | true =>
    rw [hb] at HF
    clear hb
    go_enter Tryd.func112, Tryd.ntmps112
    go_wp2_with (first | (refine r_box 55 _ (tg (W) (H) (.slice (some ⟨G, 0, none⟩) N cap)) rfl rfl ?_; intro w1 B1 N1; have g1 := N1.gr; have b1 : Blk w1 B1 (tg (W) (H) (.slice (some ⟨G, 0, none⟩) N cap)) 55 := N1.blk; have l1 := N1.lo; have t1 := N1.hi; have z1 := g1.size; have gg := gg.trans g1; clear N1; obtain ⟨b1_0, b1_1, b1_2⟩ := tcells b1) | (refine r_load_row 55 _ _ rfl _ _ _ b1 Tryd.underlying55 rfl Tryd.tinfo rfl ?_) | (go_at_call 136; refine (HF.out _ (g1.row hown)).mono ?_; rintro e w2 ⟨rfl, g2⟩; have z2 := g2.size; have b1 := g2.blk b1; obtain ⟨b1_0, b1_1, b1_2⟩ := tcells b1; have gg := gg.trans g2) | (go_at_call 137; refine (HX.out _ (g2.row (g1.row hown))).mono ?_; rintro e w3 ⟨rfl, g3⟩; have z3 := g3.size; have gg := gg.trans g3))
    go_ret
    exact ⟨rfl, gg⟩
set_option maxHeartbeats 2000000 in
set_option maxRecDepth 100000 in
theorem buWay_any (W H base G cap N i : Nat) (c : List UInt8) (w : World) (t : Ty W H N c) (hi : i < N)
    (hown : w.ownsRow base 5 1 (.slice (some ⟨G, 0, none⟩) N cap) N (cellsV c)) :
    Calls Tryd.prog 76 #[.agg (tg W H (.slice (some ⟨G, 0, none⟩) N cap)), .int .i64 i] w (Ret (.int .i64 (bwN W H c i)) w) := by
  have gg := Gr.refl w
  have HC := hidI (fun d w (hd : d < 4) ho => buCan_any W H base G cap N d i c w t hd hi ho)
  go_enter Tryd.func76, Tryd.ntmps76
  go_wp2_with (refine r_box 55 _ (tg (W) (H) (.slice (some ⟨G, 0, none⟩) N cap)) rfl rfl ?_; intro w1 B1 N1; have g1 := N1.gr; have b1 : Blk w1 B1 (tg (W) (H) (.slice (some ⟨G, 0, none⟩) N cap)) 55 := N1.blk; have l1 := N1.lo; have t1 := N1.hi; have z1 := g1.size; have gg := gg.trans g1; clear N1; obtain ⟨b1_0, b1_1, b1_2⟩ := tcells b1)
  have own := g1.row hown
  clear b1_0 b1_1 b1_2
  go_loopw [5] (fun iv wr => ∃ k : Nat, k ≤ 4 ∧ iv = .int .i64 k ∧ Hid (∀ d, d < k → (frB W H c d i && besB W H c i) = false) ∧ wr.ownsRow base 5 1 (.slice (some ⟨G, 0, none⟩) N cap) N (cellsV c) ∧ Blk wr B1 (tg W H (.slice (some ⟨G, 0, none⟩) N cap)) 55 ∧ Gr w wr) (fun iv _ => 4 - (intOf iv).toNat)
  case atStart => exact ⟨0, Nat.zero_le _, rfl, hidI (fun d h => absurd h (Nat.not_lt_zero _)), own, b1, gg⟩
  case round =>
    clear own b1 gg
    obtain ⟨k, hk, rfl, HNO, own, b1, gg⟩ := hrel
    by_cases hlt : k < 4
    · have HCK := hidI (fun w ho => HC.out k w hlt ho)
      cases hb : (frB W H c k i && besB W H c i) with
      | true =>
        rw [hb] at HCK
        have HV := hidI (show bwN W H c i = (k : Int) from by
          rw [Bool.and_eq_true] at hb
          unfold bwN
          rw [if_pos hb.2]
          refine wyN_first (fun d hd => ?_) hb.1 hlt
          have := HNO.out d hd
          rw [hb.2, Bool.and_true] at this
          exact this)
        clear hb
        go_wp2_with (first | (refine r_load_row 55 _ _ rfl _ _ _ b1 Tryd.underlying55 rfl Tryd.tinfo rfl ?_) | (go_at_call 112; refine (HCK.out _ own).mono ?_; rintro e w2 ⟨rfl, g2⟩; have z2 := g2.size; have gg := gg.trans g2))
        go_ret
        exact ⟨ret_int HV.out.symm, gg⟩
      | false =>
        rw [hb] at HCK
        have HNO2 := hidI (show ∀ d, d < k + 1 → (frB W H c d i && besB W H c i) = false from fun d hd => if h : d < k then HNO.out d h else by rw [show d = k by omega]; exact hb)
        clear hb
        go_wp2_with (first | (refine r_load_row 55 _ _ rfl _ _ _ b1 Tryd.underlying55 rfl Tryd.tinfo rfl ?_) | (go_at_call 112; refine (HCK.out _ own).mono ?_; rintro e w2 ⟨rfl, g2⟩; have z2 := g2.size; have b1 := g2.blk b1; have gg := gg.trans g2))
        go_roundw
        case rel => exact ⟨k + 1, by omega, by go_num, HNO2, g2.row own, b1, gg⟩
        case measure => simp [intOf]; omega
    · obtain rfl : k = 4 := by omega
      have HV := hidI (show bwN W H c i = -1 from by
        unfold bwN
        cases h : besB W H c i with
        | false => rw [if_neg (by decide)]
        | true =>
          rw [if_pos rfl]
          have h1 := (wyN_neg (W := W) (H := H) (c := c) (i := i) (k := 4)).2 (fun d hd => by have := HNO.out d hd; rw [h, Bool.and_true] at this; exact this)
          have h2 := (bwN_le (W := W) (H := H) (c := c) (i := i)).1
          unfold bwN at h2
          rw [h, if_pos rfl] at h2
          omega)
      clear hlt
      go_wp2
      go_ret
      exact ⟨ret_int HV.out.symm, gg⟩
end Go.Proofs.YtdebiobhmpoiiaaDoor
