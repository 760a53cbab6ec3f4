/-
  Forms: the program's reader of forms, and the functions that only read them.
-/
import Derived.Test.YtdebiobhmpoiiaaDoorFormQ
import Derived.Test.YtdebiobhmpoiiaaDoorFnE
namespace Go.Proofs.YtdebiobhmpoiiaaDoor
open Go.RowKit
section
variable {P : Program} {w : World} {a : Act} {dst : Option Tmp} {ty : TypeId} {pos : String} {aft : Array Edge} {gd : Option (Nat × Bool)}
theorem e_lssF {T yt : TypeId} (x y : Operand) (m n : Int) (b : Bool) (hx : a.eval x = .int .i64 m) (hy : a.eval y = .int .i64 n) (hb : decide (m < n) = b) :
    (execOp a.eval ⟨dst, .binOp .lss T x y yt, ty, pos, aft, gd⟩).run P w = .ok (.value (.bool b)) w := by
  subst hb
  unfold execOp
  simp [hx, hy, eqGuard, binOp, Op.intCmp]
theorem e_gtrF {T yt : TypeId} (x y : Operand) (m n : Int) (b : Bool) (hx : a.eval x = .int .i64 m) (hy : a.eval y = .int .i64 n) (hb : decide (n < m) = b) :
    (execOp a.eval ⟨dst, .binOp .gtr T x y yt, ty, pos, aft, gd⟩).run P w = .ok (.value (.bool b)) w := by
  subst hb
  unfold execOp
  simp [hx, hy, eqGuard, binOp, Op.intCmp]
end
set_option maxHeartbeats 2000000 in
set_option maxRecDepth 100000 in
theorem ballsAlone_any (W H : Nat) (c : List UInt8) (w : World) (hW : W ≤ 7) (hH : H ≤ 7) (h36 : nn W H ≤ 36) (hl : c.length = nn W H) : Calls Tryd.prog 139 #[.agg (gv W H c)] w (Ret (.agg (gv W H (alC c))) w) := by
  have gg := Gr.refl w
  have HE := hidI (show alTo c (nn W H) = alC c from by unfold alC; rw [hl])
  have HZ := hidI (alTo_zero c)
  have HL := hidI hl
  clear hl
  go_enter Tryd.func139, Tryd.ntmps139
  go_wp2_with (first | (refine r_box 72 _ (gv W H c) rfl rfl ?_; intro w1 B1 N1; have g1 := N1.gr; have b1 : Blk w1 B1 (gv W H c) 72 := N1.blk; have l1 := N1.lo; have t1 := N1.hi; have z1 := g1.size; have gg := gg.trans g1; clear N1; obtain ⟨b1_0, b1_1, b1_2⟩ := gcells b1) | (refine r_alloc 72 _ Tryd.gzero rfl ?_; intro w2 B2 N2; have g2 := N2.gr; have b2 : Blk w2 B2 (gv 0 0 []) 72 := N2.blk; have l2 := N2.lo; have t2 := N2.hi; have z2 := g2.size; have b1 := g2.blk b1; obtain ⟨b1_0, b1_1, b1_2⟩ := gcells b1; have gg := gg.trans g2; clear N2; obtain ⟨b2_0, b2_1, b2_2⟩ := gcells b2) | (refine r_load_row 72 _ _ rfl _ _ _ b1 Tryd.underlying72 rfl (Tryd.ginfo' _ _ _) rfl ?_) | (go_at_call 70; refine (countAll_any W H c _ hW hH).mono ?_; rintro e w3 ⟨rfl, g3⟩; have z3 := g3.size; have b1 := g3.blk b1; have b2 := g3.blk b2; have gg := gg.trans g3))
  rw [← HZ.out] at b1
  go_loopw [6] (fun i wr => ∃ k : Nat, k ≤ nn W H ∧ i = .int .i64 k ∧ Blk wr B1 (gv W H (alTo c k)) 72 ∧ Blk wr B2 (gv 0 0 []) 72 ∧ Gr w wr) (fun i _ => nn W H - (intOf i).toNat)
  case atStart => exact ⟨0, Nat.zero_le _, rfl, b1, b2, gg⟩
  case round =>
    obtain ⟨k, hk, rfl, b1, b2, gg⟩ := hrel
    have lo1 : w.heap.size ≤ B1 := by omega
    have lo2 : w.heap.size ≤ B2 := by omega
    have hne : B1 < B2 := by omega
    by_cases hlt : k < nn W H
    · have hix := fun w => Tryd.gix B1 k (by omega) w
      have hc := (gcells b1).2.2 k (by omega)
      rw [alTo_at c k k (by rw [HL.out]; exact hlt), if_neg (fun h => absurd h.1 (Nat.lt_irrefl _))] at hc
      by_cases hb : at0 c k = 46
      · have e1 : (((at0 c k).toNat : Int) == 46) = true := beq_byte hb
        have hset := gv_set W H (alTo c k) k 35 (by omega) (by rw [alTo_length, HL.out]; exact hlt)
        rw [alTo_set hb] at hset
        have HSET := hidI hset
        clear hset hb
        go_wp2_with (refine r_store_cell 5 72 _ _ B1 (2 + k) rfl (byteV 35) rfl _ b1 (by rw [gv_size]; omega) Tryd.sizeOf5 rfl rfl ?_; intro w10 u10 b10; rw [HSET.out] at b10; have gg := u10.gr gg lo1; have b2 := u10.blk b2 (by omega))
        go_roundw
        case rel => exact ⟨k + 1, by omega, by go_num, b10, b2, gg⟩
        case measure => simp [intOf]; omega
      · have e1 : (((at0 c k).toNat : Int) == 46) = false := bne_byte hb
        have HS := hidI (alTo_skip hb)
        clear hb
        go_wp2
        go_roundw
        case rel => exact ⟨k + 1, by omega, by go_num, by rw [← HS.out]; exact b1, b2, gg⟩
        case measure => simp [intOf]; omega
    · obtain rfl : k = nn W H := by omega
      rw [HE.out] at b1
      clear hlt
      go_wp2_with (first | (refine r_load_row 72 _ _ rfl _ _ _ b1 Tryd.underlying72 rfl (Tryd.ginfo' _ _ _) rfl ?_) | (refine r_store_row 72 72 _ _ _ rfl (gv _ _ _) _ rfl b2 (Tryd.gsize' _ _ _) (by simp only [gv_size]) (gv_one _ _ _) rfl ?_; intro w6 u6 b2'; have z6 := u6.size; have gg := u6.gr gg (by omega); have b1 := u6.blk b1 (by omega); clear b2; have b2 := b2'; clear b2'; obtain ⟨b2_0, b2_1, b2_2⟩ := gcells b2))
      refine bodyPost_ret (results_row rfl _ _ _ _ _ _ rfl b2 Tryd.underlying72 rfl (Tryd.ginfo' _ _ _)) rfl ⟨?_, gg⟩
      rfl
set_option maxHeartbeats 4000000 in
set_option maxRecDepth 100000 in
theorem isForm_any (W H : Nat) (c : List UInt8) (w : World) (hw1 : 1 ≤ W) (hw7 : W ≤ 7) (hh7 : H ≤ 7) (h36 : nn W H ≤ 36) (hl : c.length = nn W H) : Calls Tryd.prog 113 #[.agg (gv W H c)] w (Ret (.bool (foG W H c)) w) := by
  rw [← form_eq hl]
  have gg := Gr.refl w
  obtain ⟨N, hN⟩ : ∃ N, N = nn W H := ⟨_, rfl⟩
  obtain ⟨b, hb⟩ : ∃ b, b = cnt c 111 N := ⟨_, rfl⟩
  obtain ⟨z, hz⟩ : ∃ z, z = cnt c 46 N := ⟨_, rfl⟩
  obtain ⟨f, hf⟩ : ∃ f, f = (gi (ballsTo ballB c N) 0).toNat := ⟨_, rfl⟩
  obtain ⟨m, hm⟩ : ∃ m, m = (posTo (farL W H (alC c) f) N).length := ⟨_, rfl⟩
  have HV := hidI (show foI W H c = (decide (1 ≤ b) && decide (b ≤ 10) && decide (N ≤ b + z) && decide (m = b)) from by unfold foI; rw [hm, hf, hb, hz, hN])
  have hb36 : b ≤ 36 := by rw [hb]; have := cnt_le c 111 N; omega
  have hz36 : z ≤ 36 := by rw [hz]; have := cnt_le c 46 N; omega
  have HC111 := hidI (fun w => show Calls Tryd.prog 126 #[.agg (gv W H c), .int .u8 111] w (Ret (.int .i64 b) w) from by rw [hb, hN]; exact countByte_any W H c 111 w hw7 hh7 h36)
  have HC46 := hidI (fun w => show Calls Tryd.prog 126 #[.agg (gv W H c), .int .u8 46] w (Ret (.int .i64 z) w) from by rw [hz, hN]; exact countByte_any W H c 46 w hw7 hh7 h36)
  have HCA := hidI (fun w => show Calls Tryd.prog 70 #[.agg (gv W H c)] w (Ret (.int .i64 N) w) from by rw [hN]; exact countAll_any W H c w hw7 hh7)
  have HBA := hidI (fun w => ballsAlone_any W H c w hw7 hh7 h36 hl)
  have hN36 : N ≤ 36 := by omega
  have HGO := hidI (fun (h1 : 1 ≤ b) (h2 : N ≤ b + z) => show (∃ L, L = intsV (ballsTo ballB c N) ∧ (ballsTo ballB c N).length = b ∧ gi (ballsTo ballB c N) 0 = f ∧ f < nn W H) from by
    have hall := foAll_iff.1 ((cnt_two c N).2.1 (by rw [← hb, ← hz]; exact h2))
    obtain ⟨e1, e2⟩ := fo_balls hall
    obtain ⟨i, e, hi, -⟩ := ball_at (p := ballB) (c := c) (n := N) (k := 0) (by rw [e1, e2, ← hb]; exact h1)
    refine ⟨_, rfl, by rw [e1, e2, ← hb], ?_, ?_⟩
    · rw [hf, e]; rfl
    · rw [hf, e, ← hN, Int.toNat_natCast]; exact hi)
  have HBI := hidI (fun w (hlb : (ballsTo ballB c N).length = b) (h1 : 1 ≤ b) => show Calls Tryd.prog 116 #[.agg (gv W H c)] w fun e w' => ∃ v, e = .returned v ∧ Gr w w' ∧ ∃ G cap, v = .slice (some ⟨G, 0, none⟩) b cap ∧ w'.ownsRow w.heap.size 3 1 (.slice (some ⟨G, 0, none⟩) b cap) b (intsV (ballsTo ballB c N)) from
    (ballsIn_any W H c w hw7 hh7 h36).mono fun e w' ⟨g, v, he, ho⟩ => by
      rw [← hN, hlb] at ho
      obtain ⟨G, cap, rfl, -, -⟩ := own_shape ho h1
      exact ⟨_, he, g, G, cap, rfl, ho⟩)
  have HPW := hidI (fun w (hfN : f < nn W H) => show Calls Tryd.prog 138 #[.agg (gv W H (alC c)), .int .i64 f] w fun e w' => ∃ v, e = .returned v ∧ Gr w w' ∧ ∃ p cap, v = .slice p m cap from
    (partWith_any W H f (alC c) w hw1 hw7 hh7 hfN h36).mono fun e w' ⟨g, v, he, ho⟩ => by
      obtain ⟨p, k, cap, rfl⟩ := own_slice ho
      obtain rfl : k = _ := own_len ho
      rw [← hN, ← hm] at he
      exact ⟨_, he, g, p, cap, rfl⟩)
  rw [HV.out]
  clear HV hb hz hf hm hN
  go_enter Tryd.func113, Tryd.ntmps113
  go_wp2_with (first | (refine r_box 72 _ (gv W H c) rfl rfl ?_; intro w1 B1 N1; have g1 := N1.gr; have b1 : Blk w1 B1 (gv W H c) 72 := N1.blk; have l1 := N1.lo; have t1 := N1.hi; have z1 := g1.size; have gg := gg.trans g1; clear N1; obtain ⟨b1_0, b1_1, b1_2⟩ := gcells b1) | (refine r_load_row 72 _ _ rfl _ _ _ b1 Tryd.underlying72 rfl (Tryd.ginfo' _ _ _) rfl ?_) | (go_at_call 126; refine (HC111.out _).mono ?_; rintro e w2 ⟨rfl, g2⟩; have z2 := g2.size; have b1 := g2.blk b1; obtain ⟨b1_0, b1_1, b1_2⟩ := gcells b1; have gg := gg.trans g2))
  have hcs : b < 1 ∨ (1 ≤ b ∧ 10 < b) ∨ (1 ≤ b ∧ b ≤ 10 ∧ b + z < N) ∨ (1 ≤ b ∧ b ≤ 10 ∧ N ≤ b + z) := by omega
  rcases hcs with h1 | ⟨h1, h2⟩ | ⟨h1, h2, h3⟩ | ⟨h1, h2, h3⟩
  · have HX := hidI (show (decide (1 ≤ b) && decide (b ≤ 10) && decide (N ≤ b + z) && decide (m = b)) = false from by rw [decide_eq_false (show ¬ 1 ≤ b by omega)]; rfl)
    refine q_whole (by kernel_rfl) (by kernel_rfl) ?_
    refine q_take (.int .i64 b) rfl (fun w' hw' => by first | rfl | (unfold execOp; simp [go_sem, Act.eval])) ?_
    simp only [Act.put, List.setIfInBounds_toArray, List.set_cons_succ, List.set_cons_zero]
    refine q_take (.bool true) rfl (fun w' hw' => e_lssF _ _ (b) (1) _ rfl rfl (decide_eq_true (by omega))) ?_
    simp only [Act.put, List.setIfInBounds_toArray, List.set_cons_succ, List.set_cons_zero]
    refine q_take (.bool true) rfl (fun w' hw' => by first | rfl | (unfold execOp; simp [go_sem, Act.eval])) ?_
    simp only [Act.put, List.setIfInBounds_toArray, List.set_cons_succ, List.set_cons_zero]
    refine BigFrame.wpQuiet_skip rfl ?_
    simp only [Act.put, List.setIfInBounds_toArray, List.set_cons_succ, List.set_cons_zero]
    refine BigFrame.wpQuiet_skip rfl ?_
    simp only [Act.put, List.setIfInBounds_toArray, List.set_cons_succ, List.set_cons_zero]
    refine q_take (.bool true) rfl (fun w' hw' => by first | rfl | (unfold execOp; simp [go_sem, Act.eval])) ?_
    simp only [Act.put, List.setIfInBounds_toArray, List.set_cons_succ, List.set_cons_zero]
    refine q_take (.bool true) rfl (fun w' hw' => by first | rfl | (unfold execOp; simp [go_sem, Act.eval])) ?_
    simp only [Act.put, List.setIfInBounds_toArray, List.set_cons_succ, List.set_cons_zero]
    refine BigFrame.wpQuiet_skip rfl ?_
    simp only [Act.put, List.setIfInBounds_toArray, List.set_cons_succ, List.set_cons_zero]
    refine BigFrame.wpQuiet_skip rfl ?_
    simp only [Act.put, List.setIfInBounds_toArray, List.set_cons_succ, List.set_cons_zero]
    refine BigFrame.wpQuiet_skip rfl ?_
    simp only [Act.put, List.setIfInBounds_toArray, List.set_cons_succ, List.set_cons_zero]
    refine BigFrame.wpQuiet_skip rfl ?_
    simp only [Act.put, List.setIfInBounds_toArray, List.set_cons_succ, List.set_cons_zero]
    refine BigFrame.wpQuiet_skip rfl ?_
    simp only [Act.put, List.setIfInBounds_toArray, List.set_cons_succ, List.set_cons_zero]
    refine BigFrame.wpQuiet_skip rfl ?_
    simp only [Act.put, List.setIfInBounds_toArray, List.set_cons_succ, List.set_cons_zero]
    refine BigFrame.wpQuiet_skip rfl ?_
    simp only [Act.put, List.setIfInBounds_toArray, List.set_cons_succ, List.set_cons_zero]
    refine q_take (.bool true) rfl (fun w' hw' => by first | rfl | (unfold execOp; simp [go_sem, Act.eval])) ?_
    simp only [Act.put, List.setIfInBounds_toArray, List.set_cons_succ, List.set_cons_zero]
    refine wpQuiet_nil ?_; intro w3 g3; have z3 := g3.size; have b1 := g3.blk b1; obtain ⟨b1_0, b1_1, b1_2⟩ := gcells b1; have gg := gg.trans g3
    go_wp2
    go_ret
    exact ⟨ret_bool HX.out.symm, gg⟩
  · have HX := hidI (show (decide (1 ≤ b) && decide (b ≤ 10) && decide (N ≤ b + z) && decide (m = b)) = false from by rw [decide_eq_false (show ¬ b ≤ 10 by omega), Bool.and_false]; rfl)
    refine q_whole (by kernel_rfl) (by kernel_rfl) ?_
    refine q_take (.int .i64 b) rfl (fun w' hw' => by first | rfl | (unfold execOp; simp [go_sem, Act.eval])) ?_
    simp only [Act.put, List.setIfInBounds_toArray, List.set_cons_succ, List.set_cons_zero]
    refine q_take (.bool false) rfl (fun w' hw' => e_lssF _ _ (b) (1) _ rfl rfl (decide_eq_false (by omega))) ?_
    simp only [Act.put, List.setIfInBounds_toArray, List.set_cons_succ, List.set_cons_zero]
    refine q_take (.bool false) rfl (fun w' hw' => by first | rfl | (unfold execOp; simp [go_sem, Act.eval])) ?_
    simp only [Act.put, List.setIfInBounds_toArray, List.set_cons_succ, List.set_cons_zero]
    refine q_take (.int .i64 b) rfl (fun w' hw' => by first | rfl | (unfold execOp; simp [go_sem, Act.eval])) ?_
    simp only [Act.put, List.setIfInBounds_toArray, List.set_cons_succ, List.set_cons_zero]
    refine q_take (.bool true) rfl (fun w' hw' => e_gtrF _ _ (b) (10) _ rfl rfl (decide_eq_true (by omega))) ?_
    simp only [Act.put, List.setIfInBounds_toArray, List.set_cons_succ, List.set_cons_zero]
    refine q_take (.bool true) rfl (fun w' hw' => by first | rfl | (unfold execOp; simp [go_sem, Act.eval])) ?_
    simp only [Act.put, List.setIfInBounds_toArray, List.set_cons_succ, List.set_cons_zero]
    refine q_take (.bool true) rfl (fun w' hw' => by first | rfl | (unfold execOp; simp [go_sem, Act.eval])) ?_
    simp only [Act.put, List.setIfInBounds_toArray, List.set_cons_succ, List.set_cons_zero]
    refine BigFrame.wpQuiet_skip rfl ?_
    simp only [Act.put, List.setIfInBounds_toArray, List.set_cons_succ, List.set_cons_zero]
    refine BigFrame.wpQuiet_skip rfl ?_
    simp only [Act.put, List.setIfInBounds_toArray, List.set_cons_succ, List.set_cons_zero]
    refine BigFrame.wpQuiet_skip rfl ?_
    simp only [Act.put, List.setIfInBounds_toArray, List.set_cons_succ, List.set_cons_zero]
    refine BigFrame.wpQuiet_skip rfl ?_
    simp only [Act.put, List.setIfInBounds_toArray, List.set_cons_succ, List.set_cons_zero]
    refine BigFrame.wpQuiet_skip rfl ?_
    simp only [Act.put, List.setIfInBounds_toArray, List.set_cons_succ, List.set_cons_zero]
    refine BigFrame.wpQuiet_skip rfl ?_
    simp only [Act.put, List.setIfInBounds_toArray, List.set_cons_succ, List.set_cons_zero]
    refine BigFrame.wpQuiet_skip rfl ?_
    simp only [Act.put, List.setIfInBounds_toArray, List.set_cons_succ, List.set_cons_zero]
    refine q_take (.bool true) rfl (fun w' hw' => by first | rfl | (unfold execOp; simp [go_sem, Act.eval])) ?_
    simp only [Act.put, List.setIfInBounds_toArray, List.set_cons_succ, List.set_cons_zero]
    refine wpQuiet_nil ?_; intro w3 g3; have z3 := g3.size; have b1 := g3.blk b1; obtain ⟨b1_0, b1_1, b1_2⟩ := gcells b1; have gg := gg.trans g3
    go_wp2
    go_ret
    exact ⟨ret_bool HX.out.symm, gg⟩
  · have HX := hidI (show (decide (1 ≤ b) && decide (b ≤ 10) && decide (N ≤ b + z) && decide (m = b)) = false from by rw [decide_eq_false (show ¬ N ≤ b + z by omega), Bool.and_false]; rfl)
    refine q_whole (by kernel_rfl) (by kernel_rfl) ?_
    refine q_take (.int .i64 b) rfl (fun w' hw' => by first | rfl | (unfold execOp; simp [go_sem, Act.eval])) ?_
    simp only [Act.put, List.setIfInBounds_toArray, List.set_cons_succ, List.set_cons_zero]
    refine q_take (.bool false) rfl (fun w' hw' => e_lssF _ _ (b) (1) _ rfl rfl (decide_eq_false (by omega))) ?_
    simp only [Act.put, List.setIfInBounds_toArray, List.set_cons_succ, List.set_cons_zero]
    refine q_take (.bool false) rfl (fun w' hw' => by first | rfl | (unfold execOp; simp [go_sem, Act.eval])) ?_
    simp only [Act.put, List.setIfInBounds_toArray, List.set_cons_succ, List.set_cons_zero]
    refine q_take (.int .i64 b) rfl (fun w' hw' => by first | rfl | (unfold execOp; simp [go_sem, Act.eval])) ?_
    simp only [Act.put, List.setIfInBounds_toArray, List.set_cons_succ, List.set_cons_zero]
    refine q_take (.bool false) rfl (fun w' hw' => e_gtrF _ _ (b) (10) _ rfl rfl (decide_eq_false (by omega))) ?_
    simp only [Act.put, List.setIfInBounds_toArray, List.set_cons_succ, List.set_cons_zero]
    refine q_take (.bool false) rfl (fun w' hw' => by first | rfl | (unfold execOp; simp [go_sem, Act.eval])) ?_
    simp only [Act.put, List.setIfInBounds_toArray, List.set_cons_succ, List.set_cons_zero]
    refine q_take (.bool false) rfl (fun w' hw' => by first | rfl | (unfold execOp; simp [go_sem, Act.eval])) ?_
    simp only [Act.put, List.setIfInBounds_toArray, List.set_cons_succ, List.set_cons_zero]
    refine q_take (.int .i64 b) rfl (fun w' hw' => by first | rfl | (unfold execOp; simp [go_sem, Act.eval])) ?_
    simp only [Act.put, List.setIfInBounds_toArray, List.set_cons_succ, List.set_cons_zero]
    refine q_take (.agg (gv _ _ _)) rfl (fun w' hw' => e_load_row 72 (.tmp 1) _ _ _ _ rfl (hw'.blk b1) Tryd.underlying72 rfl (Tryd.ginfo' _ _ _)) ?_; simp only [Act.put, List.setIfInBounds_toArray, List.set_cons_succ, List.set_cons_zero]
    refine q_call 126 [.tmp 14, .const (.int .u8 46)] _ [.agg (gv W H c), .int .u8 46] (.int .i64 z) Tryd.call126 rfl rfl (fun w' hw' => ((HC46.out w').mono fun e w'' h => ⟨h.1, hw'.trans h.2⟩)) ?_; simp only [Act.put, List.setIfInBounds_toArray, List.set_cons_succ, List.set_cons_zero]
    refine q_add _ _ _ _ (b) (z) (((b : Int) + z)) rfl rfl (rfl) (by omega) rfl ?_; simp only [Act.put, List.setIfInBounds_toArray, List.set_cons_succ, List.set_cons_zero]
    refine q_take (.agg (gv _ _ _)) rfl (fun w' hw' => e_load_row 72 (.tmp 1) _ _ _ _ rfl (hw'.blk b1) Tryd.underlying72 rfl (Tryd.ginfo' _ _ _)) ?_; simp only [Act.put, List.setIfInBounds_toArray, List.set_cons_succ, List.set_cons_zero]
    refine q_call 70 [.tmp 17] _ [.agg (gv W H c)] (.int .i64 N) Tryd.call70 rfl rfl (fun w' hw' => ((HCA.out w').mono fun e w'' h => ⟨h.1, hw'.trans h.2⟩)) ?_; simp only [Act.put, List.setIfInBounds_toArray, List.set_cons_succ, List.set_cons_zero]
    refine q_take (.bool true) rfl (fun w' hw' => e_lssF _ _ ((b : Int) + z) (N) _ rfl rfl (decide_eq_true (by omega))) ?_
    simp only [Act.put, List.setIfInBounds_toArray, List.set_cons_succ, List.set_cons_zero]
    refine q_take (.bool true) rfl (fun w' hw' => by first | rfl | (unfold execOp; simp [go_sem, Act.eval])) ?_
    simp only [Act.put, List.setIfInBounds_toArray, List.set_cons_succ, List.set_cons_zero]
    refine wpQuiet_nil ?_; intro w3 g3; have z3 := g3.size; have b1 := g3.blk b1; obtain ⟨b1_0, b1_1, b1_2⟩ := gcells b1; have gg := gg.trans g3
    go_wp2
    go_ret
    exact ⟨ret_bool HX.out.symm, gg⟩
  · have HX := hidI (show (decide (1 ≤ b) && decide (b ≤ 10) && decide (N ≤ b + z) && decide (m = b)) = decide (m = b) from by rw [decide_eq_true h1, decide_eq_true h2, decide_eq_true h3]; rfl)
    obtain ⟨-, -, hlb, hgf, hfN⟩ := HGO.out h1 h3
    have HLB := hidI hlb
    have HGF := hidI hgf
    obtain ⟨B, hB⟩ : ∃ B, B = decide (m = b) := ⟨_, rfl⟩
    have HB := hidI (show decide ((m : Int) = (b : Int)) = B from by rw [hB, Bool.eq_iff_iff, decide_eq_true_eq, decide_eq_true_eq]; omega)
    have HBB := hidI hB
    clear hB hlb hgf
    refine q_whole (by kernel_rfl) (by kernel_rfl) ?_
    refine q_take (.int .i64 b) rfl (fun w' hw' => by first | rfl | (unfold execOp; simp [go_sem, Act.eval])) ?_
    simp only [Act.put, List.setIfInBounds_toArray, List.set_cons_succ, List.set_cons_zero]
    refine q_take (.bool false) rfl (fun w' hw' => e_lssF _ _ (b) (1) _ rfl rfl (decide_eq_false (by omega))) ?_
    simp only [Act.put, List.setIfInBounds_toArray, List.set_cons_succ, List.set_cons_zero]
    refine q_take (.bool false) rfl (fun w' hw' => by first | rfl | (unfold execOp; simp [go_sem, Act.eval])) ?_
    simp only [Act.put, List.setIfInBounds_toArray, List.set_cons_succ, List.set_cons_zero]
    refine q_take (.int .i64 b) rfl (fun w' hw' => by first | rfl | (unfold execOp; simp [go_sem, Act.eval])) ?_
    simp only [Act.put, List.setIfInBounds_toArray, List.set_cons_succ, List.set_cons_zero]
    refine q_take (.bool false) rfl (fun w' hw' => e_gtrF _ _ (b) (10) _ rfl rfl (decide_eq_false (by omega))) ?_
    simp only [Act.put, List.setIfInBounds_toArray, List.set_cons_succ, List.set_cons_zero]
    refine q_take (.bool false) rfl (fun w' hw' => by first | rfl | (unfold execOp; simp [go_sem, Act.eval])) ?_
    simp only [Act.put, List.setIfInBounds_toArray, List.set_cons_succ, List.set_cons_zero]
    refine q_take (.bool false) rfl (fun w' hw' => by first | rfl | (unfold execOp; simp [go_sem, Act.eval])) ?_
    simp only [Act.put, List.setIfInBounds_toArray, List.set_cons_succ, List.set_cons_zero]
    refine q_take (.int .i64 b) rfl (fun w' hw' => by first | rfl | (unfold execOp; simp [go_sem, Act.eval])) ?_
    simp only [Act.put, List.setIfInBounds_toArray, List.set_cons_succ, List.set_cons_zero]
    refine q_take (.agg (gv _ _ _)) rfl (fun w' hw' => e_load_row 72 (.tmp 1) _ _ _ _ rfl (hw'.blk b1) Tryd.underlying72 rfl (Tryd.ginfo' _ _ _)) ?_; simp only [Act.put, List.setIfInBounds_toArray, List.set_cons_succ, List.set_cons_zero]
    refine q_call 126 [.tmp 14, .const (.int .u8 46)] _ [.agg (gv W H c), .int .u8 46] (.int .i64 z) Tryd.call126 rfl rfl (fun w' hw' => ((HC46.out w').mono fun e w'' h => ⟨h.1, hw'.trans h.2⟩)) ?_; simp only [Act.put, List.setIfInBounds_toArray, List.set_cons_succ, List.set_cons_zero]
    refine q_add _ _ _ _ (b) (z) (((b : Int) + z)) rfl rfl (rfl) (by omega) rfl ?_; simp only [Act.put, List.setIfInBounds_toArray, List.set_cons_succ, List.set_cons_zero]
    refine q_take (.agg (gv _ _ _)) rfl (fun w' hw' => e_load_row 72 (.tmp 1) _ _ _ _ rfl (hw'.blk b1) Tryd.underlying72 rfl (Tryd.ginfo' _ _ _)) ?_; simp only [Act.put, List.setIfInBounds_toArray, List.set_cons_succ, List.set_cons_zero]
    refine q_call 70 [.tmp 17] _ [.agg (gv W H c)] (.int .i64 N) Tryd.call70 rfl rfl (fun w' hw' => ((HCA.out w').mono fun e w'' h => ⟨h.1, hw'.trans h.2⟩)) ?_; simp only [Act.put, List.setIfInBounds_toArray, List.set_cons_succ, List.set_cons_zero]
    refine q_take (.bool false) rfl (fun w' hw' => e_lssF _ _ ((b : Int) + z) (N) _ rfl rfl (decide_eq_false (by omega))) ?_
    simp only [Act.put, List.setIfInBounds_toArray, List.set_cons_succ, List.set_cons_zero]
    refine q_take (.bool false) rfl (fun w' hw' => by first | rfl | (unfold execOp; simp [go_sem, Act.eval])) ?_
    simp only [Act.put, List.setIfInBounds_toArray, List.set_cons_succ, List.set_cons_zero]
    refine wpQuiet_nil ?_; intro w3 g3; have z3 := g3.size; have b1 := g3.blk b1; obtain ⟨b1_0, b1_1, b1_2⟩ := gcells b1; have gg := gg.trans g3
    go_wp2
    have gd := (Gr.refl w3).drew
    have b1 := gd.blk b1
    have gg := gg.trans gd
    refine K_begin (fun w => Blk w B1 (gv W H c) 72) 11 11 #[false, false, false, false, false, false, false, false, false, false, false] rfl (by kernel_rfl) (by kernel_rfl) ?_
    generalize w3.drew = wd at *
    refine K_take 0 #[true, false, false, false, false, false, false, false, false, false, false] rfl (by kernel_rfl) (fun _ _ _ h => h) rfl (fun w hF => e_load_row 72 (.tmp 1) B1 _ _ _ rfl hF Tryd.underlying72 rfl (Tryd.ginfo' _ _ _)) (b1) ?_; simp only [Act.put, List.setIfInBounds_toArray, List.set_cons_succ, List.set_cons_zero]
    refine K_take 2 #[true, false, true, false, false, false, false, false, false, false, false] rfl (by kernel_rfl) (fun _ _ _ h => h) rfl (fun w hF => e_load_row 72 (.tmp 1) B1 _ _ _ rfl hF Tryd.underlying72 rfl (Tryd.ginfo' _ _ _)) (b1) ?_; simp only [Act.put, List.setIfInBounds_toArray, List.set_cons_succ, List.set_cons_zero]
    refine K_take (v := .int .i64 b) 8 #[true, false, true, false, false, false, false, false, true, false, false] rfl (by kernel_rfl) (fun _ _ _ h => h) rfl (fun _ _ => rfl) (b1) ?_; simp only [Act.put, List.setIfInBounds_toArray, List.set_cons_succ, List.set_cons_zero]
    refine K_one 1 #[true, true, true, false, false, false, false, false, true, false, false] rfl (by kernel_rfl) ?_
    refine r_call 139 [.tmp 21] _ [.agg (gv W H c)] (.agg (gv W H (alC c))) (fun w' => Gr wd w') Tryd.call139 rfl rfl (HBA.out wd) ?_
    intro w4 g4
    have b1 := g4.blk b1
    have gg := gg.trans g4
    simp only [Act.put, List.setIfInBounds_toArray, List.set_cons_succ, List.set_cons_zero]
    refine ⟨fun _ => b1, ?_⟩
    refine K_one 3 #[true, true, true, true, false, false, false, false, true, false, false] rfl (by kernel_rfl) ?_
    refine r_callx 116 [.tmp 23] _ [.agg (gv W H c)] (fun v w' => Gr w4 w' ∧ ∃ G cap, v = .slice (some ⟨G, 0, none⟩) b cap ∧ w'.ownsRow w4.heap.size 3 1 (.slice (some ⟨G, 0, none⟩) b cap) b (intsV (ballsTo ballB c N))) Tryd.call116 rfl rfl (HBI.out w4 HLB.out h1) ?_
    rintro _ w5 ⟨g5, G, cap, rfl, own5⟩
    have b1 := g5.blk b1
    have gg := gg.trans g5
    have c0 := own_int own5 0 h1 HLB.out.symm
    rw [HGF.out] at c0
    simp only [Act.put, List.setIfInBounds_toArray, List.set_cons_succ, List.set_cons_zero]
    refine ⟨fun _ => b1, ?_⟩
    refine K_one 4 #[true, true, true, true, true, false, false, false, true, false, false] rfl (by kernel_rfl) ?_
    refine r_idx 34 _ _ (.slice (some ⟨G, 0, none⟩) b cap) (.int .i64 0) (.pointer (some ⟨G, 0, none⟩)) rfl rfl (Tryd.wixh G 0 b cap h1 _) rfl ?_
    simp only [Act.put, List.setIfInBounds_toArray, List.set_cons_succ, List.set_cons_zero]
    refine ⟨fun _ => b1, ?_⟩
    refine K_one 5 #[true, true, true, true, true, true, false, false, true, false, false] rfl (by kernel_rfl) ?_
    refine r_ldc 3 _ ⟨G, 0, none⟩ (.int .i64 f) rfl (Tryd.isAgg3 _) c0 rfl ?_
    simp only [Act.put, List.setIfInBounds_toArray, List.set_cons_succ, List.set_cons_zero]
    refine ⟨fun _ => b1, ?_⟩
    refine K_one 6 #[true, true, true, true, true, true, true, false, true, false, false] rfl (by kernel_rfl) ?_
    refine r_callx 138 [.tmp 22, .tmp 26] _ [.agg (gv W H (alC c)), .int .i64 f] (fun v w' => Gr w5 w' ∧ ∃ p cap, v = .slice p m cap) Tryd.call138 rfl rfl (HPW.out w5 hfN) ?_
    rintro _ w6 ⟨g6, p, cp, rfl⟩
    have b1 := g6.blk b1
    have gg := gg.trans g6
    simp only [Act.put, List.setIfInBounds_toArray, List.set_cons_succ, List.set_cons_zero]
    refine ⟨fun _ => b1, ?_⟩
    refine K_one 7 #[true, true, true, true, true, true, true, true, true, false, false] rfl (by kernel_rfl) ?_
    refine r_val (.int .i64 m) (by first | rfl | (unfold execOp; simp [go_sem, Act.eval])) rfl ?_
    simp only [Act.put, List.setIfInBounds_toArray, List.set_cons_succ, List.set_cons_zero]
    refine ⟨fun _ => b1, ?_⟩
    refine K_one 9 #[true, true, true, true, true, true, true, true, true, true, false] rfl (by kernel_rfl) ?_
    refine r_eqI _ _ m b B rfl rfl HB.out rfl ?_
    simp only [Act.put, List.setIfInBounds_toArray, List.set_cons_succ, List.set_cons_zero]
    refine ⟨fun _ => b1, ?_⟩
    refine K_one 10 #[true, true, true, true, true, true, true, true, true, true, true] rfl (by kernel_rfl) ?_
    refine r_val (.bool B) rfl rfl ?_
    simp only [Act.put, List.setIfInBounds_toArray, List.set_cons_succ, List.set_cons_zero]
    refine ⟨fun _ => b1, ?_⟩
    refine K_done' (by kernel_rfl) ?_
    go_wp2
    go_ret
    exact ⟨ret_bool (HBB.out.trans HX.out.symm), gg⟩
set_option maxHeartbeats 2000000 in
set_option maxRecDepth 100000 in
theorem readForm_any (s : ByteArray) (w : World) (hm : ML w) (hs : s.size ≤ 1048576) : Calls Tryd.prog 77 #[.string s] w (Ret (.tuple #[.agg (gvG (fmG s.data.toList)), .bool (fmOk s.data.toList)]) w) := by
  have gg := Gr.refl w
  rcases rd_cases s.data.toList with ⟨hp, hg, hk⟩ | ⟨g, hp, hg, hk⟩
  · have HK := hidI hk
    have HF := hidI (show fmOk s.data.toList = false ∧ fmG s.data.toList = ⟨0, 0, []⟩ from by
      have e : fmOk s.data.toList = false := by unfold fmOk; rw [hk]; rfl
      exact ⟨e, by unfold fmG; rw [e]; rfl⟩)
    clear hp hg hk
    go_enter Tryd.func77, Tryd.ntmps77
    go_wp2_with (first | (refine r_alloc (dst := some 2) 72 _ Tryd.gzero rfl ?_; intro w1 B1 N1; have g1 := N1.gr; have b1 : Blk w1 B1 (gv 0 0 []) 72 := N1.blk; have l1 := N1.lo; have t1 := N1.hi; have z1 := g1.size; have gg := gg.trans g1; clear N1; obtain ⟨b1_0, b1_1, b1_2⟩ := gcells b1) | (go_at_call 57; refine (readTray_any s _ (gg.ml hm) hs).mono ?_; rintro e w2 ⟨rfl, g2⟩; rw [HK.out]; have z2 := g2.size; have b1 := g2.blk b1; obtain ⟨b1_0, b1_1, b1_2⟩ := gcells b1; have gg := gg.trans g2) | (refine r_alloc (dst := some 4) 72 _ Tryd.gzero rfl ?_; intro w4 B4 N4; have g4 := N4.gr; have b4 : Blk w4 B4 (gv 0 0 []) 72 := N4.blk; have l4 := N4.lo; have t4 := N4.hi; have z4 := g4.size; have b1 := g4.blk b1; obtain ⟨b1_0, b1_1, b1_2⟩ := gcells b1; have gg := gg.trans g4; clear N4; obtain ⟨b4_0, b4_1, b4_2⟩ := gcells b4) | (refine r_store_row 72 72 _ _ _ rfl (gv _ _ _) _ rfl b4 (Tryd.gsize' _ _ _) (by simp only [gv_size]) (gv_one _ _ _) rfl ?_; intro w3 u3 b4'; have z3 := u3.size; have gg := u3.gr gg (by omega); have b1 := u3.blk b1 (by omega); obtain ⟨b1_0, b1_1, b1_2⟩ := gcells b1; clear b4; have b4 := b4'; clear b4'; obtain ⟨b4_0, b4_1, b4_2⟩ := gcells b4) | (refine r_build 72 [] [] _ (Tryd.gbuild0 _) rfl rfl ?_) | (refine r_store_row 72 72 _ _ _ rfl (gv _ _ _) _ rfl b1 (Tryd.gsize' _ _ _) (by simp only [gv_size]) (gv_one _ _ _) rfl ?_; intro w5 u5 b1'; have z5 := u5.size; have gg := u5.gr gg (by omega); have b4 := u5.blk b4 (by omega); obtain ⟨b4_0, b4_1, b4_2⟩ := gcells b4; clear b1; have b1 := b1'; clear b1'; obtain ⟨b1_0, b1_1, b1_2⟩ := gcells b1))
    refine bodyPost_ret (results_row_bool rfl _ _ _ _ _ _ rfl b1 Tryd.underlying72 rfl (Tryd.ginfo' _ _ _)) rfl ⟨?_, gg⟩
    exact fin2 (by rw [HF.out.2]; rfl) (by rw [HF.out.1])
  · have HK := hidI hk
    have HG := hidI hg
    have ht := parse_tray hp
    have HIS := hidI (fun w => isForm_any g.w g.h g.c w ht.w1 ht.w7 ht.h7 ht.n36 ht.len)
    cases hb : foG g.w g.h g.c with
    | false =>
      rw [hb] at HIS
      have HF := hidI (show fmOk s.data.toList = false ∧ fmG s.data.toList = ⟨0, 0, []⟩ from by
        have e : fmOk s.data.toList = false := by unfold fmOk; rw [hg, hb, Bool.and_false]
        exact ⟨e, by unfold fmG; rw [e]; rfl⟩)
      clear hp hg hk ht hb
      go_enter Tryd.func77, Tryd.ntmps77
      go_wp2_with (first | (refine r_alloc (dst := some 2) 72 _ Tryd.gzero rfl ?_; intro w1 B1 N1; have g1 := N1.gr; have b1 : Blk w1 B1 (gv 0 0 []) 72 := N1.blk; have l1 := N1.lo; have t1 := N1.hi; have z1 := g1.size; have gg := gg.trans g1; clear N1; obtain ⟨b1_0, b1_1, b1_2⟩ := gcells b1) | (go_at_call 57; refine (readTray_any s _ (gg.ml hm) hs).mono ?_; rintro e w2 ⟨rfl, g2⟩; rw [HK.out, HG.out, gvG]; have z2 := g2.size; have b1 := g2.blk b1; obtain ⟨b1_0, b1_1, b1_2⟩ := gcells b1; have gg := gg.trans g2) | (refine r_alloc (dst := some 4) 72 _ Tryd.gzero rfl ?_; intro w4 B4 N4; have g4 := N4.gr; have b4 : Blk w4 B4 (gv 0 0 []) 72 := N4.blk; have l4 := N4.lo; have t4 := N4.hi; have z4 := g4.size; have b1 := g4.blk b1; obtain ⟨b1_0, b1_1, b1_2⟩ := gcells b1; have gg := gg.trans g4; clear N4; obtain ⟨b4_0, b4_1, b4_2⟩ := gcells b4) | (refine r_store_row 72 72 _ _ _ rfl (gv g.w g.h g.c) _ rfl b4 (Tryd.gsize' _ _ _) (by simp only [gv_size]) (gv_one _ _ _) rfl ?_; intro w3 u3 b4'; have z3 := u3.size; have gg := u3.gr gg (by omega); have b1 := u3.blk b1 (by omega); obtain ⟨b1_0, b1_1, b1_2⟩ := gcells b1; clear b4; have b4 := b4'; clear b4'; obtain ⟨b4_0, b4_1, b4_2⟩ := gcells b4) | (refine r_load_row 72 _ _ rfl _ _ _ b4 Tryd.underlying72 rfl (Tryd.ginfo' _ _ _) rfl ?_) | (go_at_call 113; refine (HIS.out _).mono ?_; rintro e w6 ⟨rfl, g6⟩; have z6 := g6.size; have b1 := g6.blk b1; obtain ⟨b1_0, b1_1, b1_2⟩ := gcells b1; have b4 := g6.blk b4; obtain ⟨b4_0, b4_1, b4_2⟩ := gcells b4; have gg := gg.trans g6) | (refine r_build 72 [] [] _ (Tryd.gbuild0 _) rfl rfl ?_) | (refine r_store_row 72 72 _ _ _ rfl (gv _ _ _) _ rfl b1 (Tryd.gsize' _ _ _) (by simp only [gv_size]) (gv_one _ _ _) rfl ?_; intro w5 u5 b1'; have z5 := u5.size; have gg := u5.gr gg (by omega); have b4 := u5.blk b4 (by omega); obtain ⟨b4_0, b4_1, b4_2⟩ := gcells b4; clear b1; have b1 := b1'; clear b1'; obtain ⟨b1_0, b1_1, b1_2⟩ := gcells b1))
      refine bodyPost_ret (results_row_bool rfl _ _ _ _ _ _ rfl b1 Tryd.underlying72 rfl (Tryd.ginfo' _ _ _)) rfl ⟨?_, gg⟩
      exact fin2 (by rw [HF.out.2]; rfl) (by rw [HF.out.1])
    | true =>
      rw [hb] at HIS
      have HF := hidI (show fmOk s.data.toList = true ∧ fmG s.data.toList = g from by
        have e : fmOk s.data.toList = true := by unfold fmOk; rw [hg, hb, hk]; rfl
        exact ⟨e, by unfold fmG; rw [e, hg]; rfl⟩)
      clear hp hg hk ht hb
      go_enter Tryd.func77, Tryd.ntmps77
      go_wp2_with (first | (refine r_alloc (dst := some 2) 72 _ Tryd.gzero rfl ?_; intro w1 B1 N1; have g1 := N1.gr; have b1 : Blk w1 B1 (gv 0 0 []) 72 := N1.blk; have l1 := N1.lo; have t1 := N1.hi; have z1 := g1.size; have gg := gg.trans g1; clear N1; obtain ⟨b1_0, b1_1, b1_2⟩ := gcells b1) | (go_at_call 57; refine (readTray_any s _ (gg.ml hm) hs).mono ?_; rintro e w2 ⟨rfl, g2⟩; rw [HK.out, HG.out, gvG]; have z2 := g2.size; have b1 := g2.blk b1; obtain ⟨b1_0, b1_1, b1_2⟩ := gcells b1; have gg := gg.trans g2) | (refine r_alloc (dst := some 4) 72 _ Tryd.gzero rfl ?_; intro w4 B4 N4; have g4 := N4.gr; have b4 : Blk w4 B4 (gv 0 0 []) 72 := N4.blk; have l4 := N4.lo; have t4 := N4.hi; have z4 := g4.size; have b1 := g4.blk b1; obtain ⟨b1_0, b1_1, b1_2⟩ := gcells b1; have gg := gg.trans g4; clear N4; obtain ⟨b4_0, b4_1, b4_2⟩ := gcells b4) | (refine r_store_row 72 72 _ _ _ rfl (gv g.w g.h g.c) _ rfl b4 (Tryd.gsize' _ _ _) (by simp only [gv_size]) (gv_one _ _ _) rfl ?_; intro w3 u3 b4'; have z3 := u3.size; have gg := u3.gr gg (by omega); have b1 := u3.blk b1 (by omega); obtain ⟨b1_0, b1_1, b1_2⟩ := gcells b1; clear b4; have b4 := b4'; clear b4'; obtain ⟨b4_0, b4_1, b4_2⟩ := gcells b4) | (refine r_load_row 72 _ _ rfl _ _ _ b4 Tryd.underlying72 rfl (Tryd.ginfo' _ _ _) rfl ?_) | (go_at_call 113; refine (HIS.out _).mono ?_; rintro e w6 ⟨rfl, g6⟩; have z6 := g6.size; have b1 := g6.blk b1; obtain ⟨b1_0, b1_1, b1_2⟩ := gcells b1; have b4 := g6.blk b4; obtain ⟨b4_0, b4_1, b4_2⟩ := gcells b4; have gg := gg.trans g6) | (refine r_store_row 72 72 _ _ _ rfl (gv g.w g.h g.c) _ rfl b1 (Tryd.gsize' _ _ _) (by simp only [gv_size]) (gv_one _ _ _) rfl ?_; intro w5 u5 b1'; have z5 := u5.size; have gg := u5.gr gg (by omega); have b4 := u5.blk b4 (by omega); obtain ⟨b4_0, b4_1, b4_2⟩ := gcells b4; clear b1; have b1 := b1'; clear b1'; obtain ⟨b1_0, b1_1, b1_2⟩ := gcells b1))
      refine bodyPost_ret (results_row_bool rfl _ _ _ _ _ _ rfl b1 Tryd.underlying72 rfl (Tryd.ginfo' _ _ _)) rfl ⟨?_, gg⟩
      exact fin2 (by rw [HF.out.2]; rfl) (by rw [HF.out.1])
theorem fm_small (l : List UInt8) : Small (fmG l) := by
  rcases fm_cases l with ⟨_, h⟩ | ⟨g, _, _, _, _, h, F⟩
  · rw [h]; exact ⟨by decide, by decide, by decide, .inr rfl, rfl⟩
  · rw [h]; exact F.t.small
theorem fm_both (l : List UInt8) : (1 ≤ (fmG l).w ∧ 1 ≤ (fmG l).h) ∨ ((fmG l).w = 0 ∧ (fmG l).h = 0) := by
  rcases fm_cases l with ⟨_, h⟩ | ⟨g, _, _, _, _, h, F⟩
  · rw [h]; exact .inr ⟨rfl, rfl⟩
  · rw [h]; exact .inl ⟨F.t.w1, F.t.h1⟩
theorem cf_impl (l : List UInt8) : ballsTo ballB (fmG l).c (nn (fmG l).w (fmG l).h) = cfL l := by
  unfold cfL
  rcases fm_cases l with ⟨_, h⟩ | ⟨g, _, _, _, _, h, F⟩
  · rw [h]; rfl
  · rw [h]
    exact ballsTo_congr _ fun i hi => ball_cell (F.cells i (by rw [F.t.len]; exact hi))
theorem cfL_le (l : List UInt8) : (cfL l).length ≤ 36 := by
  have h := ballsTo_le isBallB (fmG l).c (nn (fmG l).w (fmG l).h)
  have := (fm_small l).n36
  unfold cfL; omega
end Go.Proofs.YtdebiobhmpoiiaaDoor
