/-
  A tray cropped to its open cells: in the model, and the law.
-/
import Derived.Test.YtoadoeahbekkoaaDoorCropB
namespace Go.Proofs.YtoadoeahbekkoaaDoor
open Go.RowKit
section
variable {P : Program} {w : World} {a : Act} {dst : Option Tmp} {ty : TypeId} {pos : String} {aft : Array Edge} {gd : Option (Nat × Bool)}
theorem e_quoC {T yt : TypeId} (x y : Operand) (m n : Nat) (hx : a.eval x = .int .i64 m) (hy : a.eval y = .int .i64 n) (hn : 0 < n) (hm : m ≤ 9223372036854775807) :
    (execOp a.eval ⟨dst, .binOp .quo T x y yt, ty, pos, aft, gd⟩).run P w = .ok (.value (.int .i64 (m / n : Nat))) w := by
  unfold execOp
  simp only [hx, hy, eqGuard_quo, Sem.run_bind, Sem.run_pure, Result.andThen_ok, run_quo T m n hn hm]
theorem e_remC {T yt : TypeId} (x y : Operand) (m n : Nat) (hx : a.eval x = .int .i64 m) (hy : a.eval y = .int .i64 n) (hn : 0 < n) :
    (execOp a.eval ⟨dst, .binOp .rem T x y yt, ty, pos, aft, gd⟩).run P w = .ok (.value (.int .i64 (m % n : Nat))) w := by
  unfold execOp
  simp only [hx, hy, eqGuard_rem, Sem.run_bind, Sem.run_pure, Result.andThen_ok, run_rem T m n hn]
theorem e_subC {T yt : TypeId} (x y : Operand) (m n r : Int) (hx : a.eval x = .int .i64 m) (hy : a.eval y = .int .i64 n) (hr : m - n = r) (h : -9223372036854775808 ≤ r ∧ r ≤ 9223372036854775807) :
    (execOp a.eval ⟨dst, .binOp .sub T x y yt, ty, pos, aft, gd⟩).run P w = .ok (.value (.int .i64 r)) w := by
  unfold execOp
  simp only [hx, hy, eqGuard_sub, Sem.run_bind, Sem.run_pure, Result.andThen_ok, run_sub T m n r hr h]
end
theorem e_cutC {P : Program} {w : World} {a : Act} {dst : Option Tmp} {ty T : TypeId} {pos : String} {aft : Array Edge} {gd : Option (Nat × Bool)} (x lo hi : Operand) (v l h r : Value) (hx : a.eval x = v) (hl : a.eval lo = l) (hh : a.eval hi = h) (hr : (Instr.sliceAt T v (some l) (some h) none).run P w = .ok r w) :
    (execOp a.eval ⟨dst, .slice T x (some lo) (some hi) none, ty, pos, aft, gd⟩).run P w = .ok (.value r) w := by
  unfold execOp
  simp only [Option.map_some, Option.map_none, hx, hl, hh, Sem.run_bind, hr, Result.andThen_ok, Sem.run_pure]
theorem mul_nnC (w y : Nat) : (y : Int) * (w : Int) = ((nn w y : Nat) : Int) := by unfold nn; rw [Int.natCast_mul, Int.mul_comm]
theorem own_apartC {w1 w2 : World} {b1 b2 : Nat} {e1 e2 : TypeId} {s1 s2 : Nat} {G n1 c1 : Nat} {v2 : Value} {n2 : Nat} {x1 x2 : List Value} (_h1 : w1.ownsRow b1 e1 s1 (.slice (some ⟨G, 0, none⟩) n1 c1) n1 x1) (h2 : w2.ownsRow b2 e2 s2 v2 n2 x2) (hb : G < b2) : (Value.slice (some ⟨G, 0, none⟩) n1 c1).ownBlock = none ∨ (Value.slice (some ⟨G, 0, none⟩) n1 c1).ownBlock ≠ v2.ownBlock :=
  .inr fun e => by
    have := (h2.lt G e.symm).1
    omega
theorem seg_news {w : World} {base : Nat} {e : TypeId} {G cap o m : Nat} {c : List UInt8} (hr : w.ownsRow base e 1 (.slice (some ⟨G, 0, none⟩) c.length cap) c.length (cellsV c)) (hle : o + m ≤ c.length) :
    ∀ (j : Nat) u, (cellsV (seg c o m))[j]? = some u → w.cell? ((⟨G, o, none⟩ : Addr).add j) = some u := by
  intro j u hj
  have hjl : j < m := by
    rcases Nat.lt_or_ge j m with h | h
    · exact h
    · rw [List.getElem?_eq_none (by simpa [cellsV, seg_length] using h)] at hj; cases hj
  have h1 := own_cell hr (o + j) (by omega) rfl
  unfold cellsV at hj
  rw [List.getElem?_map, seg_get c o m j hjl] at hj
  have e : byteV (at0 c (o + j)) = u := by simpa using hj
  subst e
  have e3 : (⟨G, o, none⟩ : Addr).add j = ⟨G, o + j, none⟩ := by simp [Addr.add]
  rw [e3]
  exact h1
theorem Tryd.tbuildC (x y : Int) (w : World) : (Instr.build 57 #[(0, .int .i64 x), (1, .int .i64 y)]).run Tryd.prog w = .ok (.agg (tg x y (.slice none 0 0))) w := by kernel_rfl
theorem l1LeastC (a b : Int) (w : World) : Calls Tryd.prog 61 #[.int .i64 a, .int .i64 b] w fun e w' => e = .returned (.int .i64 (min a b)) ∧ w = w' := by
  by_cases h : a < b
  · have HV := hidI (show min a b = a from by omega)
    go_enter Tryd.func61, Tryd.ntmps61
    go_wp2
    go_ret
    exact ⟨congrArg (fun x => Ending.returned (.int .i64 x)) HV.out.symm, rfl⟩
  · have HV := hidI (show min a b = b from by omega)
    have h' : b ≤ a := by omega
    clear h
    go_enter Tryd.func61, Tryd.ntmps61
    go_wp2
    go_ret
    exact ⟨congrArg (fun x => Ending.returned (.int .i64 x)) HV.out.symm, rfl⟩
theorem l1MostC (a b : Int) (w : World) : Calls Tryd.prog 62 #[.int .i64 a, .int .i64 b] w fun e w' => e = .returned (.int .i64 (max a b)) ∧ w = w' := by
  by_cases h : b < a
  · have HV := hidI (show max a b = a from by omega)
    go_enter Tryd.func62, Tryd.ntmps62
    go_wp2
    go_ret
    exact ⟨congrArg (fun x => Ending.returned (.int .i64 x)) HV.out.symm, rfl⟩
  · have HV := hidI (show max a b = b from by omega)
    have h' : a ≤ b := by omega
    clear h
    go_enter Tryd.func62, Tryd.ntmps62
    go_wp2
    go_ret
    exact ⟨congrArg (fun x => Ending.returned (.int .i64 x)) HV.out.symm, rfl⟩
set_option maxHeartbeats 4000000 in
set_option maxRecDepth 100000 in
theorem sCropTray (s : ByteArray) (w : World) (hs : s.size ≤ 1048576) : Calls Tryd.prog 20 #[.string s] w (Ret (.tuple #[.string (coS s.data.toList), .bool (coOk s.data.toList)]) w) := by
  have gg := Gr.refl w
  go_enter Tryd.func20, Tryd.ntmps20
  go_wp2_with fail
  refine (tyRead_any s _ hs).mono ?_
  rintro e w1 ⟨g1, ⟨hp, rfl⟩ | ⟨g, sl, hp, rfl, hown⟩⟩
  · have HO := hidI (show coOk s.data.toList = false from by unfold coOk; rw [(rd_parse_none hp).2]; rfl)
    have HV := hidI (co_no HO.out)
    have z1 := g1.size
    have gg := gg.trans g1
    clear hp
    go_wp2_with (first | (refine r_alloc 57 _ Tryd.tzero rfl ?_; intro w2 B2 N2; have g2 := N2.gr; have b2 : Blk w2 B2 (tg 0 0 (.slice none 0 0)) 57 := N2.blk; have l2 := N2.lo; have t2 := N2.hi; have z2 := g2.size; have gg := gg.trans g2; clear N2; obtain ⟨b2_0, b2_1, b2_2⟩ := tcells b2) | (refine r_store_row 57 57 _ _ _ rfl (tg _ _ _) _ rfl b2 Tryd.tsize rfl (tg_one rfl) rfl ?_; intro w3 u3 b2'; have z3 := u3.size; have gg := u3.gr gg (by omega); clear b2; have b2 := b2'; clear b2'; obtain ⟨b2_0, b2_1, b2_2⟩ := tcells b2))
    go_ret2
    exact ⟨fin_sb HV.out.symm HO.out.symm, gg⟩
  · obtain ⟨hg, hk⟩ := rd_parse_some hp
    have ht := parse_tray hp
    have z1 := g1.size
    have gg := gg.trans g1
    have hone := own_one hown
    have hw1 := ht.w1
    have hw7 := ht.w7
    have hh1 := ht.h1
    have hh7 := ht.h7
    have n36 := ht.n36
    have hlen := ht.len
    have hl1 : 0 < g.c.length := by rw [hlen]; exact Nat.mul_pos hw1 hh1
    have HCO := hidI (show coOk s.data.toList = decide (cnt g.c 35 (nn g.w g.h) < nn g.w g.h) from by unfold coOk; rw [hk, hg]; rfl)
    have HCS := hidI (show coOk s.data.toList = true → coS s.data.toList = coG g from fun h => by unfold coS; rw [h, hg]; rfl)
    have hfin := cr_facts (W := g.w) (H := g.h) (c := g.c) hw1 (nn g.w g.h) (Nat.le_refl _)
    have HF := hidI (fun k (hk : k ≤ nn g.w g.h) => cr_facts (W := g.w) (H := g.h) (c := g.c) hw1 k hk)
    obtain ⟨N, hN⟩ : ∃ N, N = g.c.length := ⟨_, rfl⟩
    have HNN := hidI (show nn g.w g.h = N from by rw [hN, hlen])
    rw [HNN.out] at hfin n36
    have HNL := hidI hN
    obtain ⟨G, cap, rfl, -, hcap⟩ := own_shape hown hl1
    have hNcap : N ≤ cap := by omega
    have tG := (hown.lt G rfl).2
    have HOWN := hidI hown
    clear hp hg hk ht hlen hl1 hcap hown
    rw [← HNL.out] at HOWN ⊢
    have hown := HOWN.out
    clear hN
    go_wp2_with (first | (refine r_alloc 57 _ Tryd.tzero rfl ?_; intro w2 B2 N2; have g2 := N2.gr; have b2 : Blk w2 B2 (tg 0 0 (.slice none 0 0)) 57 := N2.blk; have l2 := N2.lo; have t2 := N2.hi; have z2 := g2.size; have gg := gg.trans g2; clear N2; obtain ⟨b2_0, b2_1, b2_2⟩ := tcells b2) | (refine r_store_row 57 57 _ _ _ rfl (tg _ _ _) _ rfl b2 Tryd.tsize rfl (tg_one hone) rfl ?_; intro w3 u3 b2'; have z3 := u3.size; have gg := u3.gr gg (by omega); clear b2; have b2 := b2'; clear b2'; obtain ⟨b2_0, b2_1, b2_2⟩ := tcells b2))
    have hown := u3.row (g2.row hown) (own_new hown l2)
    refine q_whole (by kernel_rfl) (by kernel_rfl) ?_
    refine q_take (.pointer (some ⟨B2, 0, none⟩)) rfl (fun w' hw' => e_val _ _ (Tryd.tf0 B2 _)) ?_; simp only [Act.put, List.setIfInBounds_toArray, List.set_cons_succ, List.set_cons_zero]
    refine q_take (.int .i64 g.w) rfl (fun w' hw' => e_load 3 (.tmp 21) ⟨B2, 0, none⟩ _ rfl (Tryd.isAgg3 _) (hw'.cell b2_0)) ?_; simp only [Act.put, List.setIfInBounds_toArray, List.set_cons_succ, List.set_cons_zero]
    refine q_take (.pointer (some ⟨B2, 1, none⟩)) rfl (fun w' hw' => e_val _ _ (Tryd.tf1 B2 _)) ?_; simp only [Act.put, List.setIfInBounds_toArray, List.set_cons_succ, List.set_cons_zero]
    refine q_take (.int .i64 g.h) rfl (fun w' hw' => e_load 3 (.tmp 23) ⟨B2, 1, none⟩ _ rfl (Tryd.isAgg3 _) (hw'.cell b2_1)) ?_; simp only [Act.put, List.setIfInBounds_toArray, List.set_cons_succ, List.set_cons_zero]
    refine q_assign _ (.int .i64 g.w) rfl rfl ?_; simp only [Act.put, List.setIfInBounds_toArray, List.set_cons_succ, List.set_cons_zero]
    refine q_assign _ (.int .i64 (-1)) rfl rfl ?_; simp only [Act.put, List.setIfInBounds_toArray, List.set_cons_succ, List.set_cons_zero]
    refine q_assign _ (.int .i64 g.h) rfl rfl ?_; simp only [Act.put, List.setIfInBounds_toArray, List.set_cons_succ, List.set_cons_zero]
    refine q_assign _ (.int .i64 (-1)) rfl rfl ?_; simp only [Act.put, List.setIfInBounds_toArray, List.set_cons_succ, List.set_cons_zero]
    refine wpQuiet_nil ?_
    intro w4 g4
    have b2 := g4.blk b2
    have hown := g4.row hown
    have gg := gg.trans g4
    have z4 := g4.size
    obtain ⟨b2_0, b2_1, b2_2⟩ := tcells b2
    go_wp2
    go_loopw [6, 7, 8, 9, 28] (fun lv rv tv bv iv wr => ∃ k : Nat, k ≤ N ∧ iv = .int .i64 k ∧ lv = .int .i64 (crL g.w g.c k : Nat) ∧ rv = .int .i64 ((crR g.w g.c k : Nat) - 1) ∧ tv = .int .i64 (crT g.w g.h g.c k : Nat) ∧ bv = .int .i64 ((crB g.w g.c k : Nat) - 1) ∧ Gr w4 wr) (fun _ _ _ _ iv _ => N - (intOf iv).toNat)
    case atStart => exact ⟨0, Nat.zero_le _, rfl, rfl, rfl, rfl, rfl, Gr.refl w4⟩
    case round =>
      obtain ⟨k, hk, rfl, rfl, rfl, rfl, rfl, gr⟩ := hrel
      have b2 := gr.blk b2
      have hown := gr.row hown
      have gg := gg.trans gr
      obtain ⟨b2_0, b2_1, b2_2⟩ := tcells b2
      by_cases hlt : k < N
      · have hc := own_cell hown k (by rw [← HNL.out]; exact hlt) HNL.out
        have hix := Tryd.six0 G N cap k hlt
        have hfk := HF.out k (by rw [HNN.out]; omega)
        by_cases h35 : at0 g.c k = 35
        · have e1 : (((at0 g.c k).toNat : Int) != 35) = false := by rw [h35]; rfl
          have HS := hidI (show crL g.w g.c (k + 1) = crL g.w g.c k ∧ crR g.w g.c (k + 1) = crR g.w g.c k ∧ crT g.w g.h g.c (k + 1) = crT g.w g.h g.c k ∧ crB g.w g.c (k + 1) = crB g.w g.c k from ⟨by rw [crL, if_pos h35], by rw [crR, if_pos h35], by rw [crT, if_pos h35], by rw [crB, if_pos h35]⟩)
          clear h35 hfk
          go_wp2
          go_roundw
          case rel => exact ⟨k + 1, by omega, by go_num, by rw [HS.out.1], by rw [HS.out.2.1], by rw [HS.out.2.2.1], by rw [HS.out.2.2.2], gr⟩
          case measure => simp [intOf]; omega
        · have e1 : (((at0 g.c k).toNat : Int) != 35) = true := by
            rw [bne_iff_ne]; intro e; exact h35 (UInt8.toNat_inj.1 (by simp; omega))
          obtain ⟨x, hx⟩ : ∃ x, x = k % g.w := ⟨_, rfl⟩
          obtain ⟨y, hy⟩ : ∃ y, y = k / g.w := ⟨_, rfl⟩
          have HS := hidI (show crL g.w g.c (k + 1) = min (crL g.w g.c k) x ∧ crR g.w g.c (k + 1) = max (crR g.w g.c k) (x + 1) ∧ crT g.w g.h g.c (k + 1) = min (crT g.w g.h g.c k) y ∧ crB g.w g.c (k + 1) = max (crB g.w g.c k) (y + 1) from ⟨by rw [crL, if_neg h35, hx], by rw [crR, if_neg h35, hx], by rw [crT, if_neg h35, hy], by rw [crB, if_neg h35, hy]⟩)
          have HXV := hidI (show Value.int .i64 ((k % g.w : Nat) : Int) = .int .i64 (x : Int) from by rw [hx])
          have HYV := hidI (show Value.int .i64 ((k / g.w : Nat) : Int) = .int .i64 (y : Int) from by rw [hy])
          have HREM := hidI (fun (P : Program) (w : World) (a : Act) dst ty T yt pos aft gd (p q : Operand) (h1 : a.eval p = .int .i64 k) (h2 : a.eval q = .int .i64 g.w) => (show (execOp a.eval ⟨dst, .binOp .rem T p q yt, ty, pos, aft, gd⟩).run P w = .ok (.value (.int .i64 (x : Int))) w from by rw [← HXV.out]; exact e_remC p q k g.w h1 h2 hw1))
          have HQUO := hidI (fun (P : Program) (w : World) (a : Act) dst ty T yt pos aft gd (p q : Operand) (h1 : a.eval p = .int .i64 k) (h2 : a.eval q = .int .i64 g.w) => (show (execOp a.eval ⟨dst, .binOp .quo T p q yt, ty, pos, aft, gd⟩).run P w = .ok (.value (.int .i64 (y : Int))) w from by rw [← HYV.out]; exact e_quoC p q k g.w h1 h2 hw1 (by omega)))
          clear h35 hx hy hfk
          go_wp2_with (first | (refine r_val (.int .i64 (x : Int)) (HREM.out _ _ _ _ _ _ _ _ _ _ _ _ rfl rfl) rfl ?_) | (refine r_val (.int .i64 (y : Int)) (HQUO.out _ _ _ _ _ _ _ _ _ _ _ _ rfl rfl) rfl ?_) | (go_at_call 61; refine (l1LeastC _ _ _).mono ?_; rintro e wS ⟨rfl, rfl⟩) | (go_at_call 62; refine (l1MostC _ _ _).mono ?_; rintro e wS ⟨rfl, rfl⟩))
          go_roundw
          case rel => exact ⟨k + 1, by omega, by go_num, by (rw [HS.out.1]; exact congrArg _ (by omega)), by (rw [HS.out.2.1]; exact congrArg _ (by omega)), by (rw [HS.out.2.2.1]; exact congrArg _ (by omega)), by (rw [HS.out.2.2.2]; exact congrArg _ (by omega)), gr⟩
          case measure => simp [intOf]; omega
      · obtain rfl : k = N := by omega
        clear hlt
        rcases hfin with ⟨f1, f2, -, -, -⟩ | ⟨f1, f2, f3, f4, f5⟩
        · have HO := hidI (show coOk s.data.toList = false from by rw [HCO.out, HNN.out]; exact decide_eq_false (by omega))
          have HV := hidI (co_no HO.out)
          rw [f2]
          clear f1 f2
          go_wp2
          go_ret2
          exact ⟨fin_sb HV.out.symm HO.out.symm, gg⟩
        · have HO := hidI (show coOk s.data.toList = true from by rw [HCO.out, HNN.out]; exact decide_eq_true (by omega))
          have HV := hidI (HCS.out HO.out)
          have HCG := hidI (show coG g = txtB (crR g.w g.c k - crL g.w g.c k) (crB g.w g.c k - crT g.w g.h g.c k) (crC g.w g.c (crL g.w g.c k) (crR g.w g.c k - crL g.w g.c k) (crT g.w g.h g.c k) (crB g.w g.c k - crT g.w g.h g.c k)) from by rw [← HNN.out]; rfl)
          generalize crL g.w g.c k = l at *
          generalize crR g.w g.c k = r at *
          generalize crT g.w g.h g.c k = t at *
          generalize crB g.w g.c k = b at *
          obtain ⟨v, hv⟩ : ∃ v, v = r - l := ⟨_, rfl⟩
          obtain ⟨m, hm⟩ : ∃ m, m = b - t := ⟨_, rfl⟩
          have hlr : l + v = r := by omega
          have htb : t + m = b := by omega
          rw [← hv, ← hm] at HCG
          have hr1 : ¬ (r : Int) - 1 < 0 := by omega
          have hv7 : v ≤ 7 := by omega
          have hm7 : m ≤ 7 := by omega
          have hv1 : 1 ≤ v := by omega
          have hm1 : 1 ≤ m := by omega
          have HLR := hidI hlr
          have HTB := hidI htb
          have hlr' : l ≤ r := by omega
          have htb' : t ≤ b := by omega
          clear f1 hv hm hlr htb
          have HWV := hidI (show (r : Int) - 1 - (l : Int) + 1 = (v : Int) from by have := HLR.out; omega)
          have HHV := hidI (show (b : Int) - 1 - (t : Int) + 1 = (m : Int) from by have := HTB.out; omega)
          have zr := gr.size
          have tB2r := b2.lt
          have hI1 : (l : Int) + 1 ≤ (r : Int) := by have := HLR.out; omega
          have hI2 : (t : Int) + 1 ≤ (b : Int) := by have := HTB.out; omega
          have hI3 : (r : Int) ≤ 7 := by omega
          have hI4 : (b : Int) ≤ 7 := by omega
          go_wp2_with (first | (refine r_build 57 [(0, .tmp 65), (1, .tmp 69)] [(0, .int .i64 ((r : Int) - 1 - (l : Int) + 1)), (1, .int .i64 ((b : Int) - 1 - (t : Int) + 1))] _ (Tryd.tbuildC _ _ _) rfl rfl ?_; rw [HWV.out, HHV.out]) | (refine r_alloc (dst := some 12) 57 _ Tryd.tzero rfl ?_; intro w7 B7 N7; have g7 := N7.gr; have b7 : Blk w7 B7 (tg 0 0 (.slice none 0 0)) 57 := N7.blk; have l7 := N7.lo; have t7 := N7.hi; have z7 := g7.size; have b2 := g7.blk b2; obtain ⟨b2_0, b2_1, b2_2⟩ := tcells b2; have gg := gg.trans g7; clear N7; obtain ⟨b7_0, b7_1, b7_2⟩ := tcells b7) | (refine r_store_row 57 57 _ _ _ rfl (tg _ _ _) _ rfl b7 Tryd.tsize rfl (tg_one rfl) rfl ?_; intro w8 u8 b7'; have z8 := u8.size; have gg := u8.gr gg (by omega); have b2 := u8.blk b2 (by omega); obtain ⟨b2_0, b2_1, b2_2⟩ := tcells b2; clear b7; have b7 := b7'; clear b7'; obtain ⟨b7_0, b7_1, b7_2⟩ := tcells b7))
          have hown := u8.row (g7.row hown) (own_new hown l7)
          obtain ⟨baseO, hbase⟩ : ∃ b, b = w8.heap.size := ⟨_, rfl⟩
          have tB2 : B2 < baseO := by have := b2.lt; omega
          have tB7 : B7 < baseO := by have := HLR.out; have := HTB.out; omega
          have tGO : G < baseO := by have := (hown.lt G rfl).2; omega
          have hbO : w.heap.size ≤ baseO := by have := HLR.out; have := HTB.out; omega
          have loB7 : w.heap.size ≤ B7 := by have := HLR.out; have := HTB.out; omega
          have n27 : B2 ≠ B7 := by have := g7.size; intro e; rw [e] at b2; have := l7; omega
          have own0 : w8.ownsRow baseO 5 1 (.slice none 0 0) (crC g.w g.c l v t (t - t)).length (cellsV (crC g.w g.c l v t (t - t))) := by rw [Nat.sub_self]; exact World.ownsRow_nil _ _ _ _
          have zb : baseO ≤ w8.heap.size := by have := HLR.out; have := HTB.out; omega
          clear hbase
          go_loopw [13] (fun iv wr => ∃ (y : Nat) (sl : Value), t ≤ y ∧ y ≤ b ∧ iv = .int .i64 y ∧ Blk wr B2 (tg g.w g.h (.slice (some ⟨G, 0, none⟩) k cap)) 57 ∧ Blk wr B7 (tg v m sl) 57 ∧
              wr.ownsRow w.heap.size 5 1 (.slice (some ⟨G, 0, none⟩) k cap) k (cellsV g.c) ∧ wr.ownsRow baseO 5 1 sl (crC g.w g.c l v t (y - t)).length (cellsV (crC g.w g.c l v t (y - t))) ∧ Gr w wr ∧ baseO ≤ wr.heap.size) (fun iv _ => b - (intOf iv).toNat)
          case atStart => exact ⟨t, _, Nat.le_refl _, by have := HLR.out; have := HTB.out; omega, rfl, b2, b7, hown, own0, gg, zb⟩
          case round =>
            obtain ⟨y, sl7, hty, hyb, rfl, b2, b7, hown, own, gg, zb⟩ := hrel
            have hcl := crC_length g.w g.c l v t (y - t)
            have hcl49 := nn_le (x := v) (y := y - t) (a := 7) (b := 7) hv7 (by have := HLR.out; have := HTB.out; omega)
            by_cases hly : y < b
            · have hle : (y : Int) ≤ (b : Int) - 1 := by have := HLR.out; have := HTB.out; omega
              have hrow := nn_row (W := g.w) (show y < g.h by have := HLR.out; have := HTB.out; omega)
              have hnk := HNN.out
              have hs1 : nn g.w (y + 1) = nn g.w y + g.w := Nat.mul_succ _ _
              have hnk2 : nn g.w y + g.w ≤ k := by have := HLR.out; have := HTB.out; omega
              have HCS1 := hidI (show crC g.w g.c l v t (y + 1 - t) = crC g.w g.c l v t (y - t) ++ seg g.c (nn g.w y + l) v from by
                rw [show y + 1 - t = (y - t) + 1 by have := HLR.out; have := HTB.out; omega, crC_succ, show t + (y - t) = y by have := HLR.out; have := HTB.out; omega])
              clear hnk
              go_wp2
              have gdr := (Gr.refl wr).drew
              have b2 := gdr.blk b2
              have b7 := gdr.blk b7
              have hown := gdr.row hown
              have own := gdr.row own
              have gg := gg.trans gdr
              have zdr := gdr.size
              obtain ⟨p7, n7, q7, rfl⟩ := own_slice own
              obtain ⟨b7_0, b7_1, b7_2⟩ := tcells b7
              obtain ⟨b2_0, b2_1, b2_2⟩ := tcells b2
              refine F_begin (fun w => w.cell? ⟨B7, 2, none⟩ = some (.slice p7 n7 q7) ∧ w.cell? ⟨B2, 2, none⟩ = some (.slice (some ⟨G, 0, none⟩) k cap) ∧ w.cell? ⟨B2, 0, none⟩ = some (.int .i64 g.w)) 20 21 #[false, false, false, false, false, false, false, false, false, false, false, false, false, false, false, false, false, false, false, false, false] rfl (by kernel_rfl) (by kernel_rfl) ?_
              generalize wr.drew = wd at *
              have hFF := And.intro b7_2 (And.intro b2_2 b2_0)
              refine F_free (v := .pointer (some ⟨B7, 2, none⟩)) 0 #[true, false, false, false, false, false, false, false, false, false, false, false, false, false, false, false, false, false, false, false, false] rfl (by kernel_rfl) (fun _ _ _ h => h) rfl (fun _ => e_val _ _ (Tryd.tf2 B7 _)) (hFF) ?_; simp only [Act.put, List.setIfInBounds_toArray, List.set_cons_succ, List.set_cons_zero]
              refine F_take (v := .slice p7 n7 q7) 1 #[true, true, false, false, false, false, false, false, false, false, false, false, false, false, false, false, false, false, false, false, false] rfl (by kernel_rfl) (fun _ _ _ h => h) rfl (fun w hF => e_load 55 (.tmp 77) ⟨B7, 2, none⟩ (.slice p7 n7 q7) rfl (Tryd.isAgg55 _) hF.1) (hFF) ?_; simp only [Act.put, List.setIfInBounds_toArray, List.set_cons_succ, List.set_cons_zero]
              refine F_free (v := .pointer (some ⟨B2, 2, none⟩)) 2 #[true, true, true, false, false, false, false, false, false, false, false, false, false, false, false, false, false, false, false, false, false] rfl (by kernel_rfl) (fun _ _ _ h => h) rfl (fun _ => e_val _ _ (Tryd.tf2 B2 _)) (hFF) ?_; simp only [Act.put, List.setIfInBounds_toArray, List.set_cons_succ, List.set_cons_zero]
              refine F_take (v := .slice (some ⟨G, 0, none⟩) k cap) 3 #[true, true, true, true, false, false, false, false, false, false, false, false, false, false, false, false, false, false, false, false, false] rfl (by kernel_rfl) (fun _ _ _ h => h) rfl (fun w hF => e_load 55 (.tmp 79) ⟨B2, 2, none⟩ (.slice (some ⟨G, 0, none⟩) k cap) rfl (Tryd.isAgg55 _) hF.2.1) (hFF) ?_; simp only [Act.put, List.setIfInBounds_toArray, List.set_cons_succ, List.set_cons_zero]
              refine F_free (v := .int .i64 y) 4 #[true, true, true, true, true, false, false, false, false, false, false, false, false, false, false, false, false, false, false, false, false] rfl (by kernel_rfl) (fun _ _ _ h => h) rfl (fun _ => rfl) (hFF) ?_; simp only [Act.put, List.setIfInBounds_toArray, List.set_cons_succ, List.set_cons_zero]
              refine F_free (v := .pointer (some ⟨B2, 0, none⟩)) 5 #[true, true, true, true, true, true, false, false, false, false, false, false, false, false, false, false, false, false, false, false, false] rfl (by kernel_rfl) (fun _ _ _ h => h) rfl (fun _ => e_val _ _ (Tryd.tf0 B2 _)) (hFF) ?_; simp only [Act.put, List.setIfInBounds_toArray, List.set_cons_succ, List.set_cons_zero]
              refine F_take (v := .int .i64 g.w) 6 #[true, true, true, true, true, true, true, false, false, false, false, false, false, false, false, false, false, false, false, false, false] rfl (by kernel_rfl) (fun _ _ _ h => h) rfl (fun w hF => e_load 3 (.tmp 82) ⟨B2, 0, none⟩ (.int .i64 g.w) rfl (Tryd.isAgg3 _) hF.2.2) (hFF) ?_; simp only [Act.put, List.setIfInBounds_toArray, List.set_cons_succ, List.set_cons_zero]
              refine F_free (v := .int .i64 (nn g.w y : Nat)) 7 #[true, true, true, true, true, true, true, true, false, false, false, false, false, false, false, false, false, false, false, false, false] rfl (by kernel_rfl) (fun _ _ _ h => h) rfl (fun _ => e_mul _ _ (y : Int) (g.w : Int) ((nn g.w y : Nat) : Int) rfl rfl (mul_nnC _ _) (by have := HLR.out; have := HTB.out; omega)) (hFF) ?_; simp only [Act.put, List.setIfInBounds_toArray, List.set_cons_succ, List.set_cons_zero]
              refine F_free (v := .int .i64 l) 8 #[true, true, true, true, true, true, true, true, true, false, false, false, false, false, false, false, false, false, false, false, false] rfl (by kernel_rfl) (fun _ _ _ h => h) rfl (fun _ => rfl) (hFF) ?_; simp only [Act.put, List.setIfInBounds_toArray, List.set_cons_succ, List.set_cons_zero]
              refine F_free (v := .int .i64 ((nn g.w y + l : Nat) : Int)) 9 #[true, true, true, true, true, true, true, true, true, true, false, false, false, false, false, false, false, false, false, false, false] rfl (by kernel_rfl) (fun _ _ _ h => h) rfl (fun _ => e_add _ _ ((nn g.w y : Nat) : Int) (l : Int) ((nn g.w y + l : Nat) : Int) rfl rfl (by have := HLR.out; have := HTB.out; omega) (by have := HLR.out; have := HTB.out; omega)) (hFF) ?_; simp only [Act.put, List.setIfInBounds_toArray, List.set_cons_succ, List.set_cons_zero]
              refine F_free (v := .int .i64 y) 10 #[true, true, true, true, true, true, true, true, true, true, true, false, false, false, false, false, false, false, false, false, false] rfl (by kernel_rfl) (fun _ _ _ h => h) rfl (fun _ => rfl) (hFF) ?_; simp only [Act.put, List.setIfInBounds_toArray, List.set_cons_succ, List.set_cons_zero]
              refine F_free (v := .pointer (some ⟨B2, 0, none⟩)) 11 #[true, true, true, true, true, true, true, true, true, true, true, true, false, false, false, false, false, false, false, false, false] rfl (by kernel_rfl) (fun _ _ _ h => h) rfl (fun _ => e_val _ _ (Tryd.tf0 B2 _)) (hFF) ?_; simp only [Act.put, List.setIfInBounds_toArray, List.set_cons_succ, List.set_cons_zero]
              refine F_take (v := .int .i64 g.w) 12 #[true, true, true, true, true, true, true, true, true, true, true, true, true, false, false, false, false, false, false, false, false] rfl (by kernel_rfl) (fun _ _ _ h => h) rfl (fun w hF => e_load 3 (.tmp 88) ⟨B2, 0, none⟩ (.int .i64 g.w) rfl (Tryd.isAgg3 _) hF.2.2) (hFF) ?_; simp only [Act.put, List.setIfInBounds_toArray, List.set_cons_succ, List.set_cons_zero]
              refine F_free (v := .int .i64 (nn g.w y : Nat)) 13 #[true, true, true, true, true, true, true, true, true, true, true, true, true, true, false, false, false, false, false, false, false] rfl (by kernel_rfl) (fun _ _ _ h => h) rfl (fun _ => e_mul _ _ (y : Int) (g.w : Int) ((nn g.w y : Nat) : Int) rfl rfl (mul_nnC _ _) (by have := HLR.out; have := HTB.out; omega)) (hFF) ?_; simp only [Act.put, List.setIfInBounds_toArray, List.set_cons_succ, List.set_cons_zero]
              refine F_free (v := .int .i64 ((r : Int) - 1)) 14 #[true, true, true, true, true, true, true, true, true, true, true, true, true, true, true, false, false, false, false, false, false] rfl (by kernel_rfl) (fun _ _ _ h => h) rfl (fun _ => rfl) (hFF) ?_; simp only [Act.put, List.setIfInBounds_toArray, List.set_cons_succ, List.set_cons_zero]
              refine F_free (v := .int .i64 (((nn g.w y : Nat) : Int) + ((r : Int) - 1))) 15 #[true, true, true, true, true, true, true, true, true, true, true, true, true, true, true, true, false, false, false, false, false] rfl (by kernel_rfl) (fun _ _ _ h => h) rfl (fun _ => e_add _ _ ((nn g.w y : Nat) : Int) ((r : Int) - 1) _ rfl rfl rfl (by have := HLR.out; have := HTB.out; omega)) (hFF) ?_; simp only [Act.put, List.setIfInBounds_toArray, List.set_cons_succ, List.set_cons_zero]
              refine F_free (v := .int .i64 ((nn g.w y + r : Nat) : Int)) 16 #[true, true, true, true, true, true, true, true, true, true, true, true, true, true, true, true, true, false, false, false, false] rfl (by kernel_rfl) (fun _ _ _ h => h) rfl (fun _ => e_add _ _ (((nn g.w y : Nat) : Int) + ((r : Int) - 1)) 1 ((nn g.w y + r : Nat) : Int) rfl rfl (by have := HLR.out; have := HTB.out; omega) (by have := HLR.out; have := HTB.out; omega)) (hFF) ?_; simp only [Act.put, List.setIfInBounds_toArray, List.set_cons_succ, List.set_cons_zero]
              refine F_free (v := .slice (some ⟨G, nn g.w y + l, none⟩) v (cap - (nn g.w y + l))) 17 #[true, true, true, true, true, true, true, true, true, true, true, true, true, true, true, true, true, true, false, false, false] rfl (by kernel_rfl) (fun _ _ _ h => h) rfl (fun _ => e_cutC _ _ _ _ _ _ _ rfl rfl rfl (Tryd.slw G k cap (nn g.w y + l) (nn g.w y + r) v (by have := HLR.out; have := HTB.out; omega) (by have := HLR.out; have := HTB.out; omega) (by have := HLR.out; have := HTB.out; omega) _)) (hFF) ?_; simp only [Act.put, List.setIfInBounds_toArray, List.set_cons_succ, List.set_cons_zero]
              refine F_one 18 #[true, true, true, true, true, true, true, true, true, true, true, true, true, true, true, true, true, true, true, false, false] rfl (by kernel_rfl) ?_
              refine r_append (.tmp 78) (.tmp 94) 55 5 _ 1 1 baseO Tryd.bytesI (.slice p7 n7 q7) (crC g.w g.c l v t (y - t)).length (cellsV (crC g.w g.c l v t (y - t))) rfl own ⟨G, nn g.w y + l, none⟩ v (cap - (nn g.w y + l)) (cellsV (seg g.c (nn g.w y + l) v)) rfl (by simp [cellsV, seg_length]) (seg_news (by rw [← HNL.out]; exact hown) (by rw [← HNL.out]; have := HLR.out; omega)) (cellsV_one _) (by have := HLR.out; have := HTB.out; omega) (by decide) (by have := HLR.out; have := HTB.out; omega) rfl ?_
              intro s8 w8a own8 g8
              simp only [Act.put, List.setIfInBounds_toArray, List.set_cons_succ, List.set_cons_zero]
              have e8 : (crC g.w g.c l v t (y - t)).length + v = (crC g.w g.c l v t (y - t) ++ seg g.c (nn g.w y + l) v).length := by simp only [List.length_append, seg_length]
              rw [cellsV_append, e8, ← HCS1.out] at own8
              have b2 := g8.blk b2 (own_below own tB2)
              have b7 := g8.blk b7 (own_below own tB7)
              have hown := g8.row hown (own_apartC hown own tGO)
              have gg := g8.gr gg (own_gr own hbO)
              have z8 := g8.size
              obtain ⟨p8, n8, q8, rfl⟩ := own_slice own8
              obtain ⟨b7_0, b7_1, b7_2⟩ := tcells b7
              obtain ⟨b2_0, b2_1, b2_2⟩ := tcells b2
              refine ⟨fun _ => ⟨b7_2, b2_2, b2_0⟩, ?_⟩
              refine F_one 19 #[true, true, true, true, true, true, true, true, true, true, true, true, true, true, true, true, true, true, true, true, false] rfl (by kernel_rfl) ?_
              refine r_val (.pointer (some ⟨B7, 2, none⟩)) (e_val _ _ (Tryd.tf2 B7 _)) rfl ?_
              simp only [Act.put, List.setIfInBounds_toArray, List.set_cons_succ, List.set_cons_zero]
              refine ⟨fun _ => ⟨b7_2, b2_2, b2_0⟩, ?_⟩
              refine F_one 20 #[true, true, true, true, true, true, true, true, true, true, true, true, true, true, true, true, true, true, true, true, true] rfl (by kernel_rfl) ?_
              refine r_store_cell 55 57 _ _ B7 2 rfl (.slice p8 n8 q8) rfl _ b7 (by show 2 < 3; decide) Tryd.sizeOf55 rfl rfl ?_
              intro w9 u9 b9
              have b7p := b7
              have b7 : Blk w9 B7 (tg v m (.slice p8 n8 q8)) 57 := b9
              clear b9
              refine ⟨fun h => (by cases h), ?_⟩
              simp only [Act.put]
              refine F_done (by kernel_rfl) ?_
              have b2 := u9.blk b2 n27
              have hown := u9.row hown (own_ne hown b7p (by decide))
              have own := u9.row own8 (own_ne own8 b7p (by decide))
              have gg := u9.gr gg loB7
              have z9 := u9.size
              go_wp2
              go_roundw
              case rel => exact ⟨y + 1, _, by have := HLR.out; have := HTB.out; omega, by have := HLR.out; have := HTB.out; omega, by go_num, b2, b7, hown, own, gg, by have := HLR.out; have := HTB.out; omega⟩
              case measure => simp [intOf]; omega
            · obtain rfl : b = y := by have := HLR.out; have := HTB.out; omega
              have hle : ¬ (b : Int) ≤ (b : Int) - 1 := by have := HLR.out; have := HTB.out; omega
              have hbt : b - t = m := by have := HLR.out; have := HTB.out; omega
              rw [hbt] at own hcl hcl49
              clear hly
              have hh1 : v ≤ 14 := by omega
              have hh2 : m ≤ 14 := by omega
              have hh3 : nn v m ≤ 196 := by omega
              have HTX := hidI (tyText_any v m baseO (crC g.w g.c l v t m) sl7 _ hv1 hm1 hh1 hh2 hh3 hcl own)
              go_wp2_with (first | (refine r_load_row 57 _ _ rfl _ _ _ b7 Tryd.underlying57 rfl Tryd.tinfo rfl ?_) | (go_at_call 50; refine HTX.out.mono ?_; rintro e w9 ⟨rfl, g9⟩; have gg := gg.trans g9))
              go_ret2
              exact ⟨fin_sb (by rw [HV.out, HCG.out]) HO.out.symm, gg⟩
set_option maxHeartbeats 1000000 in
theorem lawCropTray (s : ByteArray) (w : World) (hm : ML w) : Calls Tryd.prog 7 #[.string s] w (Ret (.bool true) w) := by
  have gg := Gr.refl w
  by_cases hs : 1048576 < s.size
  · go_enter Tryd.func7, Tryd.ntmps7
    go_wp2
    go_ret
    exact ⟨rfl, gg⟩
  · have hs' : s.size ≤ 1048576 := by omega
    clear hs
    go_enter Tryd.func7, Tryd.ntmps7
    go_wp2_with (first | (go_at_call 20; refine (sCropTray s _ hs').mono ?_; rintro e w1 ⟨rfl, g1⟩; have z1 := g1.size; have gg := gg.trans g1) | (go_at_call 21; refine (iCropTray s _ (gg.ml hm) hs').mono ?_; rintro e w2 ⟨rfl, g2⟩; have z2 := g2.size; have gg := gg.trans g2))
    go_ret
    exact ⟨rfl, gg⟩
end Go.Proofs.YtoadoeahbekkoaaDoor
