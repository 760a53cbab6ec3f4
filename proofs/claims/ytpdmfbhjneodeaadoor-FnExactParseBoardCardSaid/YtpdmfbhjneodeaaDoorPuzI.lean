/-
  A puzzle read by the program, and whether there is one.
-/
import Derived.Test.YtpdmfbhjneodeaaDoorPuzK
import Derived.Deep.Cut
namespace Go.Proofs.YtpdmfbhjneodeaaDoor
open Go.RowKit
/-- The value of what is read. -/
def pzV : Option (Grid × UInt8 × Nat) → Array Value
  | none => qv g00 0 0
  | some (g, b, k) => qv g b k
theorem pzV_qv (o : Option (Grid × UInt8 × Nat)) : ∃ g b k, pzV o = qv g b k := by
  cases o with
  | none => exact ⟨_, _, _, rfl⟩
  | some x => obtain ⟨g, b, k⟩ := x; exact ⟨g, b, k, rfl⟩
theorem pz_notray {l : List UInt8} (n : ByteArray) (z : Int) (h : parse l = none) : pzS l n z = none := by unfold pzS; rw [h]
theorem pz_bad {l : List UInt8} {n : ByteArray} {z : Int} {g : Grid} (h : parse l = some g) (ho : pzOk g n z = false) : pzS l n z = none := by unfold pzS; rw [h]; show (if pzOk g n z then _ else _) = _; rw [ho]; rfl
theorem pz_good {l : List UInt8} {n : ByteArray} {z : Int} {g : Grid} (h : parse l = some g) (ho : pzOk g n z = true) : pzS l n z = some (g, hd n, z.toNat) := by unfold pzS; rw [h]; show (if pzOk g n z then _ else _) = _; rw [ho]; rfl
theorem pz_noname {g : Grid} {n : ByteArray} {z : Int} (h : nameS n = false) : pzOk g n z = false := by unfold pzOk; rw [h]; rfl
theorem pz_noball {g : Grid} {n : ByteArray} {z : Int} (h : cnt g.c (hd n) g.c.length = 0) : pzOk g n z = false := by unfold pzOk; rw [ix_cnt, h]; simp
theorem pz_nocell {g : Grid} {n : ByteArray} {z : Int} (h : inB z g.c.length = false) : pzOk g n z = false := by unfold pzOk; rw [h]; simp
theorem pz_wall {g : Grid} {n : ByteArray} {k : Nat} (h : at0 g.c k = 35) : pzOk g n k = false := by unfold pzOk; rw [Int.toNat_natCast, h]; simp
theorem pz_ok {g : Grid} {n : ByteArray} {k : Nat} (h1 : nameS n = true) (h2 : ¬ cnt g.c (hd n) g.c.length = 0) (h3 : k < g.c.length) (h4 : at0 g.c k ≠ 35) : pzOk g n k = true := by
  unfold pzOk
  have h3' : inB (k : Int) g.c.length = true := inB_true.2 ⟨by omega, by omega⟩
  have h2' : (cnt g.c (hd n) g.c.length == 0) = false := by rw [beq_eq_false_iff_ne]; exact h2
  have h4' : (at0 g.c k == 35) = false := by rw [beq_eq_false_iff_ne]; exact h4
  rw [h1, ix_cnt, h2', h3', Int.toNat_natCast, h4']
  rfl
set_option maxHeartbeats 2000000 in
set_option maxRecDepth 100000 in
theorem readPuzzle_any (s n : ByteArray) (z : Int) (w : World) (hm : ML w) (hs : s.size ≤ 1048576) : Calls Tryd.prog 16 #[.agg (pv s n z)] w (Ret (.tuple #[.agg (pzV (pzS s.data.toList n z)), .bool (pzS s.data.toList n z).isSome]) w) := by
  have gg := Gr.refl w
  rcases rd_cases s.data.toList with ⟨hp, hg, hk⟩ | ⟨g, hp, hg, hk⟩
  · have HK := hidI hk
    have HV := hidI (pz_notray n z hp)
    clear hp hg hk
    go_enter Tryd.func16, Tryd.ntmps16
    go_wp2_with (first | (refine r_box 23 _ (pv (s) (n) (z)) rfl rfl ?_; intro w1 B1 N1; have g1 := N1.gr; have b1 : Blk w1 B1 (pv (s) (n) (z)) 23 := N1.blk; have l1 := N1.lo; have t1 := N1.hi; have z1 := g1.size; have gg := gg.trans g1; clear N1; obtain ⟨b1_0, b1_1, b1_2⟩ := pcells b1) | (refine r_alloc (dst := some 2) 45 _ Tryd.qzero rfl ?_; intro w2 B2 N2; have g2 := N2.gr; have b2 : Blk w2 B2 (qv g00 0 0) 45 := N2.blk; have l2 := N2.lo; have t2 := N2.hi; have z2 := g2.size; have b1 := g2.blk b1; obtain ⟨b1_0, b1_1, b1_2⟩ := pcells b1; have gg := gg.trans g2; clear N2) | (go_at_call 31; refine (readTray_any s _ (gg.ml hm) hs).mono ?_; rintro e w3 ⟨rfl, g3⟩; rw [HK.out]; have z3 := g3.size; have b1 := g3.blk b1; obtain ⟨b1_0, b1_1, b1_2⟩ := pcells b1; have b2 := g3.blk b2; have gg := gg.trans g3) | (refine r_alloc (dst := some 4) 43 _ Tryd.gzero rfl ?_; intro w4 B4 N4; have g4 := N4.gr; have b4 : Blk w4 B4 (gv 0 0 []) 43 := N4.blk; have l4 := N4.lo; have t4 := N4.hi; have z4 := g4.size; have b1 := g4.blk b1; obtain ⟨b1_0, b1_1, b1_2⟩ := pcells b1; have b2 := g4.blk b2; have gg := gg.trans g4; clear N4; obtain ⟨b4_0, b4_1, b4_2⟩ := gcells b4) | (refine r_store_row 43 43 _ _ _ rfl (gv _ _ _) _ rfl b4 (Tryd.gsize' _ _ _) (by simp only [gv_size]) (gv_one _ _ _) rfl ?_; intro w5 u5 b4'; have z5 := u5.size; have gg := u5.gr gg (by omega); have b1 := u5.blk b1 (by omega); obtain ⟨b1_0, b1_1, b1_2⟩ := pcells b1; have b2 := u5.blk b2 (by omega); clear b4; have b4 := b4'; clear b4'; obtain ⟨b4_0, b4_1, b4_2⟩ := gcells b4))
    refine q_whole (by kernel_rfl) (by kernel_rfl) ?_
    refine q_take (.bool false) rfl (fun w' hw' => by first | rfl | (unfold execOp; simp [go_sem, Act.eval])) ?_
    simp only [Act.put, List.setIfInBounds_toArray, List.set_cons_succ, List.set_cons_zero]
    refine q_take (.bool true) rfl (fun w' hw' => by first | rfl | (unfold execOp; simp [go_sem, Act.eval])) ?_
    simp only [Act.put, List.setIfInBounds_toArray, List.set_cons_succ, List.set_cons_zero]
    refine q_take (.bool true) rfl (fun w' hw' => by first | rfl | (unfold execOp; simp [go_sem, Act.eval])) ?_
    simp only [Act.put, List.setIfInBounds_toArray, List.set_cons_succ, List.set_cons_zero]
    refine BigFrame.wpQuiet_skip rfl ?_
    simp only [Act.put, List.setIfInBounds_toArray, List.set_cons_succ, List.set_cons_zero]
    refine BigFrame.wpQuiet_skip rfl ?_
    simp only [Act.put, List.setIfInBounds_toArray, List.set_cons_succ, List.set_cons_zero]
    refine BigFrame.wpQuiet_skip rfl ?_
    simp only [Act.put, List.setIfInBounds_toArray, List.set_cons_succ, List.set_cons_zero]
    refine BigFrame.wpQuiet_skip rfl ?_
    simp only [Act.put, List.setIfInBounds_toArray, List.set_cons_succ, List.set_cons_zero]
    refine q_take (.bool true) rfl (fun w' hw' => by first | rfl | (unfold execOp; simp [go_sem, Act.eval])) ?_
    simp only [Act.put, List.setIfInBounds_toArray, List.set_cons_succ, List.set_cons_zero]
    refine q_take (.bool true) rfl (fun w' hw' => by first | rfl | (unfold execOp; simp [go_sem, Act.eval])) ?_
    simp only [Act.put, List.setIfInBounds_toArray, List.set_cons_succ, List.set_cons_zero]
    refine BigFrame.wpQuiet_skip rfl ?_
    simp only [Act.put, List.setIfInBounds_toArray, List.set_cons_succ, List.set_cons_zero]
    refine BigFrame.wpQuiet_skip rfl ?_
    simp only [Act.put, List.setIfInBounds_toArray, List.set_cons_succ, List.set_cons_zero]
    refine BigFrame.wpQuiet_skip rfl ?_
    simp only [Act.put, List.setIfInBounds_toArray, List.set_cons_succ, List.set_cons_zero]
    refine BigFrame.wpQuiet_skip rfl ?_
    simp only [Act.put, List.setIfInBounds_toArray, List.set_cons_succ, List.set_cons_zero]
    refine BigFrame.wpQuiet_skip rfl ?_
    simp only [Act.put, List.setIfInBounds_toArray, List.set_cons_succ, List.set_cons_zero]
    refine BigFrame.wpQuiet_skip rfl ?_
    simp only [Act.put, List.setIfInBounds_toArray, List.set_cons_succ, List.set_cons_zero]
    refine q_take (.bool true) rfl (fun w' hw' => by first | rfl | (unfold execOp; simp [go_sem, Act.eval])) ?_
    simp only [Act.put, List.setIfInBounds_toArray, List.set_cons_succ, List.set_cons_zero]
    refine wpQuiet_nil ?_
    intro wq gq
    have b1 := gq.blk b1
    have b2 := gq.blk b2
    have gg := gg.trans gq
    have zq := gq.size
    go_wp2_with (first | (refine r_build 45 [] [] _ (Tryd.qbuild0 _) rfl rfl ?_) | (refine r_store_row 45 45 _ _ _ rfl (qv (_) (_) (_)) _ rfl b2 (Tryd.qsize _ _ _) (by simp only [qv_size]) (qv_one _ _ _) rfl ?_; intro w19 u19 b2'; have z19 := u19.size; have gg := u19.gr gg (by omega); clear b2; have b2 := b2'; clear b2'))
    refine bodyPost_ret (results_row_bool rfl _ _ _ _ _ _ rfl b2 Tryd.underlying45 rfl (Tryd.qinfo _ _ _)) rfl ?_
    exact ⟨by rw [HV.out]; rfl, gg⟩
  · have HK := hidI hk
    have HG := hidI hg
    obtain ⟨hc, hw1, hh1, hl⟩ := cel_of hp
    have hlen := hc.len
    have w7 := hc.w7
    have h7 := hc.h7
    have n36 := hc.n36
    cases hnm : nameS n with
    | false =>
      have HNM := hidI hnm
      have HV := hidI (pz_bad hp (pz_noname (z := z) hnm))
      clear hp hg hk hc hnm
      go_enter Tryd.func16, Tryd.ntmps16
      go_wp2_with (first | (refine r_box 23 _ (pv (s) (n) (z)) rfl rfl ?_; intro w1 B1 N1; have g1 := N1.gr; have b1 : Blk w1 B1 (pv (s) (n) (z)) 23 := N1.blk; have l1 := N1.lo; have t1 := N1.hi; have z1 := g1.size; have gg := gg.trans g1; clear N1; obtain ⟨b1_0, b1_1, b1_2⟩ := pcells b1) | (refine r_alloc (dst := some 2) 45 _ Tryd.qzero rfl ?_; intro w2 B2 N2; have g2 := N2.gr; have b2 : Blk w2 B2 (qv g00 0 0) 45 := N2.blk; have l2 := N2.lo; have t2 := N2.hi; have z2 := g2.size; have b1 := g2.blk b1; obtain ⟨b1_0, b1_1, b1_2⟩ := pcells b1; have gg := gg.trans g2; clear N2) | (go_at_call 31; refine (readTray_any s _ (gg.ml hm) hs).mono ?_; rintro e w3 ⟨rfl, g3⟩; rw [HK.out, HG.out, gvG]; have z3 := g3.size; have b1 := g3.blk b1; obtain ⟨b1_0, b1_1, b1_2⟩ := pcells b1; have b2 := g3.blk b2; have gg := gg.trans g3) | (refine r_alloc (dst := some 4) 43 _ Tryd.gzero rfl ?_; intro w4 B4 N4; have g4 := N4.gr; have b4 : Blk w4 B4 (gv 0 0 []) 43 := N4.blk; have l4 := N4.lo; have t4 := N4.hi; have z4 := g4.size; have b1 := g4.blk b1; obtain ⟨b1_0, b1_1, b1_2⟩ := pcells b1; have b2 := g4.blk b2; have gg := gg.trans g4; clear N4; obtain ⟨b4_0, b4_1, b4_2⟩ := gcells b4) | (refine r_store_row 43 43 _ _ _ rfl (gv g.w g.h g.c) _ rfl b4 (Tryd.gsize' _ _ _) (by simp only [gv_size]) (gv_one _ _ _) rfl ?_; intro w5 u5 b4'; have z5 := u5.size; have gg := u5.gr gg (by omega); have b1 := u5.blk b1 (by omega); obtain ⟨b1_0, b1_1, b1_2⟩ := pcells b1; have b2 := u5.blk b2 (by omega); clear b4; have b4 := b4'; clear b4'; obtain ⟨b4_0, b4_1, b4_2⟩ := gcells b4))
      refine q_whole (by kernel_rfl) (by kernel_rfl) ?_
      refine q_take (.bool true) rfl (fun w' hw' => by first | rfl | (unfold execOp; simp [go_sem, Act.eval])) ?_
      simp only [Act.put, List.setIfInBounds_toArray, List.set_cons_succ, List.set_cons_zero]
      refine q_take (.bool false) rfl (fun w' hw' => by first | rfl | (unfold execOp; simp [go_sem, Act.eval])) ?_
      simp only [Act.put, List.setIfInBounds_toArray, List.set_cons_succ, List.set_cons_zero]
      refine q_take (.bool false) rfl (fun w' hw' => by first | rfl | (unfold execOp; simp [go_sem, Act.eval])) ?_
      simp only [Act.put, List.setIfInBounds_toArray, List.set_cons_succ, List.set_cons_zero]
      refine q_take (.pointer (some ⟨B1, 1, none⟩)) rfl (fun w' hw' => e_val _ _ (Tryd.ipf1 _ _)) ?_; simp only [Act.put, List.setIfInBounds_toArray, List.set_cons_succ, List.set_cons_zero]
      refine q_take (.string n) rfl (fun w' hw' => e_load 9 (.tmp 15) _ _ rfl (Tryd.isAgg9 _) (hw'.cell b1_1)) ?_; simp only [Act.put, List.setIfInBounds_toArray, List.set_cons_succ, List.set_cons_zero]
      refine q_call 32 [.tmp 16] _ [.string n] (.bool false) Tryd.call32 rfl rfl (fun w' hw' => (isName_any n w').mono fun e w'' h => ⟨by rw [h.1, HNM.out], h.2 ▸ hw'⟩) ?_
      simp only [Act.put, List.setIfInBounds_toArray, List.set_cons_succ, List.set_cons_zero]
      refine q_take (.bool true) rfl (fun w' hw' => by first | rfl | (unfold execOp; simp [go_sem, Act.eval])) ?_
      simp only [Act.put, List.setIfInBounds_toArray, List.set_cons_succ, List.set_cons_zero]
      refine q_take (.bool true) rfl (fun w' hw' => by first | rfl | (unfold execOp; simp [go_sem, Act.eval])) ?_
      simp only [Act.put, List.setIfInBounds_toArray, List.set_cons_succ, List.set_cons_zero]
      refine q_take (.bool true) rfl (fun w' hw' => by first | rfl | (unfold execOp; simp [go_sem, Act.eval])) ?_
      simp only [Act.put, List.setIfInBounds_toArray, List.set_cons_succ, List.set_cons_zero]
      refine BigFrame.wpQuiet_skip rfl ?_
      simp only [Act.put, List.setIfInBounds_toArray, List.set_cons_succ, List.set_cons_zero]
      refine BigFrame.wpQuiet_skip rfl ?_
      simp only [Act.put, List.setIfInBounds_toArray, List.set_cons_succ, List.set_cons_zero]
      refine BigFrame.wpQuiet_skip rfl ?_
      simp only [Act.put, List.setIfInBounds_toArray, List.set_cons_succ, List.set_cons_zero]
      refine BigFrame.wpQuiet_skip rfl ?_
      simp only [Act.put, List.setIfInBounds_toArray, List.set_cons_succ, List.set_cons_zero]
      refine BigFrame.wpQuiet_skip rfl ?_
      simp only [Act.put, List.setIfInBounds_toArray, List.set_cons_succ, List.set_cons_zero]
      refine BigFrame.wpQuiet_skip rfl ?_
      simp only [Act.put, List.setIfInBounds_toArray, List.set_cons_succ, List.set_cons_zero]
      refine q_take (.bool true) rfl (fun w' hw' => by first | rfl | (unfold execOp; simp [go_sem, Act.eval])) ?_
      simp only [Act.put, List.setIfInBounds_toArray, List.set_cons_succ, List.set_cons_zero]
      refine wpQuiet_nil ?_
      intro wq gq
      have b1 := gq.blk b1
      have b2 := gq.blk b2
      have gg := gg.trans gq
      have zq := gq.size
      go_wp2_with (first | (refine r_build 45 [] [] _ (Tryd.qbuild0 _) rfl rfl ?_) | (refine r_store_row 45 45 _ _ _ rfl (qv (_) (_) (_)) _ rfl b2 (Tryd.qsize _ _ _) (by simp only [qv_size]) (qv_one _ _ _) rfl ?_; intro w19 u19 b2'; have z19 := u19.size; have gg := u19.gr gg (by omega); clear b2; have b2 := b2'; clear b2'))
      refine bodyPost_ret (results_row_bool rfl _ _ _ _ _ _ rfl b2 Tryd.underlying45 rfl (Tryd.qinfo _ _ _)) rfl ?_
      exact ⟨by rw [HV.out]; rfl, gg⟩
    | true =>
      have HNM := hidI hnm
      have hnm' := hnm
      unfold nameS at hnm'
      rw [Bool.and_eq_true, decide_eq_true_eq] at hnm'
      have hn1 := one_of n hnm'.1
      obtain ⟨b, hb⟩ : ∃ b, hd n = b := ⟨_, rfl⟩
      obtain ⟨x, hx⟩ : ∃ x, x = cnt g.c b g.c.length := ⟨_, rfl⟩
      have HCB := hidI (fun w' => show Calls Tryd.prog 33 #[.agg (gv g.w g.h g.c), .int .u8 b.toNat] w' (Ret (.int .i64 (x : Int)) w') from by
        rw [hx, hlen]; exact countByte_any g.w g.h g.c b w' w7 h7 n36)
      have HX := hidI hx
      have HB := hidI hb
      have HP := hidI hp
      rw [hb] at hn1
      have HN1 := hidI hn1
      have HHN := hidI (fun w' => show Calls Tryd.prog 34 #[.agg (gv g.w g.h g.c), .int .i64 z] w' (Ret (.bool (inB z g.c.length)) w') from by
        rw [hlen]; exact hasNumber_any g.w g.h g.c z w' w7 h7)
      have hl36 : g.c.length ≤ 36 := by omega
      clear hp hg hk hc hnm hnm' hb hx hn1 hlen
      go_enter Tryd.func16, Tryd.ntmps16
      go_wp2_with (first | (refine r_box 23 _ (pv (s) (n) (z)) rfl rfl ?_; intro w1 B1 N1; have g1 := N1.gr; have b1 : Blk w1 B1 (pv (s) (n) (z)) 23 := N1.blk; have l1 := N1.lo; have t1 := N1.hi; have z1 := g1.size; have gg := gg.trans g1; clear N1; obtain ⟨b1_0, b1_1, b1_2⟩ := pcells b1) | (refine r_alloc (dst := some 2) 45 _ Tryd.qzero rfl ?_; intro w2 B2 N2; have g2 := N2.gr; have b2 : Blk w2 B2 (qv g00 0 0) 45 := N2.blk; have l2 := N2.lo; have t2 := N2.hi; have z2 := g2.size; have b1 := g2.blk b1; obtain ⟨b1_0, b1_1, b1_2⟩ := pcells b1; have gg := gg.trans g2; clear N2) | (go_at_call 31; refine (readTray_any s _ (gg.ml hm) hs).mono ?_; rintro e w3 ⟨rfl, g3⟩; rw [HK.out, HG.out, gvG]; have z3 := g3.size; have b1 := g3.blk b1; obtain ⟨b1_0, b1_1, b1_2⟩ := pcells b1; have b2 := g3.blk b2; have gg := gg.trans g3) | (refine r_alloc (dst := some 4) 43 _ Tryd.gzero rfl ?_; intro w4 B4 N4; have g4 := N4.gr; have b4 : Blk w4 B4 (gv 0 0 []) 43 := N4.blk; have l4 := N4.lo; have t4 := N4.hi; have z4 := g4.size; have b1 := g4.blk b1; obtain ⟨b1_0, b1_1, b1_2⟩ := pcells b1; have b2 := g4.blk b2; have gg := gg.trans g4; clear N4; obtain ⟨b4_0, b4_1, b4_2⟩ := gcells b4) | (refine r_store_row 43 43 _ _ _ rfl (gv g.w g.h g.c) _ rfl b4 (Tryd.gsize' _ _ _) (by simp only [gv_size]) (gv_one _ _ _) rfl ?_; intro w5 u5 b4'; have z5 := u5.size; have gg := u5.gr gg (by omega); have b1 := u5.blk b1 (by omega); obtain ⟨b1_0, b1_1, b1_2⟩ := pcells b1; have b2 := u5.blk b2 (by omega); clear b4; have b4 := b4'; clear b4'; obtain ⟨b4_0, b4_1, b4_2⟩ := gcells b4))
      refine q_whole (by kernel_rfl) (by kernel_rfl) ?_
      refine q_take (.bool true) rfl (fun w' hw' => by first | rfl | (unfold execOp; simp [go_sem, Act.eval])) ?_
      simp only [Act.put, List.setIfInBounds_toArray, List.set_cons_succ, List.set_cons_zero]
      refine q_take (.bool false) rfl (fun w' hw' => by first | rfl | (unfold execOp; simp [go_sem, Act.eval])) ?_
      simp only [Act.put, List.setIfInBounds_toArray, List.set_cons_succ, List.set_cons_zero]
      refine q_take (.bool false) rfl (fun w' hw' => by first | rfl | (unfold execOp; simp [go_sem, Act.eval])) ?_
      simp only [Act.put, List.setIfInBounds_toArray, List.set_cons_succ, List.set_cons_zero]
      refine q_take (.pointer (some ⟨B1, 1, none⟩)) rfl (fun w' hw' => e_val _ _ (Tryd.ipf1 _ _)) ?_; simp only [Act.put, List.setIfInBounds_toArray, List.set_cons_succ, List.set_cons_zero]
      refine q_take (.string n) rfl (fun w' hw' => e_load 9 (.tmp 15) _ _ rfl (Tryd.isAgg9 _) (hw'.cell b1_1)) ?_; simp only [Act.put, List.setIfInBounds_toArray, List.set_cons_succ, List.set_cons_zero]
      refine q_call 32 [.tmp 16] _ [.string n] (.bool true) Tryd.call32 rfl rfl (fun w' hw' => (isName_any n w').mono fun e w'' h => ⟨by rw [h.1, HNM.out], h.2 ▸ hw'⟩) ?_
      simp only [Act.put, List.setIfInBounds_toArray, List.set_cons_succ, List.set_cons_zero]
      refine q_take (.bool false) rfl (fun w' hw' => by first | rfl | (unfold execOp; simp [go_sem, Act.eval])) ?_
      simp only [Act.put, List.setIfInBounds_toArray, List.set_cons_succ, List.set_cons_zero]
      refine q_take (.bool false) rfl (fun w' hw' => by first | rfl | (unfold execOp; simp [go_sem, Act.eval])) ?_
      simp only [Act.put, List.setIfInBounds_toArray, List.set_cons_succ, List.set_cons_zero]
      refine q_take (.bool false) rfl (fun w' hw' => by first | rfl | (unfold execOp; simp [go_sem, Act.eval])) ?_
      simp only [Act.put, List.setIfInBounds_toArray, List.set_cons_succ, List.set_cons_zero]
      by_cases hx0 : x = 0
      · have HV := hidI (pz_bad HP.out (pz_noball (n := n) (z := z) (by rw [HB.out, ← HX.out, hx0])))
        have hdec : decide ((x : Int) = 0) = true := decide_eq_true (by omega)
        refine q_take (.agg (gv g.w g.h g.c)) rfl (fun w' hw' => e_load_row 43 (.tmp 4) _ _ _ _ rfl (hw'.blk b4) Tryd.underlying43 rfl (Tryd.ginfo' _ _ _)) ?_
        simp only [Act.put, List.setIfInBounds_toArray, List.set_cons_succ, List.set_cons_zero]
        refine q_take (.pointer (some ⟨B1, 1, none⟩)) rfl (fun w' hw' => e_val _ _ (Tryd.ipf1 _ _)) ?_; simp only [Act.put, List.setIfInBounds_toArray, List.set_cons_succ, List.set_cons_zero]
        refine q_take (.string n) rfl (fun w' hw' => e_load 9 (.tmp 22) _ _ rfl (Tryd.isAgg9 _) (hw'.cell b1_1)) ?_; simp only [Act.put, List.setIfInBounds_toArray, List.set_cons_succ, List.set_cons_zero]
        refine q_take (.int .u8 b.toNat) rfl (fun w' hw' => e_val _ _ (by rw [show (Act.eval _ (.tmp 23)) = Value.string n from rfl, HN1.out]; exact s_idx0 Tryd.underlying9 b _)) ?_
        simp only [Act.put, List.setIfInBounds_toArray, List.set_cons_succ, List.set_cons_zero]
        refine q_call 33 [.tmp 21, .tmp 24] _ [.agg (gv g.w g.h g.c), .int .u8 b.toNat] (.int .i64 (x : Int)) Tryd.call33 rfl rfl (fun w' hw' => (HCB.out w').mono fun e w'' h => ⟨h.1, hw'.trans h.2⟩) ?_
        simp only [Act.put, List.setIfInBounds_toArray, List.set_cons_succ, List.set_cons_zero]
        refine q_take (.bool true) rfl (fun w' hw' => e_eqI _ _ _ _ _ rfl rfl hdec) ?_
        simp only [Act.put, List.setIfInBounds_toArray, List.set_cons_succ, List.set_cons_zero]
        refine q_take (.bool true) rfl (fun w' hw' => by first | rfl | (unfold execOp; simp [go_sem, Act.eval])) ?_
        simp only [Act.put, List.setIfInBounds_toArray, List.set_cons_succ, List.set_cons_zero]
        refine wpQuiet_nil ?_
        intro wq gq
        have b1 := gq.blk b1
        have b2 := gq.blk b2
        have gg := gg.trans gq
        have zq := gq.size
        go_wp2_with (first | (refine r_build 45 [] [] _ (Tryd.qbuild0 _) rfl rfl ?_) | (refine r_store_row 45 45 _ _ _ rfl (qv (_) (_) (_)) _ rfl b2 (Tryd.qsize _ _ _) (by simp only [qv_size]) (qv_one _ _ _) rfl ?_; intro w19 u19 b2'; have z19 := u19.size; have gg := u19.gr gg (by omega); clear b2; have b2 := b2'; clear b2'))
        refine bodyPost_ret (results_row_bool rfl _ _ _ _ _ _ rfl b2 Tryd.underlying45 rfl (Tryd.qinfo _ _ _)) rfl ?_
        exact ⟨by rw [HV.out]; rfl, gg⟩
      · have hdec : decide ((x : Int) = 0) = false := decide_eq_false (by omega)
        have HX0 := hidI hx0
        clear hx0
        refine q_take (.agg (gv g.w g.h g.c)) rfl (fun w' hw' => e_load_row 43 (.tmp 4) _ _ _ _ rfl (hw'.blk b4) Tryd.underlying43 rfl (Tryd.ginfo' _ _ _)) ?_
        simp only [Act.put, List.setIfInBounds_toArray, List.set_cons_succ, List.set_cons_zero]
        refine q_take (.pointer (some ⟨B1, 1, none⟩)) rfl (fun w' hw' => e_val _ _ (Tryd.ipf1 _ _)) ?_; simp only [Act.put, List.setIfInBounds_toArray, List.set_cons_succ, List.set_cons_zero]
        refine q_take (.string n) rfl (fun w' hw' => e_load 9 (.tmp 22) _ _ rfl (Tryd.isAgg9 _) (hw'.cell b1_1)) ?_; simp only [Act.put, List.setIfInBounds_toArray, List.set_cons_succ, List.set_cons_zero]
        refine q_take (.int .u8 b.toNat) rfl (fun w' hw' => e_val _ _ (by rw [show (Act.eval _ (.tmp 23)) = Value.string n from rfl, HN1.out]; exact s_idx0 Tryd.underlying9 b _)) ?_
        simp only [Act.put, List.setIfInBounds_toArray, List.set_cons_succ, List.set_cons_zero]
        refine q_call 33 [.tmp 21, .tmp 24] _ [.agg (gv g.w g.h g.c), .int .u8 b.toNat] (.int .i64 (x : Int)) Tryd.call33 rfl rfl (fun w' hw' => (HCB.out w').mono fun e w'' h => ⟨h.1, hw'.trans h.2⟩) ?_
        simp only [Act.put, List.setIfInBounds_toArray, List.set_cons_succ, List.set_cons_zero]
        refine q_take (.bool false) rfl (fun w' hw' => e_eqI _ _ _ _ _ rfl rfl hdec) ?_
        simp only [Act.put, List.setIfInBounds_toArray, List.set_cons_succ, List.set_cons_zero]
        refine q_take (.bool false) rfl (fun w' hw' => by first | rfl | (unfold execOp; simp [go_sem, Act.eval])) ?_
        simp only [Act.put, List.setIfInBounds_toArray, List.set_cons_succ, List.set_cons_zero]
        refine wpQuiet_nil ?_
        intro wq gq
        have b1 := gq.blk b1
        have b2 := gq.blk b2
        have b4 := gq.blk b4
        have gg := gg.trans gq
        have zq := gq.size
        obtain ⟨b1_0, b1_1, b1_2⟩ := pcells b1
        obtain ⟨b4_0, b4_1, b4_2⟩ := gcells b4
        cases hin : inB z g.c.length with
        | false =>
          have HV := hidI (pz_bad HP.out (pz_nocell (n := n) hin))
          have HIN := hidI hin
          clear hin
          go_upto_region 5 with (first | (go_at_call 34; refine (HHN.out _).mono ?_; rintro e w6 ⟨rfl, g6⟩; rw [HIN.out]; have z6 := g6.size; have b1 := g6.blk b1; obtain ⟨b1_0, b1_1, b1_2⟩ := pcells b1; have b2 := g6.blk b2; have gg := gg.trans g6) | ((with_reducible (refine r_load_row 43 (.tmp 4) B4 ?hx _ _ _ b4 Tryd.underlying43 ?hd (Tryd.ginfo' _ _ _) ?hg ?h)); (case hx => rfl); (case hd => rfl); (case hg => rfl)))
          go_wp2_with (first | (refine r_build 45 [] [] _ (Tryd.qbuild0 _) rfl rfl ?_) | (refine r_store_row 45 45 _ _ _ rfl (qv (_) (_) (_)) _ rfl b2 (Tryd.qsize _ _ _) (by simp only [qv_size]) (qv_one _ _ _) rfl ?_; intro w7 u7 b2'; have z7 := u7.size; have gg := u7.gr gg (by omega); clear b2; have b2 := b2'; clear b2'))
          refine bodyPost_ret (results_row_bool rfl _ _ _ _ _ _ rfl b2 Tryd.underlying45 rfl (Tryd.qinfo _ _ _)) rfl ?_
          exact ⟨by rw [HV.out]; rfl, gg⟩
        | true =>
          obtain ⟨k, rfl⟩ : ∃ k : Nat, z = k := ⟨z.toNat, by have := (inB_true.1 hin).1; omega⟩
          have hk := (inB_true.1 hin).2
          have hk' : k < g.c.length := by omega
          have hix := Tryd.gix B4 k (by omega)
          have hcl := b4_2 k (by omega)
          have HIN := hidI hin
          clear hin
          by_cases hb35 : at0 g.c k = 35
          · have HV := hidI (pz_bad HP.out (pz_wall (n := n) hb35))
            have e1 : (((at0 g.c k).toNat : Int) == 35) = true := by rw [hb35]; rfl
            clear hb35
            go_wp2_with (first | (refine r_load_row 43 _ _ rfl _ _ _ b4 Tryd.underlying43 rfl (Tryd.ginfo' _ _ _) rfl ?_) | ((go_at_call 34; refine (HHN.out _).mono ?_; rintro e w6 ⟨rfl, g6⟩; rw [HIN.out]; have z6 := g6.size; have b1 := g6.blk b1; obtain ⟨b1_0, b1_1, b1_2⟩ := pcells b1; have b2 := g6.blk b2; have b4 := g6.blk b4; obtain ⟨b4_0, b4_1, b4_2⟩ := gcells b4; have gg := gg.trans g6); have hcl := b4_2 k (by omega)) | (refine r_build 45 [] [] _ (Tryd.qbuild0 _) rfl rfl ?_) | (refine r_store_row 45 45 _ _ _ rfl (qv (_) (_) (_)) _ rfl b2 (Tryd.qsize _ _ _) (by simp only [qv_size]) (qv_one _ _ _) rfl ?_; intro w7 u7 b2'; have z7 := u7.size; have gg := u7.gr gg (by omega); clear b2; have b2 := b2'; clear b2'))
            refine bodyPost_ret (results_row_bool rfl _ _ _ _ _ _ rfl b2 Tryd.underlying45 rfl (Tryd.qinfo _ _ _)) rfl ?_
            exact ⟨by rw [HV.out]; rfl, gg⟩
          · have HV := hidI (pz_good HP.out (pz_ok HNM.out (by rw [HB.out, ← HX.out]; exact HX0.out) hk' hb35))
            have e1 : (((at0 g.c k).toNat : Int) == 35) = false := by
              rw [beq_eq_false_iff_ne]
              intro e
              exact hb35 (UInt8.toNat_inj.1 (by have h35 : (35 : UInt8).toNat = 35 := rfl; omega))
            clear hb35
            go_wp2_with (first | (refine r_load_row 43 _ _ rfl _ _ _ b4 Tryd.underlying43 rfl (Tryd.ginfo' _ _ _) rfl ?_) | ((go_at_call 34; refine (HHN.out _).mono ?_; rintro e w6 ⟨rfl, g6⟩; rw [HIN.out]; have z6 := g6.size; have b1 := g6.blk b1; obtain ⟨b1_0, b1_1, b1_2⟩ := pcells b1; have b2 := g6.blk b2; have b4 := g6.blk b4; obtain ⟨b4_0, b4_1, b4_2⟩ := gcells b4; have gg := gg.trans g6); have hcl := b4_2 k (by omega)))
            refine F_begin (fun w => (Blk w B4 (gv g.w g.h g.c) 43 ∧ Blk w B1 (pv s n k) 23)) 7 9 #[false, false, false, false, false, false, false, false, false] rfl (by kernel_rfl) (by kernel_rfl) ?_
            have gd := (Gr.refl w6).drew
            have b1 := gd.blk b1
            have b2 := gd.blk b2
            have b4 := gd.blk b4
            have gg := gg.trans gd
            have zd := gd.size
            generalize w6.drew = wd at *
            have hF0 := And.intro b4 b1
            refine F_take (v := .agg (gv g.w g.h g.c)) 0 #[true, false, false, false, false, false, false, false, false] rfl (by kernel_rfl) (fun _ _ _ h => h) rfl (fun w hF => e_load_row 43 (.tmp 4) _ _ _ _ rfl hF.1 Tryd.underlying43 rfl (Tryd.ginfo' _ _ _)) (hF0) ?_; simp only [Act.put, List.setIfInBounds_toArray, List.set_cons_succ, List.set_cons_zero]
            refine F_free (v := .pointer (some ⟨B1, 1, none⟩)) 1 #[true, true, false, false, false, false, false, false, false] rfl (by kernel_rfl) (fun _ _ _ h => h) rfl (fun _ => e_val _ _ (Tryd.ipf1 _ _)) (hF0) ?_; simp only [Act.put, List.setIfInBounds_toArray, List.set_cons_succ, List.set_cons_zero]
            refine F_take (v := .string n) 2 #[true, true, true, false, false, false, false, false, false] rfl (by kernel_rfl) (fun _ _ _ h => h) rfl (fun w hF => e_load 9 (.tmp 44) _ _ rfl (Tryd.isAgg9 _) (pcells hF.2).2.1) (hF0) ?_; simp only [Act.put, List.setIfInBounds_toArray, List.set_cons_succ, List.set_cons_zero]
            refine F_free (v := .int .u8 b.toNat) 3 #[true, true, true, true, false, false, false, false, false] rfl (by kernel_rfl) (fun _ _ _ h => h) rfl (fun _ => e_val _ _ (by rw [show (Act.eval _ (.tmp 45)) = Value.string n from rfl, HN1.out]; exact s_idx0 Tryd.underlying9 b _)) (hF0) ?_; simp only [Act.put, List.setIfInBounds_toArray, List.set_cons_succ, List.set_cons_zero]
            refine F_free (v := .pointer (some ⟨B1, 2, none⟩)) 4 #[true, true, true, true, true, false, false, false, false] rfl (by kernel_rfl) (fun _ _ _ h => h) rfl (fun _ => e_val _ _ (Tryd.ipf2 _ _)) (hF0) ?_; simp only [Act.put, List.setIfInBounds_toArray, List.set_cons_succ, List.set_cons_zero]
            refine F_take (v := .int .i64 k) 5 #[true, true, true, true, true, true, false, false, false] rfl (by kernel_rfl) (fun _ _ _ h => h) rfl (fun w hF => e_load 3 (.tmp 47) _ _ rfl (Tryd.isAgg3 _) (pcells hF.2).2.2) (hF0) ?_; simp only [Act.put, List.setIfInBounds_toArray, List.set_cons_succ, List.set_cons_zero]
            refine F_free (v := .agg (qv g b k)) 6 #[true, true, true, true, true, true, true, false, false] rfl (by kernel_rfl) (fun _ _ _ h => h) rfl (fun _ => e_buildP 45 [(0, .tmp 43), (1, .tmp 46), (2, .tmp 48)] [(0, .agg (gvG g)), (1, .int .u8 b.toNat), (2, .int .i64 k)] _ (Tryd.qbuild _ _ _ _) rfl) (hF0) ?_; simp only [Act.put, List.setIfInBounds_toArray, List.set_cons_succ, List.set_cons_zero]
            refine F_one 7 #[true, true, true, true, true, true, true, true, false] rfl (by kernel_rfl) ?_
            (refine r_store_row 45 45 _ _ _ rfl (qv (g) (b) (k)) _ rfl b2 (Tryd.qsize _ _ _) (by simp only [qv_size]) (qv_one _ _ _) rfl ?_; intro w9 u9 b2'; have z9 := u9.size; have gg := u9.gr gg (by omega); clear b2; have b2 := b2'; clear b2')
            refine ⟨fun h => (by cases h), ?_⟩
            simp only [Act.put]
            refine F_one 8 #[true, true, true, true, true, true, true, true, true] rfl (by kernel_rfl) ?_
            refine r_val (.bool true) rfl rfl ?_
            refine ⟨fun h => (by cases h), ?_⟩
            simp only [Act.put, List.setIfInBounds_toArray, List.set_cons_succ, List.set_cons_zero]
            refine F_done (by kernel_rfl) ?_
            go_wp2
            refine bodyPost_ret (results_row_bool rfl _ _ _ _ _ _ rfl b2 Tryd.underlying45 rfl (Tryd.qinfo _ _ _)) rfl ?_
            exact ⟨by rw [HV.out, HB.out]; rfl, gg⟩
end Go.Proofs.YtpdmfbhjneodeaaDoor
