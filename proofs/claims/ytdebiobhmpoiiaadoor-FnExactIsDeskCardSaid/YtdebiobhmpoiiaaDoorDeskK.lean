/-
  Desks: their values, the laws' helpers; FirstDesk and IsDesk, both sides and the laws.
-/
import Derived.Test.YtdebiobhmpoiiaaDoorBTy
import Derived.Test.YtdebiobhmpoiiaaDoorBWd
namespace Go.Proofs.YtdebiobhmpoiiaaDoor
open Go.RowKit
/-- A desk as a value. -/
def dv (s t : ByteArray) : Array Value := #[.string s, .string t]
theorem dv_one (s t : ByteArray) : ∀ v ∈ (dv s t).toList, v.oneCell' = true := by
  intro v hv
  unfold dv at hv
  simp only [List.mem_cons, List.not_mem_nil, or_false] at hv
  rcases hv with rfl | rfl <;> rfl
theorem dcells {w : World} {B : Nat} {s t : ByteArray} {T : TypeId} (h : Blk w B (dv s t) T) : w.cell? ⟨B, 0, none⟩ = some (.string s) ∧ w.cell? ⟨B, 1, none⟩ = some (.string t) := ⟨h.cell 0, h.cell 1⟩
theorem Tryd.idzero (w : World) : (zeroValue 26).run Tryd.prog w = .ok (.agg (dv ByteArray.empty ByteArray.empty)) w := by kernel_rfl
theorem Tryd.idsize (w : World) : (sizeOf 26).run Tryd.prog w = .ok 2 w := by kernel_rfl
theorem Tryd.idinfo : (Tryd.prog.info? 26).map (·.size) = some 2 := by kernel_rfl
theorem Tryd.idbuild1 (s : ByteArray) (w : World) : (Instr.build 26 #[(0, .string s)]).run Tryd.prog w = .ok (.agg (dv s ByteArray.empty)) w := by kernel_rfl
theorem Tryd.idf0 (B : Nat) (w : World) : (Instr.fieldAt 26 (.pointer (some ⟨B, 0, none⟩)) 0).run Tryd.prog w = .ok (.pointer (some ⟨B, 0, none⟩)) w := by kernel_rfl
theorem Tryd.idf1 (B : Nat) (w : World) : (Instr.fieldAt 26 (.pointer (some ⟨B, 0, none⟩)) 1).run Tryd.prog w = .ok (.pointer (some ⟨B, 1, none⟩)) w := by kernel_rfl
theorem Tryd.ldsize (w : World) : (sizeOf 23).run Tryd.prog w = .ok 2 w := by kernel_rfl
theorem Tryd.ldinfo : (Tryd.prog.info? 23).map (·.size) = some 2 := by kernel_rfl
def dkB (s t : ByteArray) : Bool := rdOk s.data.toList && wordB t
set_option maxHeartbeats 1000000 in
theorem iIsDesk (s t : ByteArray) (w : World) (hm : ML w) (hs : s.size ≤ 1048576) : Calls Tryd.prog 12 #[.agg (dv s t)] w (Ret (.bool (dkB s t)) w) := by
  have gg := Gr.refl w
  cases hg : rdOk s.data.toList with
  | false =>
    have HG := hidI hg
    have HV := hidI (show dkB s t = false from by unfold dkB; rw [hg]; rfl)
    clear hg
    go_enter Tryd.func12, Tryd.ntmps12
    go_wp2_with (first | (refine r_box 26 _ (dv (s) (t)) rfl rfl ?_; intro w1 B1 N1; have g1 := N1.gr; have b1 : Blk w1 B1 (dv (s) (t)) 26 := N1.blk; have l1 := N1.lo; have t1 := N1.hi; have z1 := g1.size; have gg := gg.trans g1; clear N1; obtain ⟨b1_0, b1_1⟩ := dcells b1) | (go_at_call 29; refine (iIsTray s _ (gg.ml hm) hs).mono ?_; rintro e w2 ⟨rfl, g2⟩; rw [HG.out]; have z2 := g2.size; have b1 := g2.blk b1; obtain ⟨b1_0, b1_1⟩ := dcells b1; have gg := gg.trans g2))
    go_ret
    exact ⟨ret_bool HV.out.symm, gg⟩
  | true =>
    have HG := hidI hg
    have HV := hidI (show dkB s t = wordB t from by unfold dkB; rw [hg]; rfl)
    clear hg
    go_enter Tryd.func12, Tryd.ntmps12
    go_wp2_with (first | (refine r_box 26 _ (dv (s) (t)) rfl rfl ?_; intro w1 B1 N1; have g1 := N1.gr; have b1 : Blk w1 B1 (dv (s) (t)) 26 := N1.blk; have l1 := N1.lo; have t1 := N1.hi; have z1 := g1.size; have gg := gg.trans g1; clear N1; obtain ⟨b1_0, b1_1⟩ := dcells b1) | (go_at_call 29; refine (iIsTray s _ (gg.ml hm) hs).mono ?_; rintro e w2 ⟨rfl, g2⟩; rw [HG.out]; have z2 := g2.size; have b1 := g2.blk b1; obtain ⟨b1_0, b1_1⟩ := dcells b1; have gg := gg.trans g2) | (go_at_call 30; refine (iIsWord t _).mono ?_; rintro e w3 ⟨rfl, g3⟩; have z3 := g3.size; have b1 := g3.blk b1; obtain ⟨b1_0, b1_1⟩ := dcells b1; have gg := gg.trans g3))
    go_ret
    exact ⟨ret_bool HV.out.symm, gg⟩
set_option maxHeartbeats 1000000 in
theorem coGood_any (s t : ByteArray) (w : World) (hs : s.size ≤ 1048576) : Calls Tryd.prog 28 #[.agg (dv s t)] w (Ret (.bool (dkB s t)) w) := by
  have gg := Gr.refl w
  cases hg : rdOk s.data.toList with
  | false =>
    have HG := hidI hg
    have HV := hidI (show dkB s t = false from by unfold dkB; rw [hg]; rfl)
    clear hg
    go_enter Tryd.func28, Tryd.ntmps28
    go_wp2_with (first | (refine r_box 26 _ (dv (s) (t)) rfl rfl ?_; intro w1 B1 N1; have g1 := N1.gr; have b1 : Blk w1 B1 (dv (s) (t)) 26 := N1.blk; have l1 := N1.lo; have t1 := N1.hi; have z1 := g1.size; have gg := gg.trans g1; clear N1; obtain ⟨b1_0, b1_1⟩ := dcells b1) | (go_at_call 55; refine (tyGood_any s _ hs).mono ?_; rintro e w2 ⟨rfl, g2⟩; rw [HG.out]; have z2 := g2.size; have b1 := g2.blk b1; obtain ⟨b1_0, b1_1⟩ := dcells b1; have gg := gg.trans g2))
    go_ret
    exact ⟨ret_bool HV.out.symm, gg⟩
  | true =>
    have HG := hidI hg
    have HV := hidI (show dkB s t = wordB t from by unfold dkB; rw [hg]; rfl)
    clear hg
    go_enter Tryd.func28, Tryd.ntmps28
    go_wp2_with (first | (refine r_box 26 _ (dv (s) (t)) rfl rfl ?_; intro w1 B1 N1; have g1 := N1.gr; have b1 : Blk w1 B1 (dv (s) (t)) 26 := N1.blk; have l1 := N1.lo; have t1 := N1.hi; have z1 := g1.size; have gg := gg.trans g1; clear N1; obtain ⟨b1_0, b1_1⟩ := dcells b1) | (go_at_call 55; refine (tyGood_any s _ hs).mono ?_; rintro e w2 ⟨rfl, g2⟩; rw [HG.out]; have z2 := g2.size; have b1 := g2.blk b1; obtain ⟨b1_0, b1_1⟩ := dcells b1; have gg := gg.trans g2) | (go_at_call 56; refine (tiWord_any t _).mono ?_; rintro e w3 ⟨rfl, g3⟩; have z3 := g3.size; have b1 := g3.blk b1; obtain ⟨b1_0, b1_1⟩ := dcells b1; have gg := gg.trans g3))
    go_ret
    exact ⟨ret_bool HV.out.symm, gg⟩
set_option maxHeartbeats 1000000 in
theorem sIsDesk (s t : ByteArray) (w : World) (hs : s.size ≤ 1048576) : Calls Tryd.prog 10 #[.agg (dv s t)] w (Ret (.bool (dkB s t)) w) := by
  have gg := Gr.refl w
  go_enter Tryd.func10, Tryd.ntmps10
  go_wp2_with (first | (refine r_box 26 _ (dv (s) (t)) rfl rfl ?_; intro w1 B1 N1; have g1 := N1.gr; have b1 : Blk w1 B1 (dv (s) (t)) 26 := N1.blk; have l1 := N1.lo; have t1 := N1.hi; have z1 := g1.size; have gg := gg.trans g1; clear N1; obtain ⟨b1_0, b1_1⟩ := dcells b1) | (refine r_load_row 26 _ _ rfl _ _ _ b1 Tryd.underlying26 rfl Tryd.idinfo rfl ?_) | (go_at_call 28; refine (coGood_any s t _ hs).mono ?_; rintro e w2 ⟨rfl, g2⟩; have z2 := g2.size; have gg := gg.trans g2))
  go_ret
  exact ⟨rfl, gg⟩
def szY (a b : Nat) : Int := if 1048576 < a + b then -1 else 1048576 - (a : Int) - b
set_option maxHeartbeats 1000000 in
theorem szDesk_any (s n : ByteArray) (w : World) (hs : s.size ≤ maxLen) (hn : n.size ≤ maxLen) : Calls Tryd.prog 9 #[.agg (dv s n), .int .i64 1048576] w (Ret (.int .i64 (szY s.size n.size)) w) := by
  have gg := Gr.refl w
  unfold maxLen at hs hn
  by_cases h : 1048576 < s.size
  · have HV := hidI (show szY s.size n.size = -1 from if_pos (by omega))
    go_enter Tryd.func9, Tryd.ntmps9
    go_wp2_with (refine r_box 23 _ (dv (s) (n)) rfl rfl ?_; intro w2 B2 N2; have g2 := N2.gr; have b2 : Blk w2 B2 (dv (s) (n)) 23 := N2.blk; have l2 := N2.lo; have t2 := N2.hi; have z2 := g2.size; have gg := gg.trans g2; clear N2; obtain ⟨b2_0, b2_1⟩ := dcells b2)
    go_ret
    exact ⟨ret_int HV.out.symm, gg⟩
  · by_cases h2 : 1048576 < s.size + n.size
    · have HV := hidI (show szY s.size n.size = -1 from if_pos h2)
      go_enter Tryd.func9, Tryd.ntmps9
      go_wp2_with (refine r_box 23 _ (dv (s) (n)) rfl rfl ?_; intro w2 B2 N2; have g2 := N2.gr; have b2 : Blk w2 B2 (dv (s) (n)) 23 := N2.blk; have l2 := N2.lo; have t2 := N2.hi; have z2 := g2.size; have gg := gg.trans g2; clear N2; obtain ⟨b2_0, b2_1⟩ := dcells b2)
      go_ret
      exact ⟨ret_int HV.out.symm, gg⟩
    · have HV := hidI (show szY s.size n.size = 1048576 - (s.size : Int) - n.size from if_neg h2)
      go_enter Tryd.func9, Tryd.ntmps9
      go_wp2_with (refine r_box 23 _ (dv (s) (n)) rfl rfl ?_; intro w2 B2 N2; have g2 := N2.gr; have b2 : Blk w2 B2 (dv (s) (n)) 23 := N2.blk; have l2 := N2.lo; have t2 := N2.hi; have z2 := g2.size; have gg := gg.trans g2; clear N2; obtain ⟨b2_0, b2_1⟩ := dcells b2)
      go_ret
      exact ⟨ret_int HV.out.symm, gg⟩
set_option maxHeartbeats 1000000 in
theorem toDesk_any (s n : ByteArray) (w : World) : Calls Tryd.prog 11 #[.agg (dv s n)] w (Ret (.agg (dv s n)) w) := by
  have gg := Gr.refl w
  go_enter Tryd.func11, Tryd.ntmps11
  go_wp2_with (first | (refine r_box 23 _ (dv (s) (n)) rfl rfl ?_; intro w1 B1 N1; have g1 := N1.gr; have b1 : Blk w1 B1 (dv (s) (n)) 23 := N1.blk; have l1 := N1.lo; have t1 := N1.hi; have z1 := g1.size; have gg := gg.trans g1; clear N1; obtain ⟨b1_0, b1_1⟩ := dcells b1) | (refine r_alloc (dst := some 2) 26 _ Tryd.idzero rfl ?_; intro w2 B2 N2; have g2 := N2.gr; have b2 : Blk w2 B2 (dv ByteArray.empty ByteArray.empty) 26 := N2.blk; have l2 := N2.lo; have t2 := N2.hi; have z2 := g2.size; have b1 := g2.blk b1; obtain ⟨b1_0, b1_1⟩ := dcells b1; have gg := gg.trans g2; clear N2; obtain ⟨b2_0, b2_1⟩ := dcells b2) | (refine r_alloc (dst := some 3) 26 _ Tryd.idzero rfl ?_; intro w3 B3 N3; have g3 := N3.gr; have b3 : Blk w3 B3 (dv ByteArray.empty ByteArray.empty) 26 := N3.blk; have l3 := N3.lo; have t3 := N3.hi; have z3 := g3.size; have b1 := g3.blk b1; obtain ⟨b1_0, b1_1⟩ := dcells b1; have b2 := g3.blk b2; obtain ⟨b2_0, b2_1⟩ := dcells b2; have gg := gg.trans g3; clear N3; obtain ⟨b3_0, b3_1⟩ := dcells b3) | (refine r_store_cell 9 26 _ _ B3 0 rfl (.string s) rfl _ b3 (by show 0 < 2; decide) Tryd.sizeOf9 rfl rfl ?_; intro w4 u4 b3'; have z4 := u4.size; have gg := u4.gr gg (by omega); have b1 := u4.blk b1 (by omega); obtain ⟨b1_0, b1_1⟩ := dcells b1; have b2 := u4.blk b2 (by omega); obtain ⟨b2_0, b2_1⟩ := dcells b2; clear b3; have b3 : Blk w4 B3 (dv (s) (ByteArray.empty)) 26 := b3'; clear b3'; obtain ⟨b3_0, b3_1⟩ := dcells b3) | (refine r_store_cell 9 26 _ _ B3 1 rfl (.string n) rfl _ b3 (by show 1 < 2; decide) Tryd.sizeOf9 rfl rfl ?_; intro w5 u5 b3'; have z5 := u5.size; have gg := u5.gr gg (by omega); have b1 := u5.blk b1 (by omega); obtain ⟨b1_0, b1_1⟩ := dcells b1; have b2 := u5.blk b2 (by omega); obtain ⟨b2_0, b2_1⟩ := dcells b2; clear b3; have b3 : Blk w5 B3 (dv (s) (n)) 26 := b3'; clear b3'; obtain ⟨b3_0, b3_1⟩ := dcells b3) | (refine r_load_row 26 _ _ rfl _ _ _ b3 Tryd.underlying26 rfl Tryd.idinfo rfl ?_) | (refine r_store_row 26 26 _ _ _ rfl (dv (s) (n)) _ rfl b2 Tryd.idsize rfl (dv_one _ _) rfl ?_; intro w7 u7 b2'; have z7 := u7.size; have gg := u7.gr gg (by omega); clear b2; have b2 := b2'; clear b2'; obtain ⟨b2_0, b2_1⟩ := dcells b2))
  refine bodyPost_ret (results_row rfl _ _ _ _ _ _ rfl b2 Tryd.underlying26 rfl Tryd.idinfo) rfl ?_
  exact ⟨rfl, gg⟩
set_option maxHeartbeats 1000000 in
theorem lawIsDesk (s n : ByteArray) (w : World) (hbs : s.size ≤ maxLen) (hbn : n.size ≤ maxLen) (hm : ML w) : Calls Tryd.prog 3 #[.agg (dv s n)] w (Ret (.bool true) w) := by
  have gg := Gr.refl w
  by_cases hl : 1048576 < s.size + n.size
  · have HZ := hidI (show szY s.size n.size = -1 from if_pos hl)
    go_enter Tryd.func3, Tryd.ntmps3
    go_wp2_with (first | (refine r_box 23 _ (dv (s) (n)) rfl rfl ?_; intro w1 B1 N1; have g1 := N1.gr; have b1 : Blk w1 B1 (dv (s) (n)) 23 := N1.blk; have l1 := N1.lo; have t1 := N1.hi; have z1 := g1.size; have gg := gg.trans g1; clear N1; obtain ⟨b1_0, b1_1⟩ := dcells b1) | (refine r_load_row 23 _ _ rfl _ _ _ b1 Tryd.underlying23 rfl Tryd.ldinfo rfl ?_) | (go_at_call 9; refine (szDesk_any s n _ hbs hbn).mono ?_; rintro e w2 ⟨rfl, g2⟩; rw [HZ.out]; have z2 := g2.size; have gg := gg.trans g2))
    go_ret
    exact ⟨rfl, gg⟩
  · have hs : s.size ≤ 1048576 := by omega
    have HZ := hidI (show szY s.size n.size = 1048576 - (s.size : Int) - n.size from if_neg hl)
    have hz0 : ¬ (1048576 - (s.size : Int) - n.size < 0) := by omega
    obtain ⟨ok, hok⟩ : ∃ ok, ok = dkB s n := ⟨_, rfl⟩
    have HOK := hidI hok
    clear hl hok
    go_enter Tryd.func3, Tryd.ntmps3
    go_wp2_with (first | (refine r_box 23 _ (dv (s) (n)) rfl rfl ?_; intro w1 B1 N1; have g1 := N1.gr; have b1 : Blk w1 B1 (dv (s) (n)) 23 := N1.blk; have l1 := N1.lo; have t1 := N1.hi; have z1 := g1.size; have gg := gg.trans g1; clear N1; obtain ⟨b1_0, b1_1⟩ := dcells b1) | (refine r_load_row 23 _ _ rfl _ _ _ b1 Tryd.underlying23 rfl Tryd.ldinfo rfl ?_) | (go_at_call 9; refine (szDesk_any s n _ hbs hbn).mono ?_; rintro e w2 ⟨rfl, g2⟩; rw [HZ.out]; have z2 := g2.size; have b1 := g2.blk b1; have gg := gg.trans g2) | (go_at_call 11; refine (toDesk_any s n _).mono ?_; rintro e w3 ⟨rfl, g3⟩; have gg := gg.trans g3; have b1 := g3.blk b1) | (go_at_call 10; refine (sIsDesk s n _ hs).mono ?_; rintro e w4 ⟨rfl, g4⟩; rw [← HOK.out]; have z4 := g4.size; have b1 := g4.blk b1; have gg := gg.trans g4) | (go_at_call 12; refine (iIsDesk s n _ (gg.ml hm) hs).mono ?_; rintro e w5 ⟨rfl, g5⟩; rw [← HOK.out]; have z5 := g5.size; have b1 := g5.blk b1; have gg := gg.trans g5))
    go_ret
    exact ⟨rfl, gg⟩
end Go.Proofs.YtdebiobhmpoiiaaDoor
