/-
  Desks: their values, the laws' helpers; FirstDesk and IsDesk, both sides and the laws.
-/
import Derived.Test.YtdebiobhmpoiiaaBTy
import Derived.Test.YtdebiobhmpoiiaaBWd
namespace Go.Proofs.Ytdebiobhmpoiiaa
open Go.RowKit
/-- A desk as a value. -/
def dv (s t : ByteArray) : Array Value := #[.string s, .string t]
theorem dv_one (s t : ByteArray) : ∀ v ∈ (dv s t).toList, v.oneCell' = true := by
  intro v hv
  unfold dv at hv
  simp only [List.mem_cons, List.not_mem_nil, or_false] at hv
  rcases hv with rfl | rfl <;> rfl
theorem dcells {w : World} {B : Nat} {s t : ByteArray} {T : TypeId} (h : Blk w B (dv s t) T) : w.cell? ⟨B, 0, none⟩ = some (.string s) ∧ w.cell? ⟨B, 1, none⟩ = some (.string t) := ⟨h.cell 0, h.cell 1⟩
theorem Try.idzero (w : World) : (zeroValue 23).run Try.prog w = .ok (.agg (dv ByteArray.empty ByteArray.empty)) w := by kernel_rfl
theorem Try.idsize (w : World) : (sizeOf 23).run Try.prog w = .ok 2 w := by kernel_rfl
theorem Try.idinfo : (Try.prog.info? 23).map (·.size) = some 2 := by kernel_rfl
theorem Try.idbuild1 (s : ByteArray) (w : World) : (Instr.build 23 #[(0, .string s)]).run Try.prog w = .ok (.agg (dv s ByteArray.empty)) w := by kernel_rfl
theorem Try.idf0 (B : Nat) (w : World) : (Instr.fieldAt 23 (.pointer (some ⟨B, 0, none⟩)) 0).run Try.prog w = .ok (.pointer (some ⟨B, 0, none⟩)) w := by kernel_rfl
theorem Try.idf1 (B : Nat) (w : World) : (Instr.fieldAt 23 (.pointer (some ⟨B, 0, none⟩)) 1).run Try.prog w = .ok (.pointer (some ⟨B, 1, none⟩)) w := by kernel_rfl
/-- The text a.o/.#. -/
def tr1 : ByteArray := ⟨#[97, 46, 111, 47, 46, 35, 46]⟩
set_option maxHeartbeats 1000000 in
theorem iFirstDesk (w : World) : Calls Try.prog 6 #[] w (Ret (.agg (dv tr1 ByteArray.empty)) w) := by
  have gg := Gr.refl w
  go_enter Try.func6, Try.ntmps6
  go_wp2_with (first | (refine r_alloc (dst := some 0) 23 _ Try.idzero rfl ?_; intro w1 B1 N1; have g1 := N1.gr; have b1 : Blk w1 B1 (dv ByteArray.empty ByteArray.empty) 23 := N1.blk; have l1 := N1.lo; have t1 := N1.hi; have z1 := g1.size; have gg := gg.trans g1; clear N1; obtain ⟨b1_0, b1_1⟩ := dcells b1) | (refine r_build 23 [(0, .const (.string ⟨#[97, 46, 111, 47, 46, 35, 46]⟩))] [(0, .string (⟨#[97, 46, 111, 47, 46, 35, 46]⟩))] _ (Try.idbuild1 _ _) rfl rfl ?_) | (refine r_store_row 23 23 _ _ _ rfl (dv (⟨#[97, 46, 111, 47, 46, 35, 46]⟩) (ByteArray.empty)) _ rfl b1 Try.idsize rfl (dv_one _ _) rfl ?_; intro w2 u2 b1'; have z2 := u2.size; have gg := u2.gr gg (by omega); clear b1; have b1 := b1'; clear b1'; obtain ⟨b1_0, b1_1⟩ := dcells b1))
  refine bodyPost_ret (results_row rfl _ _ _ _ _ _ rfl b1 Try.underlying23 rfl Try.idinfo) rfl ?_
  exact ⟨rfl, gg⟩
set_option maxHeartbeats 1000000 in
theorem sFirstDesk (w : World) : Calls Try.prog 5 #[] w (Ret (.agg (dv tr1 ByteArray.empty)) w) := by
  have gg := Gr.refl w
  go_enter Try.func5, Try.ntmps5
  go_wp2_with (first | (refine r_alloc (dst := some 0) 23 _ Try.idzero rfl ?_; intro w1 B1 N1; have g1 := N1.gr; have b1 : Blk w1 B1 (dv ByteArray.empty ByteArray.empty) 23 := N1.blk; have l1 := N1.lo; have t1 := N1.hi; have z1 := g1.size; have gg := gg.trans g1; clear N1; obtain ⟨b1_0, b1_1⟩ := dcells b1) | (refine r_build 23 [(0, .const (.string ⟨#[97, 46, 111, 47, 46, 35, 46]⟩))] [(0, .string (⟨#[97, 46, 111, 47, 46, 35, 46]⟩))] _ (Try.idbuild1 _ _) rfl rfl ?_) | (refine r_store_row 23 23 _ _ _ rfl (dv (⟨#[97, 46, 111, 47, 46, 35, 46]⟩) (ByteArray.empty)) _ rfl b1 Try.idsize rfl (dv_one _ _) rfl ?_; intro w2 u2 b1'; have z2 := u2.size; have gg := u2.gr gg (by omega); clear b1; have b1 := b1'; clear b1'; obtain ⟨b1_0, b1_1⟩ := dcells b1))
  refine bodyPost_ret (results_row rfl _ _ _ _ _ _ rfl b1 Try.underlying23 rfl Try.idinfo) rfl ?_
  exact ⟨rfl, gg⟩
set_option maxHeartbeats 1000000 in
theorem eqDesk_same (s t : ByteArray) (w : World) : Calls Try.prog 7 #[.agg (dv s t), .agg (dv s t)] w (Ret (.bool true) w) := by
  have gg := Gr.refl w
  go_enter Try.func7, Try.ntmps7
  go_wp2_with (first | (refine r_box (dst := some 2) 23 _ (dv (s) (t)) rfl rfl ?_; intro w2 B2 N2; have g2 := N2.gr; have b2 : Blk w2 B2 (dv (s) (t)) 23 := N2.blk; have l2 := N2.lo; have t2 := N2.hi; have z2 := g2.size; have gg := gg.trans g2; clear N2; obtain ⟨b2_0, b2_1⟩ := dcells b2) | (refine r_box (dst := some 3) 23 _ (dv (s) (t)) rfl rfl ?_; intro w3 B3 N3; have g3 := N3.gr; have b3 : Blk w3 B3 (dv (s) (t)) 23 := N3.blk; have l3 := N3.lo; have t3 := N3.hi; have z3 := g3.size; have b2 := g3.blk b2; obtain ⟨b2_0, b2_1⟩ := dcells b2; have gg := gg.trans g3; clear N3; obtain ⟨b3_0, b3_1⟩ := dcells b3))
  go_ret
  exact ⟨rfl, gg⟩
set_option maxHeartbeats 1000000 in
theorem lawFirstDesk (w : World) : Calls Try.prog 3 #[] w (Ret (.bool true) w) := by
  have gg := Gr.refl w
  obtain ⟨T, hT⟩ : ∃ T, T = tr1 := ⟨_, rfl⟩
  have HT := hidI hT
  clear hT
  go_enter Try.func3, Try.ntmps3
  go_wp2_with (first | (go_at_call 5; refine (sFirstDesk _).mono ?_; rintro e w3 ⟨rfl, g3⟩; rw [← HT.out]; have z3 := g3.size; have gg := gg.trans g3) | (refine r_alloc (dst := some 1) 23 _ Try.idzero rfl ?_; intro w1 B1 N1; have g1 := N1.gr; have b1 : Blk w1 B1 (dv ByteArray.empty ByteArray.empty) 23 := N1.blk; have l1 := N1.lo; have t1 := N1.hi; have z1 := g1.size; have gg := gg.trans g1; clear N1; obtain ⟨b1_0, b1_1⟩ := dcells b1) | (refine r_store_row 23 23 _ _ _ rfl (dv (T) (ByteArray.empty)) _ rfl b1 Try.idsize rfl (dv_one _ _) rfl ?_; intro w5 u5 b1'; have z5 := u5.size; have gg := u5.gr gg (by omega); clear b1; have b1 := b1'; clear b1'; obtain ⟨b1_0, b1_1⟩ := dcells b1) | (go_at_call 6; refine (iFirstDesk _).mono ?_; rintro e w4 ⟨rfl, g4⟩; rw [← HT.out]; have z4 := g4.size; have b1 := g4.blk b1; obtain ⟨b1_0, b1_1⟩ := dcells b1; have gg := gg.trans g4) | (refine r_alloc (dst := some 2) 23 _ Try.idzero rfl ?_; intro w2 B2 N2; have g2 := N2.gr; have b2 : Blk w2 B2 (dv ByteArray.empty ByteArray.empty) 23 := N2.blk; have l2 := N2.lo; have t2 := N2.hi; have z2 := g2.size; have b1 := g2.blk b1; obtain ⟨b1_0, b1_1⟩ := dcells b1; have gg := gg.trans g2; clear N2; obtain ⟨b2_0, b2_1⟩ := dcells b2) | (refine r_store_row 23 23 _ _ _ rfl (dv (T) (ByteArray.empty)) _ rfl b2 Try.idsize rfl (dv_one _ _) rfl ?_; intro w6 u6 b2'; have z6 := u6.size; have gg := u6.gr gg (by omega); have b1 := u6.blk b1 (by omega); obtain ⟨b1_0, b1_1⟩ := dcells b1; clear b2; have b2 := b2'; clear b2'; obtain ⟨b2_0, b2_1⟩ := dcells b2) | (refine r_load_row 23 _ _ rfl _ _ _ b2 Try.underlying23 rfl Try.idinfo rfl ?_) | (refine r_load_row 23 _ _ rfl _ _ _ b1 Try.underlying23 rfl Try.idinfo rfl ?_) | (go_at_call 7; refine (eqDesk_same T ByteArray.empty _).mono ?_; rintro e w7 ⟨rfl, g7⟩; have z7 := g7.size; have gg := gg.trans g7))
  go_ret
  exact ⟨rfl, gg⟩
def szY (a b : Nat) : Int := if 1048576 < a + b then -1 else 1048576 - (a : Int) - b
end Go.Proofs.Ytdebiobhmpoiiaa
