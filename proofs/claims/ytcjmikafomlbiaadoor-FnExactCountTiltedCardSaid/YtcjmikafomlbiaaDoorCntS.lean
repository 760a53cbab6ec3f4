/-
  How many still trays have so many balls, in the model; the laws of CountStillWith and CountTilted.
-/
import Derived.Test.YtcjmikafomlbiaaDoorCntW
namespace Go.Proofs.YtcjmikafomlbiaaDoor
open Go.RowKit
def RetDi (T : TypeId) (l : List UInt8) (dir : ByteArray) (b : Int) (w : World) (e : Ending) (w' : World) : Prop :=
  Gr w w' ∧ ((slOk l dir b = false ∧ ∃ W H sl x, sl.oneCell' = true ∧ e = .returned (.tuple #[.agg (tg W H sl), .int .i64 x, .bool false])) ∨
    ∃ (g : Grid) (sl : Value) (n d : Nat), parse l = some g ∧ rdG l = g ∧ b = n ∧ n ≤ frN g ∧ d < 4 ∧ dS dir = ((d : Nat) : Int) ∧ slOk l dir b = true ∧ e = .returned (.tuple #[.agg (tg g.w g.h sl), .int .i64 d, .bool true]) ∧ w'.ownsRow w.heap.size T 1 sl g.c.length (cellsV g.c))
section
variable {P : Program} {w : World} {a : Act} {dst : Option Tmp} {ty : TypeId} {pos : String} {aft : Array Edge} {gd : Option (Nat × Bool)}
theorem e_geqN {T yt : TypeId} (x y : Operand) (m n : Int) (b : Bool) (hx : a.eval x = .int .i64 m) (hy : a.eval y = .int .i64 n) (hb : decide (n ≤ m) = b) :
    (execOp a.eval ⟨dst, .binOp .geq T x y yt, ty, pos, aft, gd⟩).run P w = .ok (.value (.bool b)) w := by
  subst hb
  unfold execOp
  simp [hx, hy, eqGuard, binOp, Op.intCmp]
end
set_option maxHeartbeats 4000000 in
set_option maxRecDepth 100000 in
theorem cnDir_any (s dir : ByteArray) (b : Int) (w : World) (hs : s.size ≤ 1048576) : Calls Tryd.prog 28 #[.string s, .string dir, .int .i64 b] w (RetDi 5 s.data.toList dir b w) := by
  have gg := Gr.refl w
  obtain ⟨D, hD⟩ : ∃ D, D = dS dir := ⟨_, rfl⟩
  have HD := hidI hD
  go_enter Tryd.func28, Tryd.ntmps28
  go_wp2_with (refine r_alloc (dst := some 6) 31 _ Tryd.tzero rfl ?_; intro w1 B1 N1; have g1 := N1.gr; have b1 : Blk w1 B1 (tg 0 0 (.slice none 0 0)) 31 := N1.blk; have l1 := N1.lo; have t1 := N1.hi; have z1 := g1.size; have gg := gg.trans g1; clear N1; obtain ⟨b1_0, b1_1, b1_2⟩ := tcells b1)
  refine (cnBare_any s _ hs).mono ?_
  rintro e w2 ⟨g2, ⟨hn, W0, H0, sl, hone, rfl⟩ | ⟨g, sl, hp, hg, hy, h0, rfl, hown⟩⟩
  · have HN := hidI (show slOk s.data.toList dir b = false from by unfold slOk rmOk; rw [hn]; rfl)
    have z2 := g2.size
    have b1 := g2.blk b1
    have gg := gg.trans g2
    have hown : w2.ownsRow w2.heap.size 5 1 (.slice none 0 0) 0 [] := World.ownsRow_nil _ _ _ _
    clear hn hD
    have hown0 := hown
    go_wp2_with (first | ((refine r_alloc (dst := some 9) 31 _ Tryd.tzero rfl ?_; intro w3 B3 N3; have g3 := N3.gr; have b3 : Blk w3 B3 (tg 0 0 (.slice none 0 0)) 31 := N3.blk; have l3 := N3.lo; have t3 := N3.hi; have z3 := g3.size; have b1 := g3.blk b1; obtain ⟨b1_0, b1_1, b1_2⟩ := tcells b1; have gg := gg.trans g3; clear N3; obtain ⟨b3_0, b3_1, b3_2⟩ := tcells b3); have hown := g3.row hown) | ((refine r_store_row 31 31 _ _ _ rfl (tg _ _ _) _ rfl b3 Tryd.tsize rfl (tg_one hone) rfl ?_; intro w4 u4 b3'; have z4 := u4.size; have gg := u4.gr gg (by omega); have b1 := u4.blk b1 (by omega); obtain ⟨b1_0, b1_1, b1_2⟩ := tcells b1; clear b3; have b3 := b3'; clear b3'; obtain ⟨b3_0, b3_1, b3_2⟩ := tcells b3); have hown := u4.row hown (own_new hown0 l3)) | ((go_at_call 24; refine (tiDir_any dir _).mono ?_; rintro e w5 ⟨rfl, g5⟩; rw [← HD.out]; have z5 := g5.size; have b1 := g5.blk b1; have b3 := g5.blk b3; have gg := gg.trans g5); have hown := g5.row hown))
    have gd := (Gr.refl w5).drew
    have b1 := gd.blk b1
    have b3 := gd.blk b3
    have hown := gd.row hown
    have gg := gg.trans gd
    have zd := gd.size
    have hB13 : B1 ≠ B3 := by omega
    have lo1 : w.heap.size ≤ B1 := by omega
    refine K_begin (fun w => Blk w B3 (tg W0 H0 sl) 31) 15 15 #[false, false, false, false, false, false, false, false, false, false, false, false, false, false, false] rfl (by kernel_rfl) (by kernel_rfl) ?_
    generalize w5.drew = wd at *
    refine K_take (v := .agg (tg W0 H0 sl)) 0 #[true, false, false, false, false, false, false, false, false, false, false, false, false, false, false] rfl (by kernel_rfl) (fun _ _ _ h => h) rfl (fun w hF => e_load_row 31 (.tmp 9) B3 _ _ _ rfl hF Tryd.underlying31 rfl Tryd.tinfo) (b3) ?_; simp only [Act.put, List.setIfInBounds_toArray, List.set_cons_succ, List.set_cons_zero]
    refine K_take (v := .int .i64 D) 1 #[true, true, false, false, false, false, false, false, false, false, false, false, false, false, false] rfl (by kernel_rfl) (fun _ _ _ h => h) rfl (fun _ _ => rfl) (b3) ?_; simp only [Act.put, List.setIfInBounds_toArray, List.set_cons_succ, List.set_cons_zero]
    refine K_take (v := .bool false) 2 #[true, true, true, false, false, false, false, false, false, false, false, false, false, false, false] rfl (by kernel_rfl) (fun _ _ _ h => h) rfl (fun _ _ => rfl) (b3) ?_; simp only [Act.put, List.setIfInBounds_toArray, List.set_cons_succ, List.set_cons_zero]
    refine K_take (v := .bool false) 3 #[true, true, true, true, false, false, false, false, false, false, false, false, false, false, false] rfl (by kernel_rfl) (fun _ _ _ h => h) rfl (fun _ _ => rfl) (b3) ?_; simp only [Act.put, List.setIfInBounds_toArray, List.set_cons_succ, List.set_cons_zero]
    refine K_skip 4 #[true, true, true, true, true, false, false, false, false, false, false, false, false, false, false] rfl (by kernel_rfl) (fun _ _ _ h => h) rfl (b3) ?_; simp only [Act.put, List.setIfInBounds_toArray, List.set_cons_succ, List.set_cons_zero]
    refine K_skip 5 #[true, true, true, true, true, true, false, false, false, false, false, false, false, false, false] rfl (by kernel_rfl) (fun _ _ _ h => h) rfl (b3) ?_; simp only [Act.put, List.setIfInBounds_toArray, List.set_cons_succ, List.set_cons_zero]
    refine K_take (v := .bool false) 6 #[true, true, true, true, true, true, true, false, false, false, false, false, false, false, false] rfl (by kernel_rfl) (fun _ _ _ h => h) rfl (fun _ _ => rfl) (b3) ?_; simp only [Act.put, List.setIfInBounds_toArray, List.set_cons_succ, List.set_cons_zero]
    refine K_take (v := .bool false) 7 #[true, true, true, true, true, true, true, true, false, false, false, false, false, false, false] rfl (by kernel_rfl) (fun _ _ _ h => h) rfl (fun _ _ => rfl) (b3) ?_; simp only [Act.put, List.setIfInBounds_toArray, List.set_cons_succ, List.set_cons_zero]
    refine K_skip 8 #[true, true, true, true, true, true, true, true, true, false, false, false, false, false, false] rfl (by kernel_rfl) (fun _ _ _ h => h) rfl (b3) ?_; simp only [Act.put, List.setIfInBounds_toArray, List.set_cons_succ, List.set_cons_zero]
    refine K_skip 9 #[true, true, true, true, true, true, true, true, true, true, false, false, false, false, false] rfl (by kernel_rfl) (fun _ _ _ h => h) rfl (b3) ?_; simp only [Act.put, List.setIfInBounds_toArray, List.set_cons_succ, List.set_cons_zero]
    refine K_skip 10 #[true, true, true, true, true, true, true, true, true, true, true, false, false, false, false] rfl (by kernel_rfl) (fun _ _ _ h => h) rfl (b3) ?_; simp only [Act.put, List.setIfInBounds_toArray, List.set_cons_succ, List.set_cons_zero]
    refine K_take (v := .bool false) 11 #[true, true, true, true, true, true, true, true, true, true, true, true, false, false, false] rfl (by kernel_rfl) (fun _ _ _ h => h) rfl (fun _ _ => rfl) (b3) ?_; simp only [Act.put, List.setIfInBounds_toArray, List.set_cons_succ, List.set_cons_zero]
    refine K_one 12 #[true, true, true, true, true, true, true, true, true, true, true, true, true, false, false] rfl (by kernel_rfl) ?_
    refine r_store_row 31 31 _ _ B1 rfl (tg W0 H0 sl) _ rfl b1 Tryd.tsize rfl (tg_one hone) rfl ?_
    intro w6 u6 b16
    simp only [Act.put]
    have b3 := u6.blk b3 (by omega)
    have hown := u6.row hown (own_ne hown b1 (by decide))
    refine ⟨fun _ => b3, ?_⟩
    refine K_one 13 #[true, true, true, true, true, true, true, true, true, true, true, true, true, true, false] rfl (by kernel_rfl) ?_
    refine r_val (.int .i64 D) rfl rfl ?_
    simp only [Act.put, List.setIfInBounds_toArray, List.set_cons_succ, List.set_cons_zero]
    refine ⟨fun _ => b3, ?_⟩
    refine K_one 14 #[true, true, true, true, true, true, true, true, true, true, true, true, true, true, true] rfl (by kernel_rfl) ?_
    refine r_val (.bool false) rfl rfl ?_
    simp only [Act.put, List.setIfInBounds_toArray, List.set_cons_succ, List.set_cons_zero]
    refine ⟨fun _ => b3, ?_⟩
    refine K_done' (by kernel_rfl) ?_
    go_wp2
    refine bodyPost_ret (results_row_two rfl _ _ _ _ _ _ rfl b16 Tryd.underlying31 rfl Tryd.tinfo) rfl ⟨u6.gr gg lo1, .inl ⟨HN.out, _, _, _, _, hone, rfl⟩⟩
  · have hone := own_one hown
    have gg := gg.trans g2
    have z2 := g2.size
    have b1 := g2.blk b1
    obtain ⟨W0, hW0⟩ : ∃ W0, W0 = (g.w : Int) := ⟨_, rfl⟩
    obtain ⟨H0, hH0⟩ : ∃ H0, H0 = (g.h : Int) := ⟨_, rfl⟩
    have HW := hidI hW0
    have HH := hidI hH0
    rw [← hW0, ← hH0]
    cases hd : dirOk dir
    · have HN := hidI (show slOk s.data.toList dir b = false from by unfold slOk; rw [hd, Bool.and_false])
      have hneg := dir_no hd
      rw [← hD] at hneg
      clear hp hg hy h0 hd hD hW0 hH0
      have hown0 := hown
      go_wp2_with (first | ((refine r_alloc (dst := some 9) 31 _ Tryd.tzero rfl ?_; intro w3 B3 N3; have g3 := N3.gr; have b3 : Blk w3 B3 (tg 0 0 (.slice none 0 0)) 31 := N3.blk; have l3 := N3.lo; have t3 := N3.hi; have z3 := g3.size; have b1 := g3.blk b1; obtain ⟨b1_0, b1_1, b1_2⟩ := tcells b1; have gg := gg.trans g3; clear N3; obtain ⟨b3_0, b3_1, b3_2⟩ := tcells b3); have hown := g3.row hown) | ((refine r_store_row 31 31 _ _ _ rfl (tg _ _ _) _ rfl b3 Tryd.tsize rfl (tg_one hone) rfl ?_; intro w4 u4 b3'; have z4 := u4.size; have gg := u4.gr gg (by omega); have b1 := u4.blk b1 (by omega); obtain ⟨b1_0, b1_1, b1_2⟩ := tcells b1; clear b3; have b3 := b3'; clear b3'; obtain ⟨b3_0, b3_1, b3_2⟩ := tcells b3); have hown := u4.row hown (own_new hown0 l3)) | ((go_at_call 24; refine (tiDir_any dir _).mono ?_; rintro e w5 ⟨rfl, g5⟩; rw [← HD.out]; have z5 := g5.size; have b1 := g5.blk b1; have b3 := g5.blk b3; have gg := gg.trans g5); have hown := g5.row hown))
      have gd := (Gr.refl w5).drew
      have b1 := gd.blk b1
      have b3 := gd.blk b3
      have hown := gd.row hown
      have gg := gg.trans gd
      have zd := gd.size
      have hB13 : B1 ≠ B3 := by omega
      have lo1 : w.heap.size ≤ B1 := by omega
      refine K_begin (fun w => Blk w B3 (tg W0 H0 sl) 31) 15 15 #[false, false, false, false, false, false, false, false, false, false, false, false, false, false, false] rfl (by kernel_rfl) (by kernel_rfl) ?_
      generalize w5.drew = wd at *
      refine K_take (v := .agg (tg W0 H0 sl)) 0 #[true, false, false, false, false, false, false, false, false, false, false, false, false, false, false] rfl (by kernel_rfl) (fun _ _ _ h => h) rfl (fun w hF => e_load_row 31 (.tmp 9) B3 _ _ _ rfl hF Tryd.underlying31 rfl Tryd.tinfo) (b3) ?_; simp only [Act.put, List.setIfInBounds_toArray, List.set_cons_succ, List.set_cons_zero]
      refine K_take (v := .int .i64 D) 1 #[true, true, false, false, false, false, false, false, false, false, false, false, false, false, false] rfl (by kernel_rfl) (fun _ _ _ h => h) rfl (fun _ _ => rfl) (b3) ?_; simp only [Act.put, List.setIfInBounds_toArray, List.set_cons_succ, List.set_cons_zero]
      refine K_take (v := .bool true) 2 #[true, true, true, false, false, false, false, false, false, false, false, false, false, false, false] rfl (by kernel_rfl) (fun _ _ _ h => h) rfl (fun _ _ => rfl) (b3) ?_; simp only [Act.put, List.setIfInBounds_toArray, List.set_cons_succ, List.set_cons_zero]
      refine K_take (v := .bool true) 3 #[true, true, true, true, false, false, false, false, false, false, false, false, false, false, false] rfl (by kernel_rfl) (fun _ _ _ h => h) rfl (fun _ _ => rfl) (b3) ?_; simp only [Act.put, List.setIfInBounds_toArray, List.set_cons_succ, List.set_cons_zero]
      refine K_take (v := .int .i64 D) 4 #[true, true, true, true, true, false, false, false, false, false, false, false, false, false, false] rfl (by kernel_rfl) (fun _ _ _ h => h) rfl (fun _ _ => rfl) (b3) ?_; simp only [Act.put, List.setIfInBounds_toArray, List.set_cons_succ, List.set_cons_zero]
      refine K_take (v := .bool false) 5 #[true, true, true, true, true, true, false, false, false, false, false, false, false, false, false] rfl (by kernel_rfl) (fun _ _ _ h => h) rfl (fun w hF => e_geqN _ _ D 0 false rfl rfl (decide_eq_false (by omega))) (b3) ?_; simp only [Act.put, List.setIfInBounds_toArray, List.set_cons_succ, List.set_cons_zero]
      refine K_take (v := .bool false) 6 #[true, true, true, true, true, true, true, false, false, false, false, false, false, false, false] rfl (by kernel_rfl) (fun _ _ _ h => h) rfl (fun _ _ => rfl) (b3) ?_; simp only [Act.put, List.setIfInBounds_toArray, List.set_cons_succ, List.set_cons_zero]
      refine K_take (v := .bool false) 7 #[true, true, true, true, true, true, true, true, false, false, false, false, false, false, false] rfl (by kernel_rfl) (fun _ _ _ h => h) rfl (fun _ _ => rfl) (b3) ?_; simp only [Act.put, List.setIfInBounds_toArray, List.set_cons_succ, List.set_cons_zero]
      refine K_skip 8 #[true, true, true, true, true, true, true, true, true, false, false, false, false, false, false] rfl (by kernel_rfl) (fun _ _ _ h => h) rfl (b3) ?_; simp only [Act.put, List.setIfInBounds_toArray, List.set_cons_succ, List.set_cons_zero]
      refine K_skip 9 #[true, true, true, true, true, true, true, true, true, true, false, false, false, false, false] rfl (by kernel_rfl) (fun _ _ _ h => h) rfl (b3) ?_; simp only [Act.put, List.setIfInBounds_toArray, List.set_cons_succ, List.set_cons_zero]
      refine K_skip 10 #[true, true, true, true, true, true, true, true, true, true, true, false, false, false, false] rfl (by kernel_rfl) (fun _ _ _ h => h) rfl (b3) ?_; simp only [Act.put, List.setIfInBounds_toArray, List.set_cons_succ, List.set_cons_zero]
      refine K_take (v := .bool false) 11 #[true, true, true, true, true, true, true, true, true, true, true, true, false, false, false] rfl (by kernel_rfl) (fun _ _ _ h => h) rfl (fun _ _ => rfl) (b3) ?_; simp only [Act.put, List.setIfInBounds_toArray, List.set_cons_succ, List.set_cons_zero]
      refine K_one 12 #[true, true, true, true, true, true, true, true, true, true, true, true, true, false, false] rfl (by kernel_rfl) ?_
      refine r_store_row 31 31 _ _ B1 rfl (tg W0 H0 sl) _ rfl b1 Tryd.tsize rfl (tg_one hone) rfl ?_
      intro w6 u6 b16
      simp only [Act.put]
      have b3 := u6.blk b3 (by omega)
      have hown := u6.row hown (own_ne hown b1 (by decide))
      refine ⟨fun _ => b3, ?_⟩
      refine K_one 13 #[true, true, true, true, true, true, true, true, true, true, true, true, true, true, false] rfl (by kernel_rfl) ?_
      refine r_val (.int .i64 D) rfl rfl ?_
      simp only [Act.put, List.setIfInBounds_toArray, List.set_cons_succ, List.set_cons_zero]
      refine ⟨fun _ => b3, ?_⟩
      refine K_one 14 #[true, true, true, true, true, true, true, true, true, true, true, true, true, true, true] rfl (by kernel_rfl) ?_
      refine r_val (.bool false) rfl rfl ?_
      simp only [Act.put, List.setIfInBounds_toArray, List.set_cons_succ, List.set_cons_zero]
      refine ⟨fun _ => b3, ?_⟩
      refine K_done' (by kernel_rfl) ?_
      go_wp2
      refine bodyPost_ret (results_row_two rfl _ _ _ _ _ _ rfl b16 Tryd.underlying31 rfl Tryd.tinfo) rfl ⟨u6.gr gg lo1, .inl ⟨HN.out, _, _, _, _, hone, rfl⟩⟩
    · obtain ⟨d, h4, e1, e2⟩ := dir_yes hd
      have hDd : D = (d : Int) := hD.trans e2
      subst hDd
      obtain ⟨OK, hOK⟩ : ∃ OK, OK = btw b 0 (frN g) := ⟨_, rfl⟩
      have HSL := hidI (show slOk s.data.toList dir b = OK from by unfold slOk rmOk; rw [hy, hg, hd, hOK, Bool.true_and, Bool.and_true])
      have HL1 := hidI (fun w => show Calls Tryd.prog 19 #[.int .i64 b, .int .i64 0, .int .i64 (frN g : Nat)] w fun e w' => e = .returned (.bool OK) ∧ Gr w w' from (l1In_any b 0 (frN g : Nat) w).mono fun e w' ⟨h1, h2⟩ => ⟨by rw [h1, hOK], h2 ▸ Gr.refl _⟩)
      have HP := hidI hp
      have HG := hidI hg
      have HOK := hidI hOK
      obtain ⟨F, hF⟩ : ∃ F, F = frN g := ⟨_, rfl⟩
      have HF := hidI hF
      rw [← hF] at HL1 ⊢
      clear hp hg hy h0 hd hD e1 e2 hOK hF hW0 hH0
      have hown0 := hown
      go_wp2_with (first | ((refine r_alloc (dst := some 9) 31 _ Tryd.tzero rfl ?_; intro w3 B3 N3; have g3 := N3.gr; have b3 : Blk w3 B3 (tg 0 0 (.slice none 0 0)) 31 := N3.blk; have l3 := N3.lo; have t3 := N3.hi; have z3 := g3.size; have b1 := g3.blk b1; obtain ⟨b1_0, b1_1, b1_2⟩ := tcells b1; have gg := gg.trans g3; clear N3; obtain ⟨b3_0, b3_1, b3_2⟩ := tcells b3); have hown := g3.row hown) | ((refine r_store_row 31 31 _ _ _ rfl (tg _ _ _) _ rfl b3 Tryd.tsize rfl (tg_one hone) rfl ?_; intro w4 u4 b3'; have z4 := u4.size; have gg := u4.gr gg (by omega); have b1 := u4.blk b1 (by omega); obtain ⟨b1_0, b1_1, b1_2⟩ := tcells b1; clear b3; have b3 := b3'; clear b3'; obtain ⟨b3_0, b3_1, b3_2⟩ := tcells b3); have hown := u4.row hown (own_new hown0 l3)) | ((go_at_call 24; refine (tiDir_any dir _).mono ?_; rintro e w5 ⟨rfl, g5⟩; rw [← HD.out]; have z5 := g5.size; have b1 := g5.blk b1; have b3 := g5.blk b3; have gg := gg.trans g5); have hown := g5.row hown))
      have gd := (Gr.refl w5).drew
      have b1 := gd.blk b1
      have b3 := gd.blk b3
      have hown := gd.row hown
      have gg := gg.trans gd
      have zd := gd.size
      have hB13 : B1 ≠ B3 := by omega
      have lo1 : w.heap.size ≤ B1 := by omega
      refine K_begin (fun w => Blk w B3 (tg W0 H0 sl) 31) 15 15 #[false, false, false, false, false, false, false, false, false, false, false, false, false, false, false] rfl (by kernel_rfl) (by kernel_rfl) ?_
      generalize w5.drew = wd at *
      refine K_take (v := .agg (tg W0 H0 sl)) 0 #[true, false, false, false, false, false, false, false, false, false, false, false, false, false, false] rfl (by kernel_rfl) (fun _ _ _ h => h) rfl (fun w hF => e_load_row 31 (.tmp 9) B3 _ _ _ rfl hF Tryd.underlying31 rfl Tryd.tinfo) (b3) ?_; simp only [Act.put, List.setIfInBounds_toArray, List.set_cons_succ, List.set_cons_zero]
      refine K_take (v := .int .i64 (d : Int)) 1 #[true, true, false, false, false, false, false, false, false, false, false, false, false, false, false] rfl (by kernel_rfl) (fun _ _ _ h => h) rfl (fun _ _ => rfl) (b3) ?_; simp only [Act.put, List.setIfInBounds_toArray, List.set_cons_succ, List.set_cons_zero]
      refine K_take (v := .bool true) 2 #[true, true, true, false, false, false, false, false, false, false, false, false, false, false, false] rfl (by kernel_rfl) (fun _ _ _ h => h) rfl (fun _ _ => rfl) (b3) ?_; simp only [Act.put, List.setIfInBounds_toArray, List.set_cons_succ, List.set_cons_zero]
      refine K_take (v := .bool true) 3 #[true, true, true, true, false, false, false, false, false, false, false, false, false, false, false] rfl (by kernel_rfl) (fun _ _ _ h => h) rfl (fun _ _ => rfl) (b3) ?_; simp only [Act.put, List.setIfInBounds_toArray, List.set_cons_succ, List.set_cons_zero]
      refine K_take (v := .int .i64 d) 4 #[true, true, true, true, true, false, false, false, false, false, false, false, false, false, false] rfl (by kernel_rfl) (fun _ _ _ h => h) rfl (fun _ _ => rfl) (b3) ?_; simp only [Act.put, List.setIfInBounds_toArray, List.set_cons_succ, List.set_cons_zero]
      refine K_take (v := .bool true) 5 #[true, true, true, true, true, true, false, false, false, false, false, false, false, false, false] rfl (by kernel_rfl) (fun _ _ _ h => h) rfl (fun w hF => e_geqN _ _ (d : Int) 0 true rfl rfl (decide_eq_true (by omega))) (b3) ?_; simp only [Act.put, List.setIfInBounds_toArray, List.set_cons_succ, List.set_cons_zero]
      refine K_take (v := .bool true) 6 #[true, true, true, true, true, true, true, false, false, false, false, false, false, false, false] rfl (by kernel_rfl) (fun _ _ _ h => h) rfl (fun _ _ => rfl) (b3) ?_; simp only [Act.put, List.setIfInBounds_toArray, List.set_cons_succ, List.set_cons_zero]
      refine K_take (v := .bool true) 7 #[true, true, true, true, true, true, true, true, false, false, false, false, false, false, false] rfl (by kernel_rfl) (fun _ _ _ h => h) rfl (fun _ _ => rfl) (b3) ?_; simp only [Act.put, List.setIfInBounds_toArray, List.set_cons_succ, List.set_cons_zero]
      refine K_take (v := .int .i64 b) 8 #[true, true, true, true, true, true, true, true, true, false, false, false, false, false, false] rfl (by kernel_rfl) (fun _ _ _ h => h) rfl (fun _ _ => rfl) (b3) ?_; simp only [Act.put, List.setIfInBounds_toArray, List.set_cons_succ, List.set_cons_zero]
      refine K_take (v := .int .i64 F) 9 #[true, true, true, true, true, true, true, true, true, true, false, false, false, false, false] rfl (by kernel_rfl) (fun _ _ _ h => h) rfl (fun _ _ => rfl) (b3) ?_; simp only [Act.put, List.setIfInBounds_toArray, List.set_cons_succ, List.set_cons_zero]
      refine K_one 10 #[true, true, true, true, true, true, true, true, true, true, true, false, false, false, false] rfl (by kernel_rfl) ?_
      refine r_call 19 [.tmp 29, .const (.int .i64 0), .tmp 30] _ [.int .i64 b, .int .i64 0, .int .i64 F] (.bool OK) (fun w' => Gr wd w') Tryd.call19 rfl rfl (HL1.out wd) ?_
      intro w7 g7
      have b1 := g7.blk b1
      have b3 := g7.blk b3
      have hown := g7.row hown
      have gg := gg.trans g7
      have z7 := g7.size
      simp only [Act.put, List.setIfInBounds_toArray, List.set_cons_succ, List.set_cons_zero]
      refine ⟨fun _ => b3, ?_⟩
      refine K_take (v := .bool OK) 11 #[true, true, true, true, true, true, true, true, true, true, true, true, false, false, false] rfl (by kernel_rfl) (fun _ _ _ h => h) rfl (fun _ _ => rfl) (b3) ?_; simp only [Act.put, List.setIfInBounds_toArray, List.set_cons_succ, List.set_cons_zero]
      refine K_one 12 #[true, true, true, true, true, true, true, true, true, true, true, true, true, false, false] rfl (by kernel_rfl) ?_
      refine r_store_row 31 31 _ _ B1 rfl (tg W0 H0 sl) _ rfl b1 Tryd.tsize rfl (tg_one hone) rfl ?_
      intro w6 u6 b16
      simp only [Act.put]
      have b3 := u6.blk b3 (by omega)
      have hown := u6.row hown (own_ne hown b1 (by decide))
      refine ⟨fun _ => b3, ?_⟩
      refine K_one 13 #[true, true, true, true, true, true, true, true, true, true, true, true, true, true, false] rfl (by kernel_rfl) ?_
      refine r_val (.int .i64 (d : Int)) rfl rfl ?_
      simp only [Act.put, List.setIfInBounds_toArray, List.set_cons_succ, List.set_cons_zero]
      refine ⟨fun _ => b3, ?_⟩
      refine K_one 14 #[true, true, true, true, true, true, true, true, true, true, true, true, true, true, true] rfl (by kernel_rfl) ?_
      refine r_val (.bool OK) rfl rfl ?_
      simp only [Act.put, List.setIfInBounds_toArray, List.set_cons_succ, List.set_cons_zero]
      refine ⟨fun _ => b3, ?_⟩
      refine K_done' (by kernel_rfl) ?_
      go_wp2
      cases hok : OK
      · rw [hok] at HSL
        refine bodyPost_ret (results_row_two rfl _ _ _ _ _ _ rfl b16 Tryd.underlying31 rfl Tryd.tinfo) rfl ⟨u6.gr gg lo1, .inl ⟨HSL.out, _, _, _, _, hone, rfl⟩⟩
      · rw [hok] at HSL
        have hb := HOK.out
        rw [hok] at hb
        unfold btw at hb
        have hb := hb.symm
        rw [Bool.and_eq_true, decide_eq_true_eq, decide_eq_true_eq] at hb
        refine bodyPost_ret (results_row_two rfl _ _ _ _ _ _ rfl b16 Tryd.underlying31 rfl Tryd.tinfo) rfl ⟨u6.gr gg lo1, .inr ⟨g, sl, b.toNat, d, HP.out, HG.out, by omega, by omega, h4, HD.out.symm, HSL.out, by rw [HW.out, HH.out]; rfl, ?_⟩⟩
        exact own_up hown (by omega)
section
variable {P : Program} {w : World} {a : Act} {dst : Option Tmp} {ty : TypeId} {pos : String} {aft : Array Edge} {gd : Option (Nat × Bool)}
theorem e_leqN {T yt : TypeId} (x y : Operand) (m n : Int) (b : Bool) (hx : a.eval x = .int .i64 m) (hy : a.eval y = .int .i64 n) (hb : decide (m ≤ n) = b) :
    (execOp a.eval ⟨dst, .binOp .leq T x y yt, ty, pos, aft, gd⟩).run P w = .ok (.value (.bool b)) w := by
  subst hb
  unfold execOp
  simp [hx, hy, eqGuard, binOp, Op.intCmp]
variable {ops : Array Oper} {rest : List Oper} {Q : Exit → Act → World → Prop}
theorem r_leqN {T yt : TypeId} (x y : Operand) (m n : Int) (b : Bool) (hx : a.eval x = .int .i64 m) (hy : a.eval y = .int .i64 n) (hb : decide (m ≤ n) = b)
    (hgd : Region.wanted ⟨dst, .binOp .leq T x y yt, ty, pos, aft, gd⟩ (yielded ops a.tmps) = true) (h : wpList P ops Q rest (a.put dst (.bool b)) w) : wpList P ops Q (⟨dst, .binOp .leq T x y yt, ty, pos, aft, gd⟩ :: rest) a w :=
  r_val (.bool b) (e_leqN x y m n b hx hy hb) hgd h
theorem r_addwN {T yt : TypeId} (x y : Operand) (m n : Int) (hx : a.eval x = .int .i64 m) (hy : a.eval y = .int .i64 n)
    (hgd : Region.wanted ⟨dst, .binOp .add T x y yt, ty, pos, aft, gd⟩ (yielded ops a.tmps) = true) (h : wpList P ops Q rest (a.put dst (.int .i64 (wrap64 (m + n)))) w) : wpList P ops Q (⟨dst, .binOp .add T x y yt, ty, pos, aft, gd⟩ :: rest) a w :=
  r_val _ (e_addw x y m n hx hy) hgd h
end
set_option maxHeartbeats 4000000 in
set_option maxRecDepth 100000 in
theorem cnStillWith_any (g : Grid) (base d n G0 cap : Nat) (w : World) (hc : Cel g) (hl : 0 < g.c.length) (h4 : d < 4) (hn36 : n ≤ 36) (hown : w.ownsRow base 5 1 (.slice (some ⟨G0, 0, none⟩) g.c.length cap) g.c.length (cellsV g.c)) :
    Calls Tryd.prog 29 #[.agg (tg g.w g.h (.slice (some ⟨G0, 0, none⟩) g.c.length cap)), .int .i64 d, .int .i64 n] w (Ret (.int .i64 (wrap64 ((swS (lensL (strL g.w g.h g.c d)) (strL g.w g.h g.c d).length n : Nat) : Int))) w) := by
  have gg := Gr.refl w
  have w7 := hc.w7
  have h7 := hc.h7
  have h36 : g.c.length ≤ 36 := by have := hc.len; have := hc.n36; omega
  have hsm := (hc.strs h4).small
  have HS7 := hidI (fun st hst => ((hc.strs h4).len7 st hst))
  have HST := hidI (fun w (o : w.ownsRow base 5 1 (.slice (some ⟨G0, 0, none⟩) g.c.length cap) g.c.length (cellsV g.c)) => tiStretches_any g.w g.h base d g.c G0 cap w h4 w7 h7 h36 hc.len hc.cells o)
  obtain ⟨L, hL⟩ : ∃ L, L = strL g.w g.h g.c d := ⟨_, rfl⟩
  rw [← hL] at hsm HST HS7 ⊢
  obtain ⟨m, hm1⟩ : ∃ m, m = n + 1 := ⟨_, rfl⟩
  have HM := hidI (show (n : Int) + 1 = (m : Int) by omega)
  have HMN := hidI hm1
  have hm37 : m ≤ 37 := by omega
  have hnm : n < m := by omega
  have h0m : 0 < m := by omega
  have hmn : m ≤ n + 1 := by omega
  have HI := hidI (wr_init (lensL L) m)
  have n36 := hc.n36
  clear hc hL hm1
  go_enter Tryd.func29, Tryd.ntmps29
  go_wp2_with (first | (refine r_box 31 _ (tg (g.w) (g.h) (.slice (some ⟨G0, 0, none⟩) g.c.length cap)) rfl rfl ?_; intro w1 B1 N1; have g1 := N1.gr; have b1 : Blk w1 B1 (tg (g.w) (g.h) (.slice (some ⟨G0, 0, none⟩) g.c.length cap)) 31 := N1.blk; have l1 := N1.lo; have t1 := N1.hi; have z1 := g1.size; have gg := gg.trans g1; clear N1; obtain ⟨b1_0, b1_1, b1_2⟩ := tcells b1) | (refine r_addI _ _ (n : Int) 1 (m : Int) rfl rfl HM.out (by omega) rfl ?_) | (refine r_make 45 3 _ _ _ Tryd.intsI (.tmp 15) (.tmp 15) m rfl rfl (by omega) (by omega) (by omega) rfl ?_; intro w4 G N4; have row := own_zerosW N4 (by omega); have g4 := N4.gr; have b1 := g4.blk b1; have loG := N4.lo; have hiG := N4.hi; have z4 := g4.size; have gg := gg.trans g4; clear N4) | (refine r_idx 45 _ _ (.slice (some ⟨G, 0, none⟩) m m) (.int .i64 0) _ rfl rfl (Tryd.nsixN0 G m m h0m _) rfl ?_) | (refine r_store_own 3 3 _ _ G 0 m m _ _ rfl (.int .i64 1) rfl row h0m Tryd.sizeOf3 rfl rfl ?_; intro w5 u5 row5; rw [HI.out] at row5; have b1 := u5.blk b1 (by omega); have gg := u5.gr gg (by omega); have z5 := u5.size) | (refine r_load_row 31 _ _ rfl _ _ _ b1 Tryd.underlying31 rfl Tryd.tinfo rfl ?_))
  have hown5 := u5.row (g4.row (g1.row hown)) (own_new hown (by omega))
  refine (HST.out _ hown5).mono ?_
  rintro e w6 ⟨g6, v6, vs, rfl, own, R⟩
  rw [zzz_length] at own
  obtain ⟨p6, n6, k6, rfl⟩ := own_slice own
  obtain rfl : n6 = L.length := own_len own
  have row := own_up (g6.row row5) (show w.heap.size ≤ w1.heap.size by omega)
  have gg := gg.trans g6
  have z6 := g6.size
  have lo6 : w.heap.size ≤ w6.heap.size := by omega
  clear hown5 row5 u5 g6
  go_wp2
  go_loopw [7, 23] (fun wv iv wr => ∃ k G' : Nat, k ≤ L.length ∧ iv = .int .i64 k ∧ wv = .slice (some ⟨G', 0, none⟩) m m ∧ wr.ownsRow w.heap.size 3 1 (.slice (some ⟨G', 0, none⟩) m m) m (intsV (wrI (swS (lensL L) k) m)) ∧ Gr w6 wr) (fun _ iv _ => L.length - (intOf iv).toNat)
  case atStart => exact ⟨0, G, Nat.zero_le _, rfl, rfl, row, Gr.refl _⟩
  case round =>
    obtain ⟨k, G', hk, rfl, rfl, row, gr⟩ := hrel
    by_cases hlt : k < L.length
    · obtain ⟨st, hst⟩ : ∃ st, L[k]? = some st := ⟨L[k], List.getElem?_eq_getElem hlt⟩
      obtain ⟨v, hv, ov⟩ := R.get hst
      have own := gr.row own
      have ov := gr.row ov
      obtain ⟨g1', c1', e1', -, -⟩ := own_shape own (by omega)
      cases e1'
      have hcv := own_val own k v hlt hv
      obtain ⟨hs1, hs7⟩ := HS7.out st (List.mem_of_getElem? hst)
      have HLG := hidI (lensL_get hst)
      obtain ⟨pv, nv, kv, rfl⟩ := own_slice ov
      obtain rfl : nv = st.length := own_len ov
      have hix := Tryd.ssix g1' L.length k6 k hlt
      obtain ⟨len, hlen⟩ : ∃ len, len = st.length := ⟨_, rfl⟩
      rw [← hlen] at hs1 hs7 HLG hcv
      clear hst hv ov own hlen
      have HZ := hidI (wrI_congr (f := fun _ => 0) (g := swT (lensL L) k 0 0) (n := m) (fun i _ => (swT_zero (lensL L) k i).symm))
      have zr := gr.size
      go_wp2_with (first | (refine r_addI _ _ (n : Int) 1 (m : Int) rfl rfl HM.out (by omega) rfl ?_) | (refine r_make 45 3 _ _ _ Tryd.intsI (.tmp 28) (.tmp 28) m rfl rfl (by omega) (by omega) (by omega) rfl ?_; intro w8 Gn N8; have nrow := own_zerosW N8 (by omega); rw [HZ.out] at nrow; have g8 := N8.gr; have loGn := N8.lo; have hiGn := N8.hi; have z8 := g8.size; clear N8))
      have hGG : G' ≠ Gn := by have := (row.lt G' rfl).2; omega
      have row := g8.row row
      have gr8 := gr.trans g8
      obtain ⟨Z, hZ⟩ : ∃ Z, Z = wr.heap.size := ⟨_, rfl⟩
      rw [← hZ] at nrow
      have hZ6 : w.heap.size ≤ Z := by omega
      have hGn6 : w6.heap.size ≤ Gn := by omega
      clear hcv hZ
      go_loopw [32] (fun av wi => ∃ a : Nat, a ≤ m ∧ av = .int .i64 a ∧ wi.ownsRow Z 3 1 (.slice (some ⟨Gn, 0, none⟩) m m) m (intsV (wrI (swT (lensL L) k a 0) m)) ∧ Upd Gn w8 wi) (fun av _ => m - (intOf av).toNat)
      case atStart => exact ⟨0, Nat.zero_le _, rfl, nrow, Upd.refl _ _⟩
      case round =>
        clear nrow
        obtain ⟨a, ha, rfl, nrow, uu⟩ := hrel
        by_cases hla : a < m
        · have rowA := uu.row row (fun h => by cases h; exact hGG rfl)
          have c1 := own_wr rowA hla
          obtain ⟨x1, hx1⟩ : ∃ x1, x1 = wrap64 ((swS (lensL L) k a : Nat) : Int) := ⟨_, rfl⟩
          have HX1 := hidI hx1
          rw [← hx1] at c1
          have han : a ≤ n := by omega
          clear rowA hx1
          go_wp2_with (refine r_idx 45 _ _ (.slice (some ⟨G', 0, none⟩) m m) (.int .i64 a) _ rfl rfl (Tryd.nsixN G' m m a hla _) rfl ?_)
          clear c1
          go_loopw [13] (fun rv wj => ∃ r : Nat, r ≤ len + 1 ∧ a + r ≤ m ∧ rv = .int .i64 r ∧ wj.ownsRow Z 3 1 (.slice (some ⟨Gn, 0, none⟩) m m) m (intsV (wrI (swT (lensL L) k a r) m)) ∧ Upd Gn w8 wj) (fun rv _ => len + 1 - (intOf rv).toNat)
          case atStart => exact ⟨0, Nat.zero_le _, by omega, rfl, nrow, uu⟩
          case round =>
            clear nrow uu
            obtain ⟨r, hr, har, rfl, nrow, uu⟩ := hrel
            obtain ⟨p, hp⟩ : ∃ p, p = a + r := ⟨_, rfl⟩
            have HP := hidI (show (a : Int) + (r : Int) = (p : Int) by omega)
            have hp37 : p ≤ 37 := by omega
            by_cases h1 : r ≤ len
            · by_cases h2 : p ≤ n
              · have hpm : p < m := by omega
                have c2 := own_wr nrow hpm
                have HSUM := hidI (show wrap64 (wrap64 ((swT (lensL L) k a r p : Nat) : Int) + x1) = wrap64 ((swT (lensL L) k a r (a + r) + swS (lensL L) k a : Nat) : Int) from by rw [HX1.out, hp]; exact wr_add _ _)
                have HSET := hidI (show (intsV (wrI (swT (lensL L) k a r) m)).set p (.int .i64 (wrap64 ((swT (lensL L) k a r (a + r) + swS (lensL L) k a : Nat) : Int))) = intsV (wrI (swT (lensL L) k a (r + 1)) m) from by
                  rw [wr_setV, hp]
                  congr 1
                  exact wrI_congr fun i _ => swT_step (lensL L) k a r i)
                obtain ⟨x2, hx2⟩ : ∃ x2, x2 = wrap64 ((swT (lensL L) k a r p : Nat) : Int) := ⟨_, rfl⟩
                rw [← hx2] at c2 HSUM
                have har' : a + (r + 1) ≤ m := by omega
                clear hx2 hp
                go_wp2_with (first | (refine r_leqN _ _ (r : Int) (len : Int) true rfl rfl (decide_eq_true (by omega)) rfl ?_) | (refine r_addI _ _ (a : Int) (r : Int) (p : Int) rfl rfl HP.out (by omega) rfl ?_) | (refine r_leqN _ _ (p : Int) (n : Int) true rfl rfl (decide_eq_true (by omega)) rfl ?_) | (refine r_idx 45 _ _ (.slice (some ⟨Gn, 0, none⟩) m m) (.int .i64 p) _ rfl rfl (Tryd.nsixN Gn m m p hpm _) rfl ?_) | (refine r_addwN _ _ x2 x1 rfl rfl rfl ?_) | (refine r_store_own 3 3 _ _ Gn p m m _ _ rfl (.int .i64 (wrap64 (x2 + x1))) rfl nrow hpm Tryd.sizeOf3 rfl rfl ?_; intro w9 u9 row9; rw [HSUM.out, HSET.out] at row9; have uu := uu.trans u9))
                go_roundw
                case rel => exact ⟨r + 1, by omega, har', by go_num, row9, uu⟩
                case measure => simp [intOf]; omega
              · have nrow : wr.ownsRow Z 3 1 (.slice (some ⟨Gn, 0, none⟩) m m) m (intsV (wrI (swT (lensL L) k (a + 1) 0) m)) := by
                  rw [← wrI_congr (fun i hi => swT_done (b := n) (.inr ⟨by rw [HLG.out]; exact h1, by omega⟩) i (by omega))]
                  exact nrow
                clear hp
                go_wp2_with (first | (refine r_leqN _ _ (r : Int) (len : Int) true rfl rfl (decide_eq_true (by omega)) rfl ?_) | (refine r_addI _ _ (a : Int) (r : Int) (p : Int) rfl rfl HP.out (by omega) rfl ?_) | (refine r_leqN _ _ (p : Int) (n : Int) false rfl rfl (decide_eq_false (by omega)) rfl ?_))
                go_roundw
                case rel => exact ⟨a + 1, by omega, by go_num, nrow, uu⟩
                case measure => simp [intOf]; omega
            · have nrow : wr.ownsRow Z 3 1 (.slice (some ⟨Gn, 0, none⟩) m m) m (intsV (wrI (swT (lensL L) k (a + 1) 0) m)) := by
                have hr1 : r = (lensL L).getD k 0 + 1 := by have := HLG.out; omega
                have e : wrI (swT (lensL L) k a r) m = wrI (swT (lensL L) k (a + 1) 0) m := wrI_congr (fun i hi => swT_done (m := r) (b := n) (.inl hr1) i (by omega))
                rw [← e]
                exact nrow
              clear hp
              go_wp2_with (first | (refine r_leqN _ _ (r : Int) (len : Int) false rfl rfl (decide_eq_false (by omega)) rfl ?_))
              go_roundw
              case rel => exact ⟨a + 1, by omega, by go_num, nrow, uu⟩
              case measure => simp [intOf]; omega
        · obtain rfl : a = m := by omega
          have nrow : wr.ownsRow Z 3 1 (.slice (some ⟨Gn, 0, none⟩) a a) a (intsV (wrI (swS (lensL L) (k + 1)) a)) := by
            have e : wrI (swT (lensL L) k a 0) a = wrI (swS (lensL L) (k + 1)) a := by
              have := HMN.out
              subst this
              exact wrI_congr (fun i hi => swT_last (lensL L) k n i hi)
            rw [← e]
            exact nrow
          clear hla
          go_wp2
          go_roundw
          case rel => exact ⟨k + 1, Gn, by omega, by go_num, rfl, own_up nrow hZ6, uu.gr gr8 hGn6⟩
          case measure => simp [intOf]; omega
    · obtain rfl : k = L.length := by omega
      have c1 := own_wr row hnm
      clear hlt
      go_wp2_with (refine r_idx 45 _ _ (.slice (some ⟨G', 0, none⟩) m m) (.int .i64 n) _ rfl rfl (Tryd.nsixN G' m m n hnm _) rfl ?_)
      go_ret
      exact ⟨rfl, gg.trans gr⟩
set_option maxHeartbeats 1000000 in
set_option maxRecDepth 100000 in
theorem sCountStillWith (s dir : ByteArray) (b : Int) (w : World) (hs : s.size ≤ 1048576) : Calls Tryd.prog 12 #[.string s, .string dir, .int .i64 b] w (Ret (.tuple #[.int .i64 (swV s.data.toList dir b), .bool (slOk s.data.toList dir b)]) w) := by
  have gg := Gr.refl w
  go_enter Tryd.func12, Tryd.ntmps12
  go_wp2_with fail
  refine (cnDir_any s dir b _ hs).mono ?_
  rintro e w1 ⟨g1, ⟨hn, W, H, sl, x, hone, rfl⟩ | ⟨g, sl, n, d, hp, hg, rfl, hnF, h4, e2, hy, rfl, hown⟩⟩
  · have HN := hidI hn
    have HV := hidI (swV_no hn)
    have gg := gg.trans g1
    have z1 := g1.size
    clear hn
    go_wp2_with (first | (refine r_alloc 31 _ Tryd.tzero rfl ?_; intro w2 B2 N2; have g2 := N2.gr; have b2 : Blk w2 B2 (tg 0 0 (.slice none 0 0)) 31 := N2.blk; have l2 := N2.lo; have t2 := N2.hi; have z2 := g2.size; have gg := gg.trans g2; clear N2; obtain ⟨b2_0, b2_1, b2_2⟩ := tcells b2) | (refine r_store_row 31 31 _ _ _ rfl (tg _ _ _) _ rfl b2 Tryd.tsize rfl (tg_one hone) rfl ?_; intro w3 u3 b2'; have z3 := u3.size; have gg := u3.gr gg (by omega); clear b2; have b2 := b2'; clear b2'; obtain ⟨b2_0, b2_1, b2_2⟩ := tcells b2))
    go_ret2
    exact ⟨fin_ibN HV.out.symm HN.out.symm, gg⟩
  · obtain ⟨hc, w1', h1', hl⟩ := cel_of hp
    have hF36 := frN_le hp
    have hn36 : n ≤ 36 := by omega
    have HY := hidI hy
    have HV := hidI (swV_yes hy hg e2)
    have hone := own_one hown
    have gg := gg.trans g1
    have z1 := g1.size
    obtain ⟨G, cap, rfl, -, -⟩ := own_shape hown hl
    have HC := hidI hc
    clear hp hg hy e2 hnF hF36 hc
    go_wp2_with (first | (refine r_alloc 31 _ Tryd.tzero rfl ?_; intro w2 B2 N2; have g2 := N2.gr; have b2 : Blk w2 B2 (tg 0 0 (.slice none 0 0)) 31 := N2.blk; have l2 := N2.lo; have t2 := N2.hi; have z2 := g2.size; have gg := gg.trans g2; clear N2; obtain ⟨b2_0, b2_1, b2_2⟩ := tcells b2) | (refine r_store_row 31 31 _ _ _ rfl (tg _ _ _) _ rfl b2 Tryd.tsize rfl (tg_one hone) rfl ?_; intro w3 u3 b2'; have z3 := u3.size; have gg := u3.gr gg (by omega); clear b2; have b2 := b2'; clear b2'; obtain ⟨b2_0, b2_1, b2_2⟩ := tcells b2) | (refine r_load_row 31 _ _ rfl _ _ _ b2 Tryd.underlying31 rfl Tryd.tinfo rfl ?_))
    have own0 := u3.row (g2.row hown) (own_new hown l2)
    go_wp2_with (go_at_call 29; refine (cnStillWith_any g _ d n G cap _ HC.out hl h4 hn36 own0).mono ?_; rintro e w5 ⟨rfl, g5⟩; have z5 := g5.size; have gg := gg.trans g5)
    go_ret2
    exact ⟨fin_ibN HV.out.symm HY.out.symm, gg⟩
set_option maxHeartbeats 1000000 in
set_option maxRecDepth 100000 in
theorem sCountTilted (s dir : ByteArray) (b : Int) (w : World) (hs : s.size ≤ 1048576) : Calls Tryd.prog 14 #[.string s, .string dir, .int .i64 b] w (Ret (.tuple #[.int .i64 (swV s.data.toList dir b), .bool (slOk s.data.toList dir b)]) w) := by
  have gg := Gr.refl w
  go_enter Tryd.func14, Tryd.ntmps14
  go_wp2_with fail
  refine (cnDir_any s dir b _ hs).mono ?_
  rintro e w1 ⟨g1, ⟨hn, W, H, sl, x, hone, rfl⟩ | ⟨g, sl, n, d, hp, hg, rfl, hnF, h4, e2, hy, rfl, hown⟩⟩
  · have HN := hidI hn
    have HV := hidI (swV_no hn)
    have gg := gg.trans g1
    have z1 := g1.size
    clear hn
    go_wp2_with (first | (refine r_alloc 31 _ Tryd.tzero rfl ?_; intro w2 B2 N2; have g2 := N2.gr; have b2 : Blk w2 B2 (tg 0 0 (.slice none 0 0)) 31 := N2.blk; have l2 := N2.lo; have t2 := N2.hi; have z2 := g2.size; have gg := gg.trans g2; clear N2; obtain ⟨b2_0, b2_1, b2_2⟩ := tcells b2) | (refine r_store_row 31 31 _ _ _ rfl (tg _ _ _) _ rfl b2 Tryd.tsize rfl (tg_one hone) rfl ?_; intro w3 u3 b2'; have z3 := u3.size; have gg := u3.gr gg (by omega); clear b2; have b2 := b2'; clear b2'; obtain ⟨b2_0, b2_1, b2_2⟩ := tcells b2))
    go_ret2
    exact ⟨fin_ibN HV.out.symm HN.out.symm, gg⟩
  · obtain ⟨hc, w1', h1', hl⟩ := cel_of hp
    have hF36 := frN_le hp
    have hn36 : n ≤ 36 := by omega
    have HY := hidI hy
    have HV := hidI (swV_yes hy hg e2)
    have hone := own_one hown
    have gg := gg.trans g1
    have z1 := g1.size
    obtain ⟨G, cap, rfl, -, -⟩ := own_shape hown hl
    have HC := hidI hc
    clear hp hg hy e2 hnF hF36 hc
    go_wp2_with (first | (refine r_alloc 31 _ Tryd.tzero rfl ?_; intro w2 B2 N2; have g2 := N2.gr; have b2 : Blk w2 B2 (tg 0 0 (.slice none 0 0)) 31 := N2.blk; have l2 := N2.lo; have t2 := N2.hi; have z2 := g2.size; have gg := gg.trans g2; clear N2; obtain ⟨b2_0, b2_1, b2_2⟩ := tcells b2) | (refine r_store_row 31 31 _ _ _ rfl (tg _ _ _) _ rfl b2 Tryd.tsize rfl (tg_one hone) rfl ?_; intro w3 u3 b2'; have z3 := u3.size; have gg := u3.gr gg (by omega); clear b2; have b2 := b2'; clear b2'; obtain ⟨b2_0, b2_1, b2_2⟩ := tcells b2) | (refine r_load_row 31 _ _ rfl _ _ _ b2 Tryd.underlying31 rfl Tryd.tinfo rfl ?_))
    have own0 := u3.row (g2.row hown) (own_new hown l2)
    go_wp2_with (go_at_call 29; refine (cnStillWith_any g _ d n G cap _ HC.out hl h4 hn36 own0).mono ?_; rintro e w5 ⟨rfl, g5⟩; have z5 := g5.size; have gg := gg.trans g5)
    go_ret2
    exact ⟨fin_ibN HV.out.symm HY.out.symm, gg⟩
set_option maxHeartbeats 1000000 in
theorem lawCountStillWith (s t : ByteArray) (b : Int) (w : World) (hm : ML w) : Calls Tryd.prog 5 #[.string s, .string t, .int .i64 b] w (Ret (.bool true) w) := by
  have gg := Gr.refl w
  by_cases hs : 1048576 < s.size
  · go_enter Tryd.func5, Tryd.ntmps5
    go_wp2
    go_ret
    exact ⟨rfl, gg⟩
  · have hs' : s.size ≤ 1048576 := by omega
    clear hs
    by_cases hc : 1048576 < t.size
    · go_enter Tryd.func5, Tryd.ntmps5
      go_wp2
      go_ret
      exact ⟨rfl, gg⟩
    · have hc' : t.size ≤ 1048576 := by omega
      clear hc
      go_enter Tryd.func5, Tryd.ntmps5
      go_wp2_with (first | (go_at_call 12; refine (sCountStillWith s t b _ hs').mono ?_; rintro e w1 ⟨rfl, g1⟩; have z1 := g1.size; have gg := gg.trans g1) | (go_at_call 13; refine (iCountStillWith s t b _ (gg.ml hm) hs').mono ?_; rintro e w2 ⟨rfl, g2⟩; have z2 := g2.size; have gg := gg.trans g2))
      go_ret
      exact ⟨rfl, gg⟩
set_option maxHeartbeats 1000000 in
theorem lawCountTilted (s t : ByteArray) (b : Int) (w : World) (hm : ML w) : Calls Tryd.prog 6 #[.string s, .string t, .int .i64 b] w (Ret (.bool true) w) := by
  have gg := Gr.refl w
  by_cases hs : 1048576 < s.size
  · go_enter Tryd.func6, Tryd.ntmps6
    go_wp2
    go_ret
    exact ⟨rfl, gg⟩
  · have hs' : s.size ≤ 1048576 := by omega
    clear hs
    by_cases hc : 1048576 < t.size
    · go_enter Tryd.func6, Tryd.ntmps6
      go_wp2
      go_ret
      exact ⟨rfl, gg⟩
    · have hc' : t.size ≤ 1048576 := by omega
      clear hc
      go_enter Tryd.func6, Tryd.ntmps6
      go_wp2_with (first | (go_at_call 14; refine (sCountTilted s t b _ hs').mono ?_; rintro e w1 ⟨rfl, g1⟩; have z1 := g1.size; have gg := gg.trans g1) | (go_at_call 15; refine (iCountTilted s t b _ (gg.ml hm) hs').mono ?_; rintro e w2 ⟨rfl, g2⟩; have z2 := g2.size; have gg := gg.trans g2))
      go_ret
      exact ⟨rfl, gg⟩
end Go.Proofs.YtcjmikafomlbiaaDoor
