/-
  What the model's functions that turn and mirror trays return.
-/
import Derived.Test.YthjkeohnjggmiaaDoorSpec1g
import Derived.Test.YthjkeohnjggmiaaDoorDraws2
import Derived.Test.YthjkeohnjggmiaaDoorMir
import Derived.Test.YthjkeohnjggmiaaDoorImpl1i
namespace Go.Proofs.YthjkeohnjggmiaaDoor
open Go.RowKit
theorem genC_succ (n : Nat) (f : Nat → UInt8) : genC (n + 1) f = genC n f ++ [f n] := by
  unfold genC
  rw [List.range_succ, List.map_append]
  rfl
theorem cellsV_append (c d : List UInt8) : cellsV c ++ cellsV d = cellsV (c ++ d) := by
  unfold cellsV; rw [List.map_append]
/-- The model's turned cells. -/
def fTu (W H : Nat) (c : List UInt8) (i : Nat) : UInt8 := at0 c ((H - 1 - i % H) * W + i / H)
def fMi (W : Nat) (c : List UInt8) (i : Nat) : UInt8 := at0 c (srcM W i)
theorem fTu_at (W H : Nat) (c : List UInt8) (x j : Nat) (hj : j < H) : fTu W H c (nn x H + j) = at0 c ((H - 1 - j) * W + x) := by
  unfold fTu nn
  rw [pair_mod hj, pair_div hj]
theorem fMi_at (W : Nat) (c : List UInt8) (y j : Nat) (hj : j < W) : fMi W c (nn y W + j) = at0 c (y * W + (W - 1 - j)) := by
  unfold fMi srcM nn
  rw [pair_mod hj, pair_div hj]
theorem Tryd.tbuild2 (x y : Int) (w : World) : (Instr.build 40 #[(0, .int .i64 x), (1, .int .i64 y)]).run Tryd.prog w = .ok (.agg (tg x y (.slice none 0 0))) w := by kernel_rfl
set_option maxHeartbeats 4000000 in
set_option maxRecDepth 100000 in
theorem tyTurn_any (W H base : Nat) (c : List UInt8) (G cap : Nat) (w : World) (hW1 : 1 ≤ W) (hH1 : 1 ≤ H) (hW : W ≤ 7) (hH : H ≤ 7) (h36 : nn W H ≤ 36) (hlen : c.length = nn W H) (hown : w.ownsRow base 5 1 (.slice (some ⟨G, 0, none⟩) c.length cap) c.length (cellsV c)) :
    Calls Tryd.prog 84 #[.agg (tg W H (.slice (some ⟨G, 0, none⟩) c.length cap))] w (RetG 5 H W (genC (nn W H) (fTu W H c)) w) := by
  have gg := Gr.refl w
  have hGlt := (hown.lt G rfl).2
  have HLEN := hidI hlen
  have hc36 : c.length ≤ 36 := by omega
  clear hlen
  go_enter Tryd.func84, Tryd.ntmps84
  go_wp2_with (first | (refine r_box 40 _ (tg (W) (H) (.slice (some ⟨G, 0, none⟩) c.length cap)) rfl rfl ?_; intro w1 B1 N1; have g1 := N1.gr; have b1 : Blk w1 B1 (tg (W) (H) (.slice (some ⟨G, 0, none⟩) c.length cap)) 40 := N1.blk; have l1 := N1.lo; have t1 := N1.hi; have z1 := g1.size; have gg := gg.trans g1; clear N1; obtain ⟨b1_0, b1_1, b1_2⟩ := tcells b1) | (refine r_alloc (dst := some 2) 40 _ Tryd.tzero rfl ?_; intro w2 B2 N2; have g2 := N2.gr; have b2 : Blk w2 B2 (tg 0 0 (.slice none 0 0)) 40 := N2.blk; have l2 := N2.lo; have t2 := N2.hi; have z2 := g2.size; have b1 := g2.blk b1; obtain ⟨b1_0, b1_1, b1_2⟩ := tcells b1; have gg := gg.trans g2; clear N2; obtain ⟨b2_0, b2_1, b2_2⟩ := tcells b2) | (refine r_build 40 [(0, .tmp 7), (1, .tmp 9)] [(0, .int .i64 H), (1, .int .i64 W)] _ (Tryd.tbuild2 _ _ _) rfl rfl ?_) | (refine r_alloc (dst := some 3) 40 _ Tryd.tzero rfl ?_; intro w3 B3 N3; have g3 := N3.gr; have b3 : Blk w3 B3 (tg 0 0 (.slice none 0 0)) 40 := N3.blk; have l3 := N3.lo; have t3 := N3.hi; have z3 := g3.size; have b1 := g3.blk b1; obtain ⟨b1_0, b1_1, b1_2⟩ := tcells b1; have b2 := g3.blk b2; have gg := gg.trans g3; clear N3; obtain ⟨b3_0, b3_1, b3_2⟩ := tcells b3) | (refine r_store_row 40 40 _ _ _ rfl (tg _ _ _) _ rfl b3 Tryd.tsize rfl (tg_one rfl) rfl ?_; intro w4 u4 b3'; have z4 := u4.size; have gg := u4.gr gg (by omega); have b1 := u4.blk b1 (by omega); obtain ⟨b1_0, b1_1, b1_2⟩ := tcells b1; have b2 := u4.blk b2 (by omega); clear b3; have b3 := b3'; clear b3'; obtain ⟨b3_0, b3_1, b3_2⟩ := tcells b3))
  have hW7 : (W : Int) ≤ 7 := by omega
  have hH7 : (H : Int) ≤ 7 := by omega
  have own0 : w4.ownsRow w.heap.size 5 1 (.slice none 0 0) 0 (cellsV (genC 0 (fTu W H c))) := World.ownsRow_nil _ _ _ _
  go_loopw [4, 5] (fun xv _ wr => ∃ (x : Nat) (sl : Value), xv = .int .i64 x ∧ x ≤ W ∧ Blk wr B1 (tg W H (.slice (some ⟨G, 0, none⟩) c.length cap)) 40 ∧ Blk wr B2 (tg 0 0 (.slice none 0 0)) 40 ∧ Blk wr B3 (tg H W sl) 40 ∧
      wr.ownsRow w.heap.size 5 1 sl (nn x H) (cellsV (genC (nn x H) (fTu W H c))) ∧ Gr w wr) (fun xv _ _ => W - (intOf xv).toNat)
  case atStart => exact ⟨0, _, rfl, Nat.zero_le _, b1, b2, b3, by rw [show nn 0 H = 0 from Nat.zero_mul _]; exact own0, gg⟩
  case round =>
    obtain ⟨x, sl, rfl, hx, b1, b2, b3, own, gg⟩ := hrel
    have hB12 : B1 < B2 := by omega
    have hB23 : B2 < B3 := by omega
    have lo1 : w.heap.size ≤ B1 := by omega
    obtain ⟨b1_0, b1_1, b1_2⟩ := tcells b1
    by_cases hlt : x < W
    · go_wp2
      go_loopw [5] (fun yv wi => ∃ (j : Nat) (sl : Value), j ≤ H ∧ yv = .int .i64 ((H : Int) - 1 - j) ∧ Blk wi B1 (tg W H (.slice (some ⟨G, 0, none⟩) c.length cap)) 40 ∧ Blk wi B2 (tg 0 0 (.slice none 0 0)) 40 ∧ Blk wi B3 (tg H W sl) 40 ∧
          wi.ownsRow w.heap.size 5 1 sl (nn x H + j) (cellsV (genC (nn x H + j) (fTu W H c))) ∧ Gr w wi) (fun yv _ => (intOf yv + 1).toNat)
      case atStart => exact ⟨0, sl, Nat.zero_le _, by congr 1; omega, b1, b2, b3, own, gg⟩
      case round =>
        obtain ⟨j, sl, hj, rfl, b1, b2, b3, own, gg⟩ := hrel
        by_cases hjl : j < H
        · obtain ⟨y, hy⟩ : ∃ y, y = H - 1 - j := ⟨_, rfl⟩
          have hyz : (H : Int) - 1 - (j : Int) = (y : Int) := by omega
          have hyN : y < H := by omega
          rw [hyz]
          have hidx : y * W + x < nn W H := pair_lt hlt hyN
          have hf : fTu W H c (nn x H + j) = at0 c (y * W + x) := by rw [fTu_at W H c x j hjl, ← hy]
          obtain ⟨f0, hf0⟩ : ∃ f0, f0 = y * W := ⟨_, rfl⟩
          rw [← hf0] at hidx hf
          have e1 : (y : Int) * (W : Int) = (f0 : Int) := by rw [hf0]; simp
          have hnx := nn_row (W := H) hlt
          rw [nn_comm H x, nn_comm H W] at hnx
          have hnA : nn W H ≤ 36 := by exact h36
          have hle : f0 + x < c.length := by rw [HLEN.out]; exact hidx
          have src := own_cell (gg.row hown) (f0 + x) hle rfl
          have HYZ := hidI hyz
          have HF := hidI hf
          clear hyz hy hf0 hidx hf
          go_wp2
          have gd := (Gr.refl wr).drew
          have b1 := gd.blk b1
          have b2 := gd.blk b2
          have b3 := gd.blk b3
          have own := gd.row own
          have src := gd.cell src
          have gg := gg.trans gd
          generalize hwd : wr.drew = wd at *
          obtain ⟨b1_0, b1_1, b1_2⟩ := tcells b1
          obtain ⟨b3_0, b3_1, b3_2⟩ := tcells b3
          have hFF := And.intro b3_2 (And.intro b1_2 (And.intro b1_0 src))
          have tB3 := b3.lt
          refine K_begin (fun w => w.cell? ⟨B3, 2, none⟩ = some sl ∧ w.cell? ⟨B1, 2, none⟩ = some (.slice (some ⟨G, 0, none⟩) c.length cap) ∧ w.cell? ⟨B1, 0, none⟩ = some (.int .i64 W) ∧ w.cell? ⟨G, f0 + x, none⟩ = some (.int .u8 (at0 c (f0 + x)).toNat)) 15 16 #[false, false, false, false, false, false, false, false, false, false, false, false, false, false, false, false] rfl (by kernel_rfl) (by kernel_rfl) ?_
          rw [hwd]
          skip
          refine K_take 0 #[true, false, false, false, false, false, false, false, false, false, false, false, false, false, false, false] rfl (by kernel_rfl) (fun _ _ _ h => h) rfl (fun w hF => e_val _ _ (Tryd.tf2 B3 _)) (hFF) ?_; simp only [Act.put, List.setIfInBounds_toArray, List.set_cons_succ, List.set_cons_zero]
          refine K_take 1 #[true, true, false, false, false, false, false, false, false, false, false, false, false, false, false, false] rfl (by kernel_rfl) (fun _ _ _ h => h) rfl (fun w hF => e_load 38 (.tmp 24) ⟨B3, 2, none⟩ sl rfl (Tryd.isAgg38 _) hF.1) (hFF) ?_; simp only [Act.put, List.setIfInBounds_toArray, List.set_cons_succ, List.set_cons_zero]
          refine K_take 2 #[true, true, true, false, false, false, false, false, false, false, false, false, false, false, false, false] rfl (by kernel_rfl) (fun _ _ _ h => h) rfl (fun w hF => e_val _ _ (Tryd.tf2 B1 _)) (hFF) ?_; simp only [Act.put, List.setIfInBounds_toArray, List.set_cons_succ, List.set_cons_zero]
          refine K_take 3 #[true, true, true, true, false, false, false, false, false, false, false, false, false, false, false, false] rfl (by kernel_rfl) (fun _ _ _ h => h) rfl (fun w hF => e_load 38 (.tmp 26) ⟨B1, 2, none⟩ (.slice (some ⟨G, 0, none⟩) c.length cap) rfl (Tryd.isAgg38 _) hF.2.1) (hFF) ?_; simp only [Act.put, List.setIfInBounds_toArray, List.set_cons_succ, List.set_cons_zero]
          refine K_take (v := .int .i64 y) 4 #[true, true, true, true, true, false, false, false, false, false, false, false, false, false, false, false] rfl (by kernel_rfl) (fun _ _ _ h => h) rfl (fun _ _ => rfl) (hFF) ?_; simp only [Act.put, List.setIfInBounds_toArray, List.set_cons_succ, List.set_cons_zero]
          refine K_take 5 #[true, true, true, true, true, true, false, false, false, false, false, false, false, false, false, false] rfl (by kernel_rfl) (fun _ _ _ h => h) rfl (fun w hF => e_val _ _ (Tryd.tf0 B1 _)) (hFF) ?_; simp only [Act.put, List.setIfInBounds_toArray, List.set_cons_succ, List.set_cons_zero]
          refine K_take 6 #[true, true, true, true, true, true, true, false, false, false, false, false, false, false, false, false] rfl (by kernel_rfl) (fun _ _ _ h => h) rfl (fun w hF => e_load 3 (.tmp 29) ⟨B1, 0, none⟩ (.int .i64 W) rfl (Tryd.isAgg3 _) hF.2.2.1) (hFF) ?_; simp only [Act.put, List.setIfInBounds_toArray, List.set_cons_succ, List.set_cons_zero]
          refine K_take 7 #[true, true, true, true, true, true, true, true, false, false, false, false, false, false, false, false] rfl (by kernel_rfl) (fun _ _ _ h => h) rfl (fun w hF => e_mul (.tmp 28) (.tmp 30) y W f0 rfl rfl e1 (by omega)) (hFF) ?_; simp only [Act.put, List.setIfInBounds_toArray, List.set_cons_succ, List.set_cons_zero]
          refine K_take (v := .int .i64 x) 8 #[true, true, true, true, true, true, true, true, true, false, false, false, false, false, false, false] rfl (by kernel_rfl) (fun _ _ _ h => h) rfl (fun _ _ => rfl) (hFF) ?_; simp only [Act.put, List.setIfInBounds_toArray, List.set_cons_succ, List.set_cons_zero]
          refine K_take 9 #[true, true, true, true, true, true, true, true, true, true, false, false, false, false, false, false] rfl (by kernel_rfl) (fun _ _ _ h => h) rfl (fun w hF => e_add (.tmp 31) (.tmp 32) f0 x ((f0 + x : Nat) : Int) rfl rfl (by omega) (by omega)) (hFF) ?_; simp only [Act.put, List.setIfInBounds_toArray, List.set_cons_succ, List.set_cons_zero]
          refine K_take 10 #[true, true, true, true, true, true, true, true, true, true, true, false, false, false, false, false] rfl (by kernel_rfl) (fun _ _ _ h => h) rfl (fun w hF => e_val _ _ (Tryd.six0 G c.length cap (f0 + x) hle _)) (hFF) ?_; simp only [Act.put, List.setIfInBounds_toArray, List.set_cons_succ, List.set_cons_zero]
          refine K_take 11 #[true, true, true, true, true, true, true, true, true, true, true, true, false, false, false, false] rfl (by kernel_rfl) (fun _ _ _ h => h) rfl (fun w hF => e_load 5 (.tmp 34) ⟨G, f0 + x, none⟩ (.int .u8 (at0 c (f0 + x)).toNat) rfl (Tryd.isAgg5 _) hF.2.2.2) (hFF) ?_; simp only [Act.put, List.setIfInBounds_toArray, List.set_cons_succ, List.set_cons_zero]
          refine K_one 12 #[true, true, true, true, true, true, true, true, true, true, true, true, true, false, false, false] rfl (by kernel_rfl) ?_
          refine r_slice1 38 5 (.tmp 35) (byteV (at0 c (f0 + x))) rfl (Tryd.bs1 _ _) rfl ?_
          intro w5 B5 N5
          simp only [Act.put, List.setIfInBounds_toArray, List.set_cons_succ, List.set_cons_zero]
          have g5 := N5.gr
          refine ⟨fun _ => ⟨g5.cell b3_2, g5.cell b1_2, g5.cell b1_0, g5.cell src⟩, ?_⟩
          have own5 := g5.row own
          have b15 := g5.blk b1
          have b25 := g5.blk b2
          have b35 := g5.blk b3
          have src5 := g5.cell src
          refine K_one 13 #[true, true, true, true, true, true, true, true, true, true, true, true, true, true, false, false] rfl (by kernel_rfl) ?_
          refine r_append (.tmp 25) (.tmp 36) 38 5 _ 1 1 w.heap.size Tryd.bytesI sl (nn x H + j) (cellsV (genC (nn x H + j) (fTu W H c))) rfl own5 ⟨B5, 0, none⟩ 1 1 [byteV (at0 c (f0 + x))] rfl rfl N5.cell1 (by intro u hu; simp at hu; subst hu; rfl) (by omega) (by decide) (by have := gg.size; have := g5.size; omega) rfl ?_
          intro sl' w6 own6 g6
          simp only [Act.put, List.setIfInBounds_toArray, List.set_cons_succ, List.set_cons_zero]
          have hne3 := own_ne own5 b35 (by decide)
          have hne2 := own_ne own5 b25 (by decide)
          have hne1 := own_ne own5 b15 (by decide)
          have b16 := g6.blk b15 hne1
          have b26 := g6.blk b25 hne2
          have b36 := g6.blk b35 hne3
          have gg6 := g6.gr (gg.trans g5) (own_gr own5 (Nat.le_refl _))
          have src6 : w6.cell? ⟨G, f0 + x, none⟩ = _ := own_cell (gg6.row hown) (f0 + x) hle rfl
          obtain ⟨c16_0, -, c16_2⟩ := tcells b16
          refine ⟨fun _ => ⟨(tcells b36).2.2, c16_2, c16_0, src6⟩, ?_⟩
          refine K_one 14 #[true, true, true, true, true, true, true, true, true, true, true, true, true, true, true, false] rfl (by kernel_rfl) ?_
          refine r_val (.pointer (some ⟨B3, 2, none⟩)) (e_val _ _ (Tryd.tf2 B3 _)) rfl ?_
          simp only [Act.put, List.setIfInBounds_toArray, List.set_cons_succ, List.set_cons_zero]
          refine ⟨fun _ => ⟨(tcells b36).2.2, c16_2, c16_0, src6⟩, ?_⟩
          refine K_one 15 #[true, true, true, true, true, true, true, true, true, true, true, true, true, true, true, true] rfl (by kernel_rfl) ?_
          refine r_store_cell 38 40 _ _ B3 2 rfl sl' rfl _ b36 (by show 2 < 3; decide) Tryd.sizeOf38 (own_one own6) rfl ?_
          intro w7 u7 b7'
          have b7 : Blk w7 B3 (tg H W sl') 40 := b7'
          simp only [Act.put]
          refine ⟨fun h => absurd rfl h, ?_⟩
          have tB36 := b36.lt
          have own7 := u7.row own6 (own_ne own6 b36 (by decide))
          refine K_done' (by kernel_rfl) ?_
          go_wp2
          go_roundw
          case rel => exact ⟨j + 1, sl', by omega, by (rw [← HYZ.out]; congr 1; omega), u7.blk b16 (by omega), u7.blk b26 (by omega), b7, by rw [← Nat.add_assoc, genC_succ, ← cellsV_append, HF.out]; exact own7, u7.gr gg6 (by omega)⟩
          case measure => simp [intOf]
        · obtain rfl : H = j := by omega
          have hneg : ¬ (0 : Int) ≤ (H : Int) - 1 - H := by omega
          have hnx : nn x H + H = nn (x + 1) H := by unfold nn; rw [Nat.succ_mul]
          rw [hnx] at own
          clear hjl hnx
          go_wp2
          go_roundw
          case rel => exact ⟨x + 1, sl, by go_num, by omega, b1, b2, b3, own, gg⟩
          case measure => simp [intOf]; omega
    · obtain rfl : W = x := by omega
      have lo2 : w.heap.size ≤ B2 := by omega
      have hne2 := own_ne own b2 (by decide)
      have hone := own_one own
      have hl : (genC (nn W H) (fTu W H c)).length = nn W H := genC_length _ _
      clear hlt
      go_wp2_with (first | (refine r_load_row 40 _ _ rfl _ _ _ b3 Tryd.underlying40 rfl Tryd.tinfo rfl ?_) | (refine r_store_row 40 40 _ _ B2 rfl (tg H W sl) _ rfl b2 Tryd.tsize rfl (tg_one hone) rfl ?_; intro w7 u7 b7))
      refine bodyPost_ret (results_row rfl _ _ _ _ _ _ rfl b7 Tryd.underlying40 rfl Tryd.tinfo) rfl ?_
      refine ⟨u7.gr gg lo2, sl, rfl, ?_⟩
      rw [hl]
      exact u7.row own hne2
set_option maxHeartbeats 4000000 in
set_option maxRecDepth 100000 in
theorem tyMirror_any (W H base : Nat) (c : List UInt8) (G cap : Nat) (w : World) (hW1 : 1 ≤ W) (hH1 : 1 ≤ H) (hW : W ≤ 7) (hH : H ≤ 7) (h36 : nn W H ≤ 36) (hlen : c.length = nn W H) (hown : w.ownsRow base 5 1 (.slice (some ⟨G, 0, none⟩) c.length cap) c.length (cellsV c)) :
    Calls Tryd.prog 85 #[.agg (tg W H (.slice (some ⟨G, 0, none⟩) c.length cap))] w (RetG 5 W H (genC (nn W H) (fMi W c)) w) := by
  have gg := Gr.refl w
  have hGlt := (hown.lt G rfl).2
  have HLEN := hidI hlen
  have hc36 : c.length ≤ 36 := by omega
  clear hlen
  go_enter Tryd.func85, Tryd.ntmps85
  go_wp2_with (first | (refine r_box 40 _ (tg (W) (H) (.slice (some ⟨G, 0, none⟩) c.length cap)) rfl rfl ?_; intro w1 B1 N1; have g1 := N1.gr; have b1 : Blk w1 B1 (tg (W) (H) (.slice (some ⟨G, 0, none⟩) c.length cap)) 40 := N1.blk; have l1 := N1.lo; have t1 := N1.hi; have z1 := g1.size; have gg := gg.trans g1; clear N1; obtain ⟨b1_0, b1_1, b1_2⟩ := tcells b1) | (refine r_alloc (dst := some 2) 40 _ Tryd.tzero rfl ?_; intro w2 B2 N2; have g2 := N2.gr; have b2 : Blk w2 B2 (tg 0 0 (.slice none 0 0)) 40 := N2.blk; have l2 := N2.lo; have t2 := N2.hi; have z2 := g2.size; have b1 := g2.blk b1; obtain ⟨b1_0, b1_1, b1_2⟩ := tcells b1; have gg := gg.trans g2; clear N2; obtain ⟨b2_0, b2_1, b2_2⟩ := tcells b2) | (refine r_build 40 [(0, .tmp 7), (1, .tmp 9)] [(0, .int .i64 W), (1, .int .i64 H)] _ (Tryd.tbuild2 _ _ _) rfl rfl ?_) | (refine r_alloc (dst := some 3) 40 _ Tryd.tzero rfl ?_; intro w3 B3 N3; have g3 := N3.gr; have b3 : Blk w3 B3 (tg 0 0 (.slice none 0 0)) 40 := N3.blk; have l3 := N3.lo; have t3 := N3.hi; have z3 := g3.size; have b1 := g3.blk b1; obtain ⟨b1_0, b1_1, b1_2⟩ := tcells b1; have b2 := g3.blk b2; have gg := gg.trans g3; clear N3; obtain ⟨b3_0, b3_1, b3_2⟩ := tcells b3) | (refine r_store_row 40 40 _ _ _ rfl (tg _ _ _) _ rfl b3 Tryd.tsize rfl (tg_one rfl) rfl ?_; intro w4 u4 b3'; have z4 := u4.size; have gg := u4.gr gg (by omega); have b1 := u4.blk b1 (by omega); obtain ⟨b1_0, b1_1, b1_2⟩ := tcells b1; have b2 := u4.blk b2 (by omega); clear b3; have b3 := b3'; clear b3'; obtain ⟨b3_0, b3_1, b3_2⟩ := tcells b3))
  have hW7 : (W : Int) ≤ 7 := by omega
  have hH7 : (H : Int) ≤ 7 := by omega
  have own0 : w4.ownsRow w.heap.size 5 1 (.slice none 0 0) 0 (cellsV (genC 0 (fMi W c))) := World.ownsRow_nil _ _ _ _
  go_loopw [4, 5] (fun xv _ wr => ∃ (x : Nat) (sl : Value), xv = .int .i64 x ∧ x ≤ H ∧ Blk wr B1 (tg W H (.slice (some ⟨G, 0, none⟩) c.length cap)) 40 ∧ Blk wr B2 (tg 0 0 (.slice none 0 0)) 40 ∧ Blk wr B3 (tg W H sl) 40 ∧
      wr.ownsRow w.heap.size 5 1 sl (nn x W) (cellsV (genC (nn x W) (fMi W c))) ∧ Gr w wr) (fun xv _ _ => H - (intOf xv).toNat)
  case atStart => exact ⟨0, _, rfl, Nat.zero_le _, b1, b2, b3, by rw [show nn 0 W = 0 from Nat.zero_mul _]; exact own0, gg⟩
  case round =>
    obtain ⟨x, sl, rfl, hx, b1, b2, b3, own, gg⟩ := hrel
    have hB12 : B1 < B2 := by omega
    have hB23 : B2 < B3 := by omega
    have lo1 : w.heap.size ≤ B1 := by omega
    obtain ⟨b1_0, b1_1, b1_2⟩ := tcells b1
    by_cases hlt : x < H
    · go_wp2
      go_loopw [5] (fun yv wi => ∃ (j : Nat) (sl : Value), j ≤ W ∧ yv = .int .i64 ((W : Int) - 1 - j) ∧ Blk wi B1 (tg W H (.slice (some ⟨G, 0, none⟩) c.length cap)) 40 ∧ Blk wi B2 (tg 0 0 (.slice none 0 0)) 40 ∧ Blk wi B3 (tg W H sl) 40 ∧
          wi.ownsRow w.heap.size 5 1 sl (nn x W + j) (cellsV (genC (nn x W + j) (fMi W c))) ∧ Gr w wi) (fun yv _ => (intOf yv + 1).toNat)
      case atStart => exact ⟨0, sl, Nat.zero_le _, by congr 1; omega, b1, b2, b3, own, gg⟩
      case round =>
        obtain ⟨j, sl, hj, rfl, b1, b2, b3, own, gg⟩ := hrel
        by_cases hjl : j < W
        · obtain ⟨y, hy⟩ : ∃ y, y = W - 1 - j := ⟨_, rfl⟩
          have hyz : (W : Int) - 1 - (j : Int) = (y : Int) := by omega
          have hyN : y < W := by omega
          rw [hyz]
          have hidx : x * W + y < nn W H := pair_lt hyN hlt
          have hf : fMi W c (nn x W + j) = at0 c (x * W + y) := by rw [fMi_at W c x j hjl, ← hy]
          obtain ⟨f0, hf0⟩ : ∃ f0, f0 = x * W := ⟨_, rfl⟩
          rw [← hf0] at hidx hf
          have e1 : (x : Int) * (W : Int) = (f0 : Int) := by rw [hf0]; simp
          have hnx := nn_row (W := W) hlt
          rw [nn_comm W x, nn_comm W H] at hnx
          have hnA : nn H W ≤ 36 := by rw [nn_comm]; exact h36
          have hle : f0 + y < c.length := by rw [HLEN.out]; exact hidx
          have src := own_cell (gg.row hown) (f0 + y) hle rfl
          have HYZ := hidI hyz
          have HF := hidI hf
          clear hyz hy hf0 hidx hf
          go_wp2
          have gd := (Gr.refl wr).drew
          have b1 := gd.blk b1
          have b2 := gd.blk b2
          have b3 := gd.blk b3
          have own := gd.row own
          have src := gd.cell src
          have gg := gg.trans gd
          generalize hwd : wr.drew = wd at *
          obtain ⟨b1_0, b1_1, b1_2⟩ := tcells b1
          obtain ⟨b3_0, b3_1, b3_2⟩ := tcells b3
          have hFF := And.intro b3_2 (And.intro b1_2 (And.intro b1_0 src))
          have tB3 := b3.lt
          refine K_begin (fun w => w.cell? ⟨B3, 2, none⟩ = some sl ∧ w.cell? ⟨B1, 2, none⟩ = some (.slice (some ⟨G, 0, none⟩) c.length cap) ∧ w.cell? ⟨B1, 0, none⟩ = some (.int .i64 W) ∧ w.cell? ⟨G, f0 + y, none⟩ = some (.int .u8 (at0 c (f0 + y)).toNat)) 15 16 #[false, false, false, false, false, false, false, false, false, false, false, false, false, false, false, false] rfl (by kernel_rfl) (by kernel_rfl) ?_
          rw [hwd]
          skip
          refine K_take 0 #[true, false, false, false, false, false, false, false, false, false, false, false, false, false, false, false] rfl (by kernel_rfl) (fun _ _ _ h => h) rfl (fun w hF => e_val _ _ (Tryd.tf2 B3 _)) (hFF) ?_; simp only [Act.put, List.setIfInBounds_toArray, List.set_cons_succ, List.set_cons_zero]
          refine K_take 1 #[true, true, false, false, false, false, false, false, false, false, false, false, false, false, false, false] rfl (by kernel_rfl) (fun _ _ _ h => h) rfl (fun w hF => e_load 38 (.tmp 24) ⟨B3, 2, none⟩ sl rfl (Tryd.isAgg38 _) hF.1) (hFF) ?_; simp only [Act.put, List.setIfInBounds_toArray, List.set_cons_succ, List.set_cons_zero]
          refine K_take 2 #[true, true, true, false, false, false, false, false, false, false, false, false, false, false, false, false] rfl (by kernel_rfl) (fun _ _ _ h => h) rfl (fun w hF => e_val _ _ (Tryd.tf2 B1 _)) (hFF) ?_; simp only [Act.put, List.setIfInBounds_toArray, List.set_cons_succ, List.set_cons_zero]
          refine K_take 3 #[true, true, true, true, false, false, false, false, false, false, false, false, false, false, false, false] rfl (by kernel_rfl) (fun _ _ _ h => h) rfl (fun w hF => e_load 38 (.tmp 26) ⟨B1, 2, none⟩ (.slice (some ⟨G, 0, none⟩) c.length cap) rfl (Tryd.isAgg38 _) hF.2.1) (hFF) ?_; simp only [Act.put, List.setIfInBounds_toArray, List.set_cons_succ, List.set_cons_zero]
          refine K_take (v := .int .i64 x) 4 #[true, true, true, true, true, false, false, false, false, false, false, false, false, false, false, false] rfl (by kernel_rfl) (fun _ _ _ h => h) rfl (fun _ _ => rfl) (hFF) ?_; simp only [Act.put, List.setIfInBounds_toArray, List.set_cons_succ, List.set_cons_zero]
          refine K_take 5 #[true, true, true, true, true, true, false, false, false, false, false, false, false, false, false, false] rfl (by kernel_rfl) (fun _ _ _ h => h) rfl (fun w hF => e_val _ _ (Tryd.tf0 B1 _)) (hFF) ?_; simp only [Act.put, List.setIfInBounds_toArray, List.set_cons_succ, List.set_cons_zero]
          refine K_take 6 #[true, true, true, true, true, true, true, false, false, false, false, false, false, false, false, false] rfl (by kernel_rfl) (fun _ _ _ h => h) rfl (fun w hF => e_load 3 (.tmp 29) ⟨B1, 0, none⟩ (.int .i64 W) rfl (Tryd.isAgg3 _) hF.2.2.1) (hFF) ?_; simp only [Act.put, List.setIfInBounds_toArray, List.set_cons_succ, List.set_cons_zero]
          refine K_take 7 #[true, true, true, true, true, true, true, true, false, false, false, false, false, false, false, false] rfl (by kernel_rfl) (fun _ _ _ h => h) rfl (fun w hF => e_mul (.tmp 28) (.tmp 30) x W f0 rfl rfl e1 (by omega)) (hFF) ?_; simp only [Act.put, List.setIfInBounds_toArray, List.set_cons_succ, List.set_cons_zero]
          refine K_take (v := .int .i64 y) 8 #[true, true, true, true, true, true, true, true, true, false, false, false, false, false, false, false] rfl (by kernel_rfl) (fun _ _ _ h => h) rfl (fun _ _ => rfl) (hFF) ?_; simp only [Act.put, List.setIfInBounds_toArray, List.set_cons_succ, List.set_cons_zero]
          refine K_take 9 #[true, true, true, true, true, true, true, true, true, true, false, false, false, false, false, false] rfl (by kernel_rfl) (fun _ _ _ h => h) rfl (fun w hF => e_add (.tmp 31) (.tmp 32) f0 y ((f0 + y : Nat) : Int) rfl rfl (by omega) (by omega)) (hFF) ?_; simp only [Act.put, List.setIfInBounds_toArray, List.set_cons_succ, List.set_cons_zero]
          refine K_take 10 #[true, true, true, true, true, true, true, true, true, true, true, false, false, false, false, false] rfl (by kernel_rfl) (fun _ _ _ h => h) rfl (fun w hF => e_val _ _ (Tryd.six0 G c.length cap (f0 + y) hle _)) (hFF) ?_; simp only [Act.put, List.setIfInBounds_toArray, List.set_cons_succ, List.set_cons_zero]
          refine K_take 11 #[true, true, true, true, true, true, true, true, true, true, true, true, false, false, false, false] rfl (by kernel_rfl) (fun _ _ _ h => h) rfl (fun w hF => e_load 5 (.tmp 34) ⟨G, f0 + y, none⟩ (.int .u8 (at0 c (f0 + y)).toNat) rfl (Tryd.isAgg5 _) hF.2.2.2) (hFF) ?_; simp only [Act.put, List.setIfInBounds_toArray, List.set_cons_succ, List.set_cons_zero]
          refine K_one 12 #[true, true, true, true, true, true, true, true, true, true, true, true, true, false, false, false] rfl (by kernel_rfl) ?_
          refine r_slice1 38 5 (.tmp 35) (byteV (at0 c (f0 + y))) rfl (Tryd.bs1 _ _) rfl ?_
          intro w5 B5 N5
          simp only [Act.put, List.setIfInBounds_toArray, List.set_cons_succ, List.set_cons_zero]
          have g5 := N5.gr
          refine ⟨fun _ => ⟨g5.cell b3_2, g5.cell b1_2, g5.cell b1_0, g5.cell src⟩, ?_⟩
          have own5 := g5.row own
          have b15 := g5.blk b1
          have b25 := g5.blk b2
          have b35 := g5.blk b3
          have src5 := g5.cell src
          refine K_one 13 #[true, true, true, true, true, true, true, true, true, true, true, true, true, true, false, false] rfl (by kernel_rfl) ?_
          refine r_append (.tmp 25) (.tmp 36) 38 5 _ 1 1 w.heap.size Tryd.bytesI sl (nn x W + j) (cellsV (genC (nn x W + j) (fMi W c))) rfl own5 ⟨B5, 0, none⟩ 1 1 [byteV (at0 c (f0 + y))] rfl rfl N5.cell1 (by intro u hu; simp at hu; subst hu; rfl) (by omega) (by decide) (by have := gg.size; have := g5.size; omega) rfl ?_
          intro sl' w6 own6 g6
          simp only [Act.put, List.setIfInBounds_toArray, List.set_cons_succ, List.set_cons_zero]
          have hne3 := own_ne own5 b35 (by decide)
          have hne2 := own_ne own5 b25 (by decide)
          have hne1 := own_ne own5 b15 (by decide)
          have b16 := g6.blk b15 hne1
          have b26 := g6.blk b25 hne2
          have b36 := g6.blk b35 hne3
          have gg6 := g6.gr (gg.trans g5) (own_gr own5 (Nat.le_refl _))
          have src6 : w6.cell? ⟨G, f0 + y, none⟩ = _ := own_cell (gg6.row hown) (f0 + y) hle rfl
          obtain ⟨c16_0, -, c16_2⟩ := tcells b16
          refine ⟨fun _ => ⟨(tcells b36).2.2, c16_2, c16_0, src6⟩, ?_⟩
          refine K_one 14 #[true, true, true, true, true, true, true, true, true, true, true, true, true, true, true, false] rfl (by kernel_rfl) ?_
          refine r_val (.pointer (some ⟨B3, 2, none⟩)) (e_val _ _ (Tryd.tf2 B3 _)) rfl ?_
          simp only [Act.put, List.setIfInBounds_toArray, List.set_cons_succ, List.set_cons_zero]
          refine ⟨fun _ => ⟨(tcells b36).2.2, c16_2, c16_0, src6⟩, ?_⟩
          refine K_one 15 #[true, true, true, true, true, true, true, true, true, true, true, true, true, true, true, true] rfl (by kernel_rfl) ?_
          refine r_store_cell 38 40 _ _ B3 2 rfl sl' rfl _ b36 (by show 2 < 3; decide) Tryd.sizeOf38 (own_one own6) rfl ?_
          intro w7 u7 b7'
          have b7 : Blk w7 B3 (tg W H sl') 40 := b7'
          simp only [Act.put]
          refine ⟨fun h => absurd rfl h, ?_⟩
          have tB36 := b36.lt
          have own7 := u7.row own6 (own_ne own6 b36 (by decide))
          refine K_done' (by kernel_rfl) ?_
          go_wp2
          go_roundw
          case rel => exact ⟨j + 1, sl', by omega, by (rw [← HYZ.out]; congr 1; omega), u7.blk b16 (by omega), u7.blk b26 (by omega), b7, by rw [← Nat.add_assoc, genC_succ, ← cellsV_append, HF.out]; exact own7, u7.gr gg6 (by omega)⟩
          case measure => simp [intOf]
        · obtain rfl : W = j := by omega
          have hneg : ¬ (0 : Int) ≤ (W : Int) - 1 - W := by omega
          have hnx : nn x W + W = nn (x + 1) W := by unfold nn; rw [Nat.succ_mul]
          rw [hnx] at own
          clear hjl hnx
          go_wp2
          go_roundw
          case rel => exact ⟨x + 1, sl, by go_num, by omega, b1, b2, b3, own, gg⟩
          case measure => simp [intOf]; omega
    · obtain rfl : H = x := by omega
      have lo2 : w.heap.size ≤ B2 := by omega
      have hne2 := own_ne own b2 (by decide)
      have hone := own_one own
      have hl : (genC (nn W H) (fMi W c)).length = nn W H := genC_length _ _
      clear hlt
      go_wp2_with (first | (refine r_load_row 40 _ _ rfl _ _ _ b3 Tryd.underlying40 rfl Tryd.tinfo rfl ?_) | (refine r_store_row 40 40 _ _ B2 rfl (tg W H sl) _ rfl b2 Tryd.tsize rfl (tg_one hone) rfl ?_; intro w7 u7 b7))
      refine bodyPost_ret (results_row rfl _ _ _ _ _ _ rfl b7 Tryd.underlying40 rfl Tryd.tinfo) rfl ?_
      refine ⟨u7.gr gg lo2, sl, rfl, ?_⟩
      rw [hl, nn_comm]
      exact u7.row own hne2
end Go.Proofs.YthjkeohnjggmiaaDoor
