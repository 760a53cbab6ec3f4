/-
  Forms: cells taken in the model, and the laws.
-/
import Derived.Test.YtagoipongdnegaaDoorFormU
import Derived.Test.YtagoipongdnegaaDoorFormX
import Derived.Test.YtagoipongdnegaaDoorFormZ
namespace Go.Proofs.YtagoipongdnegaaDoor
open Go.RowKit
theorem tkC_all {W H i : Nat} {c : List UInt8} (hA : foAll (c.set i 46) (nn W H) = true) : tkC W H c i = (decide (at0 c i = 111) && (isFo W H (c.set i 46) && canB W H (c.set i 46) i)) := by
  unfold tkC foG
  rw [hA, Bool.true_and, Bool.and_comm (canB W H (c.set i 46) i)]
set_option maxHeartbeats 4000000 in
set_option maxRecDepth 100000 in
theorem buTake_any (W H base G cap N i : Nat) (c : List UInt8) (w : World) (t : Ty W H N c) (hi : i < N) (hA : foAll (c.set i 46) N = true) (_hb : base ≤ w.heap.size)
    (hown : w.ownsRow base 5 1 (.slice (some ⟨G, 0, none⟩) N cap) N (cellsV c)) :
    Calls Tryd.prog 81 #[.agg (tg W H (.slice (some ⟨G, 0, none⟩) N cap)), .int .i64 i] w fun e w' => Gr w w' ∧ ∃ G2 cap2, e = .returned (.tuple #[.agg (tg W H (.slice (some ⟨G2, 0, none⟩) N cap2)), .bool (tkC W H c i)]) ∧ w'.ownsRow w.heap.size 5 1 (.slice (some ⟨G2, 0, none⟩) N cap2) N (cellsV (c.set i 46)) := by
  have gg := Gr.refl w
  have t2 : Ty W H N (c.set i 46) := ⟨t.w1, t.h1, t.w7, t.h7, t.hN, t.n36, by rw [List.length_set]; exact t.len⟩
  have HT := hidI t
  have HT2 := hidI t2
  have HK := hidI (tkC_all (W := W) (H := H) (c := c) (i := i) (by rw [← t.hN]; exact hA))
  have HCP := hidI (fun w (ho : w.ownsRow base 5 1 (.slice (some ⟨G, 0, none⟩) N cap) N (cellsV c)) => show Calls Tryd.prog 123 #[.agg (tg W H (.slice (some ⟨G, 0, none⟩) N cap))] w fun e w' => Gr w w' ∧ ∃ G2 cap2, e = .returned (.agg (tg W H (.slice (some ⟨G2, 0, none⟩) N cap2))) ∧ w.heap.size ≤ G2 ∧ w'.ownsRow w.heap.size 5 1 (.slice (some ⟨G2, 0, none⟩) N cap2) N (cellsV c) from by
    have hl := t.len
    have h36 := t.n36
    have hp := t.pos
    rw [hl] at ho
    rw [hl]
    refine (tyCopy_any W H base c G cap w (by omega) ho).mono fun e w' ⟨g, sl, he, ho2⟩ => ?_
    obtain ⟨G2, cap2, rfl, hlo, -⟩ := own_shape ho2 (by omega)
    exact ⟨g, G2, cap2, he, hlo, ho2⟩)
  have HSV := hidI (cellsV_set c i 46)
  obtain ⟨c2, hc2⟩ : ∃ c2, c2 = c.set i 46 := ⟨_, rfl⟩
  rw [← hc2] at HT2 HK HSV
  have HIS := hidI (fun (b G cap : Nat) w ho => buIs_any W H b G cap N c2 w HT2.out.w1 HT2.out.w7 HT2.out.h7 HT2.out.hN HT2.out.pos HT2.out.n36 HT2.out.len ho)
  have HWY := hidI (fun (b G cap : Nat) w ho => buWay_any W H b G cap N i c2 w HT2.out hi ho)
  have HCW := hidI (bwN_can (W := W) (H := H) (c := c2) (i := i))
  have hbl := bwN_le (W := W) (H := H) (c := c2) (i := i)
  obtain ⟨q, hq⟩ : ∃ q, q = bwN W H c2 i := ⟨_, rfl⟩
  rw [← hq] at HWY HCW hbl
  obtain ⟨X, hX⟩ : ∃ X, X = isFo W H c2 := ⟨_, rfl⟩
  rw [← hX] at HIS HK
  obtain ⟨Y, hY⟩ : ∃ Y, Y = canB W H c2 i := ⟨_, rfl⟩
  rw [← hY] at HK HCW
  have HY := hidI (show decide (0 ≤ q) = Y from by
    rw [Bool.eq_iff_iff, decide_eq_true_eq]
    exact HCW.out.symm)
  obtain ⟨Z, hZ⟩ : ∃ Z, Z = decide (at0 c i = 111) := ⟨_, rfl⟩
  rw [← hZ] at HK
  have HZ := hidI (show (((at0 c i).toNat : Int) == 111) = Z from by
    rw [hZ, Bool.eq_iff_iff, beq_iff_eq, decide_eq_true_eq]
    constructor
    · intro h; exact UInt8.toNat_inj.1 (by simp; omega)
    · intro h; rw [h]; rfl)
  rw [← hc2, HK.out]
  clear t t2 hc2 hq hX hY hZ hA HCW
  go_enter Tryd.func81, Tryd.ntmps81
  go_wp2_with (first | (refine r_box 45 _ (tg W H (.slice (some ⟨G, 0, none⟩) N cap)) rfl rfl ?_; intro w1 B1 N1; have g1 := N1.gr; have b1 : Blk w1 B1 (tg W H (.slice (some ⟨G, 0, none⟩) N cap)) 45 := N1.blk; have tb0 := b1.lt; have l1 := N1.lo; have z1 := g1.size; have own := g1.row hown; have gg := gg.trans g1; clear N1) | (refine r_alloc (dst := some 4) 45 _ Tryd.tzero rfl ?_; intro w2 B2 N2; have g2 := N2.gr; have b2 : Blk w2 B2 (tg 0 0 (.slice none 0 0)) 45 := N2.blk; have l2 := N2.lo; have z2 := g2.size; have own := g2.row own; have b1 := g2.blk b1; have tb1 := b1.lt; have gg := gg.trans g2; clear N2) | (refine r_load_row 45 _ _ rfl _ _ _ b1 Tryd.underlying45 rfl Tryd.tinfo rfl ?_) | (go_at_call 123; refine (HCP.out _ own).mono ?_; rintro e w3 ⟨g3, G2, cap2, rfl, hG2, own2⟩; have b1 := g3.blk b1; have tb2 := b2.lt; have b2 := g3.blk b2; have own := g3.row own; have gg := gg.trans g3; have z3 := g3.size; have hone2 := own_one own2) | (refine r_alloc (dst := some 6) 45 _ Tryd.tzero rfl ?_; intro w6 B6 N6; have g6 := N6.gr; have b6 : Blk w6 B6 (tg 0 0 (.slice none 0 0)) 45 := N6.blk; have l6 := N6.lo; have z6 := g6.size; have own := g6.row own; have own2 := g6.row own2; have b1 := g6.blk b1; have b2 := g6.blk b2; have gg := gg.trans g6; clear N6) | (refine r_store_row 45 45 _ _ _ rfl (tg W H (.slice (some ⟨G2, 0, none⟩) N cap2)) _ rfl b6 Tryd.tsize rfl (tg_one hone2) rfl ?_; intro w7 u7 b6'; have z7 := u7.size; have own := u7.row own (own_ne own b6 (by decide)); have own2 := u7.row own2 (own_ne own2 b6 (by decide)); have b1 := u7.blk b1 (by omega); have b2 := u7.blk b2 (by omega); have gg := u7.gr gg (by omega); obtain ⟨b6_0, b6_1, b6_2⟩ := tcells b6'; have hg2 := fun w => Tryd.six0 G2 N cap2 i hi w) | (refine r_store_own 5 5 _ _ G2 i N cap2 w2.heap.size (cellsV c) rfl (byteV 46) rfl own2 hi Tryd.sizeOf5 rfl rfl ?_; intro w8 u8 own8; rw [HSV.out] at own8; have z8 := u8.size; have hGG := (hown.lt G rfl).2; have own := u8.row own (fun e => by have e2 : G = G2 := (by simpa [Value.ownBlock] using e); omega); have b1 := u8.blk b1 (fun e => own_ne own2 b1 (by decide) (by rw [e]; rfl)); have b2 := u8.blk b2 (fun e => own_ne own2 b2 (by decide) (by rw [e]; rfl)); have b6 := u8.blk b6' (fun e => own_ne own2 b6' (by decide) (by rw [e]; rfl)); have gg := u8.gr gg (by omega)))
  have gd := (Gr.refl w8).drew
  have b1 := gd.blk b1
  have b2 := gd.blk b2
  have b6 := gd.blk b6
  have own := gd.row own
  have own8 := gd.row own8
  have gg := gg.trans gd
  have zd := gd.size
  have hck := own_cell own i (by rw [← HT.out.len]; exact hi) HT.out.len
  refine K_begin (fun w => Blk w B6 (tg W H (.slice (some ⟨G2, 0, none⟩) N cap2)) 45 ∧ Blk w B1 (tg W H (.slice (some ⟨G, 0, none⟩) N cap)) 45 ∧ w.cell? ⟨G, i, none⟩ = some (.int .u8 (at0 c i).toNat)) 19 19 #[false, false, false, false, false, false, false, false, false, false, false, false, false, false, false, false, false, false, false] rfl (by kernel_rfl) (by kernel_rfl) ?_
  generalize w8.drew = wd at *
  have FF := And.intro b6 (And.intro b1 hck)
  refine K_take 0 #[true, false, false, false, false, false, false, false, false, false, false, false, false, false, false, false, false, false, false] rfl (by kernel_rfl) (fun _ _ _ h => h) rfl (fun w hF => e_load_row 45 (.tmp 6) B6 _ _ _ rfl hF.1 Tryd.underlying45 rfl Tryd.tinfo) (FF) ?_; simp only [Act.put, List.setIfInBounds_toArray, List.set_cons_succ, List.set_cons_zero]
  refine K_take 1 #[true, true, false, false, false, false, false, false, false, false, false, false, false, false, false, false, false, false, false] rfl (by kernel_rfl) (fun _ _ _ h => h) rfl (fun w hF => e_val _ _ (Tryd.tf2 B1 _)) (FF) ?_; simp only [Act.put, List.setIfInBounds_toArray, List.set_cons_succ, List.set_cons_zero]
  refine K_take 2 #[true, true, true, false, false, false, false, false, false, false, false, false, false, false, false, false, false, false, false] rfl (by kernel_rfl) (fun _ _ _ h => h) rfl (fun w hF => e_load 43 (.tmp 14) ⟨B1, 2, none⟩ (.slice (some ⟨G, 0, none⟩) N cap) rfl (Tryd.isAgg43 _) (tcells hF.2.1).2.2) (FF) ?_; simp only [Act.put, List.setIfInBounds_toArray, List.set_cons_succ, List.set_cons_zero]
  refine K_take (v := .int .i64 i) 3 #[true, true, true, true, false, false, false, false, false, false, false, false, false, false, false, false, false, false, false] rfl (by kernel_rfl) (fun _ _ _ h => h) rfl (fun _ _ => rfl) (FF) ?_; simp only [Act.put, List.setIfInBounds_toArray, List.set_cons_succ, List.set_cons_zero]
  refine K_take 4 #[true, true, true, true, true, false, false, false, false, false, false, false, false, false, false, false, false, false, false] rfl (by kernel_rfl) (fun _ _ _ h => h) rfl (fun w hF => e_val _ _ (Tryd.six0 G N cap i hi _)) (FF) ?_; simp only [Act.put, List.setIfInBounds_toArray, List.set_cons_succ, List.set_cons_zero]
  refine K_take 5 #[true, true, true, true, true, true, false, false, false, false, false, false, false, false, false, false, false, false, false] rfl (by kernel_rfl) (fun _ _ _ h => h) rfl (fun w hF => e_load 5 (.tmp 17) ⟨G, i, none⟩ (.int .u8 (at0 c i).toNat) rfl (Tryd.isAgg5 _) hF.2.2) (FF) ?_; simp only [Act.put, List.setIfInBounds_toArray, List.set_cons_succ, List.set_cons_zero]
  refine K_take (v := .bool Z) 6 #[true, true, true, true, true, true, true, false, false, false, false, false, false, false, false, false, false, false, false] rfl (by kernel_rfl) (fun _ _ _ h => h) rfl (fun w hF => e_eql8F _ _ ((at0 c i).toNat : Int) 111 Z rfl rfl HZ.out) (FF) ?_; simp only [Act.put, List.setIfInBounds_toArray, List.set_cons_succ, List.set_cons_zero]
  refine K_take (v := .bool Z) 7 #[true, true, true, true, true, true, true, true, false, false, false, false, false, false, false, false, false, false, false] rfl (by kernel_rfl) (fun _ _ _ h => h) rfl (fun _ _ => rfl) (FF) ?_; simp only [Act.put, List.setIfInBounds_toArray, List.set_cons_succ, List.set_cons_zero]
  cases Z with
  | false =>
    skip
    refine K_skip 8 #[true, true, true, true, true, true, true, true, true, false, false, false, false, false, false, false, false, false, false] rfl (by kernel_rfl) (fun _ _ _ h => h) rfl (FF) ?_; simp only [Act.put, List.setIfInBounds_toArray, List.set_cons_succ, List.set_cons_zero]
    refine K_skip 9 #[true, true, true, true, true, true, true, true, true, true, false, false, false, false, false, false, false, false, false] rfl (by kernel_rfl) (fun _ _ _ h => h) rfl (FF) ?_; simp only [Act.put, List.setIfInBounds_toArray, List.set_cons_succ, List.set_cons_zero]
    refine K_take (v := .bool false) 10 #[true, true, true, true, true, true, true, true, true, true, true, false, false, false, false, false, false, false, false] rfl (by kernel_rfl) (fun _ _ _ h => h) rfl (fun w hF => by first | rfl | (unfold execOp; simp [go_sem, Act.eval])) (FF) ?_; simp only [Act.put, List.setIfInBounds_toArray, List.set_cons_succ, List.set_cons_zero]
    refine K_take (v := .bool false) 11 #[true, true, true, true, true, true, true, true, true, true, true, true, false, false, false, false, false, false, false] rfl (by kernel_rfl) (fun _ _ _ h => h) rfl (fun _ _ => rfl) (FF) ?_; simp only [Act.put, List.setIfInBounds_toArray, List.set_cons_succ, List.set_cons_zero]
    refine K_skip 12 #[true, true, true, true, true, true, true, true, true, true, true, true, true, false, false, false, false, false, false] rfl (by kernel_rfl) (fun _ _ _ h => h) rfl (FF) ?_; simp only [Act.put, List.setIfInBounds_toArray, List.set_cons_succ, List.set_cons_zero]
    refine K_skip 13 #[true, true, true, true, true, true, true, true, true, true, true, true, true, true, false, false, false, false, false] rfl (by kernel_rfl) (fun _ _ _ h => h) rfl (FF) ?_; simp only [Act.put, List.setIfInBounds_toArray, List.set_cons_succ, List.set_cons_zero]
    refine K_skip 14 #[true, true, true, true, true, true, true, true, true, true, true, true, true, true, true, false, false, false, false] rfl (by kernel_rfl) (fun _ _ _ h => h) rfl (FF) ?_; simp only [Act.put, List.setIfInBounds_toArray, List.set_cons_succ, List.set_cons_zero]
    refine K_skip 15 #[true, true, true, true, true, true, true, true, true, true, true, true, true, true, true, true, false, false, false] rfl (by kernel_rfl) (fun _ _ _ h => h) rfl (FF) ?_; simp only [Act.put, List.setIfInBounds_toArray, List.set_cons_succ, List.set_cons_zero]
    refine K_take (v := .bool false) 16 #[true, true, true, true, true, true, true, true, true, true, true, true, true, true, true, true, true, false, false] rfl (by kernel_rfl) (fun _ _ _ h => h) rfl (fun w hF => by first | rfl | (unfold execOp; simp [go_sem, Act.eval])) (FF) ?_; simp only [Act.put, List.setIfInBounds_toArray, List.set_cons_succ, List.set_cons_zero]
    skip
    refine K_one 17 #[true, true, true, true, true, true, true, true, true, true, true, true, true, true, true, true, true, true, false] rfl (by kernel_rfl) ?_
    refine r_store_row 45 45 _ _ B2 rfl (tg W H (.slice (some ⟨G2, 0, none⟩) N cap2)) _ rfl b2 Tryd.tsize rfl (tg_one hone2) rfl ?_
    intro w11 u11 b2'
    simp only [Act.put]
    have own8 := u11.row own8 (own_ne own8 b2 (by decide))
    have own := u11.row own (own_ne own b2 (by decide))
    have b6 := u11.blk b6 (by omega)
    have b1 := u11.blk b1 (by omega)
    have gg := u11.gr gg (by omega)
    have hck := own_cell own i (by rw [← HT.out.len]; exact hi) HT.out.len
    have FF := And.intro b6 (And.intro b1 hck)
    refine ⟨fun _ => FF, ?_⟩
    refine K_one 18 #[true, true, true, true, true, true, true, true, true, true, true, true, true, true, true, true, true, true, true] rfl (by kernel_rfl) ?_
    refine r_val (.bool false) rfl rfl ?_
    simp only [Act.put, List.setIfInBounds_toArray, List.set_cons_succ, List.set_cons_zero]
    refine ⟨fun _ => FF, ?_⟩
    refine K_done' (by kernel_rfl) ?_
    go_wp2
    refine bodyPost_ret (results_row_bool rfl _ _ _ _ _ _ rfl b2' Tryd.underlying45 rfl Tryd.tinfo) rfl ?_
    exact ⟨gg, _, _, rfl, own_up own8 (by omega)⟩
  | true =>
    skip
    refine K_take 8 #[true, true, true, true, true, true, true, true, true, false, false, false, false, false, false, false, false, false, false] rfl (by kernel_rfl) (fun _ _ _ h => h) rfl (fun w hF => e_load_row 45 (.tmp 6) B6 _ _ _ rfl hF.1 Tryd.underlying45 rfl Tryd.tinfo) (FF) ?_; simp only [Act.put, List.setIfInBounds_toArray, List.set_cons_succ, List.set_cons_zero]
    refine K_one 9 #[true, true, true, true, true, true, true, true, true, true, false, false, false, false, false, false, false, false, false] rfl (by kernel_rfl) ?_
    refine r_call 76 [.tmp 21] _ [.agg (tg W H (.slice (some ⟨G2, 0, none⟩) N cap2))] (.bool X) (fun w' => Gr wd w') Tryd.call76 rfl rfl ((HIS.out _ _ _ wd own8).mono fun e w' h => h) ?_
    intro w9 g9
    have b1 := g9.blk b1
    have b2 := g9.blk b2
    have b6 := g9.blk b6
    have own := g9.row own
    have own8 := g9.row own8
    have gg := gg.trans g9
    have z9 := g9.size
    have hck := own_cell own i (by rw [← HT.out.len]; exact hi) HT.out.len
    have FF := And.intro b6 (And.intro b1 hck)
    simp only [Act.put, List.setIfInBounds_toArray, List.set_cons_succ, List.set_cons_zero]
    refine ⟨fun _ => FF, ?_⟩
    refine K_take (v := .bool X) 10 #[true, true, true, true, true, true, true, true, true, true, true, false, false, false, false, false, false, false, false] rfl (by kernel_rfl) (fun _ _ _ h => h) rfl (fun w hF => by first | rfl | (unfold execOp; simp [go_sem, Act.eval])) (FF) ?_; simp only [Act.put, List.setIfInBounds_toArray, List.set_cons_succ, List.set_cons_zero]
    refine K_take (v := .bool X) 11 #[true, true, true, true, true, true, true, true, true, true, true, true, false, false, false, false, false, false, false] rfl (by kernel_rfl) (fun _ _ _ h => h) rfl (fun _ _ => rfl) (FF) ?_; simp only [Act.put, List.setIfInBounds_toArray, List.set_cons_succ, List.set_cons_zero]
    cases X with
    | false =>
      skip
      refine K_skip 12 #[true, true, true, true, true, true, true, true, true, true, true, true, true, false, false, false, false, false, false] rfl (by kernel_rfl) (fun _ _ _ h => h) rfl (FF) ?_; simp only [Act.put, List.setIfInBounds_toArray, List.set_cons_succ, List.set_cons_zero]
      refine K_skip 13 #[true, true, true, true, true, true, true, true, true, true, true, true, true, true, false, false, false, false, false] rfl (by kernel_rfl) (fun _ _ _ h => h) rfl (FF) ?_; simp only [Act.put, List.setIfInBounds_toArray, List.set_cons_succ, List.set_cons_zero]
      refine K_skip 14 #[true, true, true, true, true, true, true, true, true, true, true, true, true, true, true, false, false, false, false] rfl (by kernel_rfl) (fun _ _ _ h => h) rfl (FF) ?_; simp only [Act.put, List.setIfInBounds_toArray, List.set_cons_succ, List.set_cons_zero]
      refine K_skip 15 #[true, true, true, true, true, true, true, true, true, true, true, true, true, true, true, true, false, false, false] rfl (by kernel_rfl) (fun _ _ _ h => h) rfl (FF) ?_; simp only [Act.put, List.setIfInBounds_toArray, List.set_cons_succ, List.set_cons_zero]
      refine K_take (v := .bool false) 16 #[true, true, true, true, true, true, true, true, true, true, true, true, true, true, true, true, true, false, false] rfl (by kernel_rfl) (fun _ _ _ h => h) rfl (fun w hF => by first | rfl | (unfold execOp; simp [go_sem, Act.eval])) (FF) ?_; simp only [Act.put, List.setIfInBounds_toArray, List.set_cons_succ, List.set_cons_zero]
      skip
      refine K_one 17 #[true, true, true, true, true, true, true, true, true, true, true, true, true, true, true, true, true, true, false] rfl (by kernel_rfl) ?_
      refine r_store_row 45 45 _ _ B2 rfl (tg W H (.slice (some ⟨G2, 0, none⟩) N cap2)) _ rfl b2 Tryd.tsize rfl (tg_one hone2) rfl ?_
      intro w11 u11 b2'
      simp only [Act.put]
      have own8 := u11.row own8 (own_ne own8 b2 (by decide))
      have own := u11.row own (own_ne own b2 (by decide))
      have b6 := u11.blk b6 (by omega)
      have b1 := u11.blk b1 (by omega)
      have gg := u11.gr gg (by omega)
      have hck := own_cell own i (by rw [← HT.out.len]; exact hi) HT.out.len
      have FF := And.intro b6 (And.intro b1 hck)
      refine ⟨fun _ => FF, ?_⟩
      refine K_one 18 #[true, true, true, true, true, true, true, true, true, true, true, true, true, true, true, true, true, true, true] rfl (by kernel_rfl) ?_
      refine r_val (.bool false) rfl rfl ?_
      simp only [Act.put, List.setIfInBounds_toArray, List.set_cons_succ, List.set_cons_zero]
      refine ⟨fun _ => FF, ?_⟩
      refine K_done' (by kernel_rfl) ?_
      go_wp2
      refine bodyPost_ret (results_row_bool rfl _ _ _ _ _ _ rfl b2' Tryd.underlying45 rfl Tryd.tinfo) rfl ?_
      exact ⟨gg, _, _, rfl, own_up own8 (by omega)⟩
    | true =>
      skip
      refine K_take 12 #[true, true, true, true, true, true, true, true, true, true, true, true, true, false, false, false, false, false, false] rfl (by kernel_rfl) (fun _ _ _ h => h) rfl (fun w hF => e_load_row 45 (.tmp 6) B6 _ _ _ rfl hF.1 Tryd.underlying45 rfl Tryd.tinfo) (FF) ?_; simp only [Act.put, List.setIfInBounds_toArray, List.set_cons_succ, List.set_cons_zero]
      refine K_take (v := .int .i64 i) 13 #[true, true, true, true, true, true, true, true, true, true, true, true, true, true, false, false, false, false, false] rfl (by kernel_rfl) (fun _ _ _ h => h) rfl (fun _ _ => rfl) (FF) ?_; simp only [Act.put, List.setIfInBounds_toArray, List.set_cons_succ, List.set_cons_zero]
      refine K_one 14 #[true, true, true, true, true, true, true, true, true, true, true, true, true, true, true, false, false, false, false] rfl (by kernel_rfl) ?_
      refine r_call 75 [.tmp 25, .tmp 26] _ [.agg (tg W H (.slice (some ⟨G2, 0, none⟩) N cap2)), .int .i64 i] (.int .i64 q) (fun w' => Gr w9 w') Tryd.call75 rfl rfl ((HWY.out _ _ _ w9 own8).mono fun e w' h => h) ?_
      intro w10 g10
      have b1 := g10.blk b1
      have b2 := g10.blk b2
      have b6 := g10.blk b6
      have own := g10.row own
      have own8 := g10.row own8
      have gg := gg.trans g10
      have z10 := g10.size
      have hck := own_cell own i (by rw [← HT.out.len]; exact hi) HT.out.len
      have FF := And.intro b6 (And.intro b1 hck)
      simp only [Act.put, List.setIfInBounds_toArray, List.set_cons_succ, List.set_cons_zero]
      refine ⟨fun _ => FF, ?_⟩
      refine K_take (v := .bool Y) 15 #[true, true, true, true, true, true, true, true, true, true, true, true, true, true, true, true, false, false, false] rfl (by kernel_rfl) (fun _ _ _ h => h) rfl (fun w hF => e_geqF _ _ q 0 Y rfl rfl HY.out) (FF) ?_; simp only [Act.put, List.setIfInBounds_toArray, List.set_cons_succ, List.set_cons_zero]
      refine K_take (v := .bool Y) 16 #[true, true, true, true, true, true, true, true, true, true, true, true, true, true, true, true, true, false, false] rfl (by kernel_rfl) (fun _ _ _ h => h) rfl (fun w hF => by first | rfl | (unfold execOp; simp [go_sem, Act.eval])) (FF) ?_; simp only [Act.put, List.setIfInBounds_toArray, List.set_cons_succ, List.set_cons_zero]
      skip
      refine K_one 17 #[true, true, true, true, true, true, true, true, true, true, true, true, true, true, true, true, true, true, false] rfl (by kernel_rfl) ?_
      refine r_store_row 45 45 _ _ B2 rfl (tg W H (.slice (some ⟨G2, 0, none⟩) N cap2)) _ rfl b2 Tryd.tsize rfl (tg_one hone2) rfl ?_
      intro w11 u11 b2'
      simp only [Act.put]
      have own8 := u11.row own8 (own_ne own8 b2 (by decide))
      have own := u11.row own (own_ne own b2 (by decide))
      have b6 := u11.blk b6 (by omega)
      have b1 := u11.blk b1 (by omega)
      have gg := u11.gr gg (by omega)
      have hck := own_cell own i (by rw [← HT.out.len]; exact hi) HT.out.len
      have FF := And.intro b6 (And.intro b1 hck)
      refine ⟨fun _ => FF, ?_⟩
      refine K_one 18 #[true, true, true, true, true, true, true, true, true, true, true, true, true, true, true, true, true, true, true] rfl (by kernel_rfl) ?_
      refine r_val (.bool Y) rfl rfl ?_
      simp only [Act.put, List.setIfInBounds_toArray, List.set_cons_succ, List.set_cons_zero]
      refine ⟨fun _ => FF, ?_⟩
      refine K_done' (by kernel_rfl) ?_
      go_wp2
      refine bodyPost_ret (results_row_bool rfl _ _ _ _ _ _ rfl b2' Tryd.underlying45 rfl Tryd.tinfo) rfl ?_
      exact ⟨gg, _, _, rfl, own_up own8 (by omega)⟩
set_option maxHeartbeats 4000000 in
set_option maxRecDepth 100000 in
theorem sTakeCell (s : ByteArray) (x : Int) (w : World) (hs : s.size ≤ 1048576) : Calls Tryd.prog 39 #[.string s, .int .i64 x] w (Ret (.tuple #[.string (tkB s.data.toList x), .bool (tkOk s.data.toList x)]) w) := by
  have gg := Gr.refl w
  go_enter Tryd.func39, Tryd.ntmps39
  go_wp2_with fail
  refine (buCell_any s x _ hs).mono ?_
  rintro e w1 ⟨g1, ⟨hc, xa, xb, sl, hone, rfl⟩ | ⟨g, G, cap, i, hg, hf, F, rfl, hi, rfl, own⟩⟩
  · have HV := hidI (show tkOk s.data.toList x = false ∧ tkB s.data.toList x = ⟨#[]⟩ from by
      have e : tkOk s.data.toList x = false := by unfold cOk at hc; unfold tkOk; rw [hc]; rfl
      exact ⟨e, by unfold tkB; rw [e]; rfl⟩)
    have z1 := g1.size
    have gg := gg.trans g1
    clear hc
    go_wp2_with (first | (refine r_alloc 45 _ Tryd.tzero rfl ?_; intro w2 B2 N2; have g2 := N2.gr; have b2 : Blk w2 B2 (tg 0 0 (.slice none 0 0)) 45 := N2.blk; have l2 := N2.lo; have t2 := N2.hi; have z2 := g2.size; have gg := gg.trans g2; clear N2; obtain ⟨b2_0, b2_1, b2_2⟩ := tcells b2) | (refine r_store_row 45 45 _ _ _ rfl (tg _ _ _) _ rfl b2 Tryd.tsize rfl (tg_one hone) rfl ?_; intro w3 u3 b2'; have z3 := u3.size; have gg := u3.gr gg (by omega); clear b2; have b2 := b2'; clear b2'; obtain ⟨b2_0, b2_1, b2_2⟩ := tcells b2))
    go_ret2
    exact ⟨fin_sb HV.out.2.symm HV.out.1.symm, gg⟩
  · have HT := hidI F.ty
    have HT2 := hidI (F.ty_set i 46)
    have HA := F.all_set i (b := 46) (by decide)
    have HK := hidI (tk_yes hg hf hi)
    have HBE := hidI (show tkB s.data.toList i = if tkOk s.data.toList i then txtB g.w g.h (g.c.set i 46) else ⟨#[]⟩ from by unfold tkB; rw [hg]; rfl)
    obtain ⟨N, hN⟩ : ∃ N, N = nn g.w g.h := ⟨_, rfl⟩
    rw [← hN] at own HT HT2 HA hi
    rw [← hN]
    have z1 := g1.size
    have gg := gg.trans g1
    have hone := own_one own
    have HBT := hidI (fun (b : Nat) w (hb : b ≤ w.heap.size) ho => buTake_any g.w g.h b G cap N i g.c w HT.out hi HA hb ho)
    obtain ⟨c2, hc2⟩ : ∃ c2, c2 = g.c.set i 46 := ⟨_, rfl⟩
    rw [← hc2] at HT2 HBE HBT
    obtain ⟨B, hB⟩ : ∃ B, B = tkC g.w g.h g.c i := ⟨_, rfl⟩
    rw [← hB] at HK HBT
    have HTX := hidI (fun (b G cap : Nat) w ho => tyText_n g.w g.h b N c2 (.slice (some ⟨G, 0, none⟩) N cap) w HT2.out.w1 HT2.out.h1 HT2.out.w7 HT2.out.h7 (by rw [← HT2.out.hN]; exact HT2.out.n36) (by rw [← HT2.out.len]; exact HT2.out.hN) HT2.out.len.symm ho)
    clear hg hf F hN hc2 hB HA
    cases B with
    | false =>
      go_wp2_with (first | (refine r_alloc (dst := some 6) 45 _ Tryd.tzero rfl ?_; intro w2 B2 N2; have g2 := N2.gr; have b2 : Blk w2 B2 (tg 0 0 (.slice none 0 0)) 45 := N2.blk; have l2 := N2.lo; have t2 := N2.hi; have z2 := g2.size; have gg := gg.trans g2; clear N2; obtain ⟨b2_0, b2_1, b2_2⟩ := tcells b2) | (refine r_store_row 45 45 _ _ _ rfl (tg _ _ _) _ rfl b2 Tryd.tsize rfl (tg_one hone) rfl ?_; intro w3 u3 b2'; have z3 := u3.size; have gg := u3.gr gg (by omega); clear b2; have b2 := b2'; clear b2'; obtain ⟨b2_0, b2_1, b2_2⟩ := tcells b2) | (refine r_load_row 45 _ _ rfl _ _ _ b2 Tryd.underlying45 rfl Tryd.tinfo rfl ?_) | (go_at_call 81; refine (HBT.out _ _ (by omega) (u3.row (g2.row own) (own_new own l2))).mono ?_; rintro e w4 ⟨g4, G2, cap2, rfl, own4⟩; have b2 := g4.blk b2; have gg := gg.trans g4; have z4 := g4.size; have hone4 := own_one own4) | (refine r_alloc (dst := some 8) 45 _ Tryd.tzero rfl ?_; intro w5 B5 N5; have g5 := N5.gr; have b5 : Blk w5 B5 (tg 0 0 (.slice none 0 0)) 45 := N5.blk; have l5 := N5.lo; have t5 := N5.hi; have z5 := g5.size; have gg := gg.trans g5; clear N5; obtain ⟨b5_0, b5_1, b5_2⟩ := tcells b5) | (refine r_store_row 45 45 _ _ _ rfl (tg _ _ _) _ rfl b5 Tryd.tsize rfl (tg_one hone4) rfl ?_; intro w6 u6 b5'; have z6 := u6.size; have gg := u6.gr gg (by omega); clear b5; have b5 := b5'; clear b5'; obtain ⟨b5_0, b5_1, b5_2⟩ := tcells b5))
      go_ret2
      exact ⟨fin_sb (by rw [HBE.out, HK.out]; rfl) HK.out.symm, gg⟩
    | true =>
      go_wp2_with (first | (refine r_alloc (dst := some 6) 45 _ Tryd.tzero rfl ?_; intro w2 B2 N2; have g2 := N2.gr; have b2 : Blk w2 B2 (tg 0 0 (.slice none 0 0)) 45 := N2.blk; have l2 := N2.lo; have t2 := N2.hi; have z2 := g2.size; have gg := gg.trans g2; clear N2; obtain ⟨b2_0, b2_1, b2_2⟩ := tcells b2) | (refine r_store_row 45 45 _ _ _ rfl (tg _ _ _) _ rfl b2 Tryd.tsize rfl (tg_one hone) rfl ?_; intro w3 u3 b2'; have z3 := u3.size; have gg := u3.gr gg (by omega); clear b2; have b2 := b2'; clear b2'; obtain ⟨b2_0, b2_1, b2_2⟩ := tcells b2) | (refine r_load_row 45 _ _ rfl _ _ _ b2 Tryd.underlying45 rfl Tryd.tinfo rfl ?_) | (go_at_call 81; refine (HBT.out _ _ (by omega) (u3.row (g2.row own) (own_new own l2))).mono ?_; rintro e w4 ⟨g4, G2, cap2, rfl, own4⟩; have b2 := g4.blk b2; have gg := gg.trans g4; have z4 := g4.size; have hone4 := own_one own4) | (refine r_alloc (dst := some 8) 45 _ Tryd.tzero rfl ?_; intro w5 B5 N5; have g5 := N5.gr; have b5 : Blk w5 B5 (tg 0 0 (.slice none 0 0)) 45 := N5.blk; have l5 := N5.lo; have t5 := N5.hi; have z5 := g5.size; have gg := gg.trans g5; clear N5; obtain ⟨b5_0, b5_1, b5_2⟩ := tcells b5) | (refine r_store_row 45 45 _ _ _ rfl (tg _ _ _) _ rfl b5 Tryd.tsize rfl (tg_one hone4) rfl ?_; intro w6 u6 b5'; have z6 := u6.size; have gg := u6.gr gg (by omega); clear b5; have b5 := b5'; clear b5'; obtain ⟨b5_0, b5_1, b5_2⟩ := tcells b5) | (refine r_load_row 45 _ _ rfl _ _ _ b5 Tryd.underlying45 rfl Tryd.tinfo rfl ?_) | (go_at_call 77; refine (HTX.out _ _ _ _ (u6.row (g5.row own4) (own_new own4 l5))).mono ?_; rintro e w7 ⟨rfl, g7⟩; have z7 := g7.size; have gg := gg.trans g7))
      go_ret2
      exact ⟨fin_sb (by rw [HBE.out, HK.out]; rfl) HK.out.symm, gg⟩
set_option maxHeartbeats 4000000 in
set_option maxRecDepth 100000 in
theorem sLastCells (s : ByteArray) (w : World) (hs : s.size ≤ 1048576) : Calls Tryd.prog 41 #[.string s] w (RetInts 3 (lcL s.data.toList) (fmOk s.data.toList) w) := by
  have gg := Gr.refl w
  go_enter Tryd.func41, Tryd.ntmps41
  go_wp2_with fail
  refine (buRead_any s _ hs).mono ?_
  rintro e w1 ⟨g1, ⟨hf, x, y, sl, hone, rfl⟩ | ⟨g, G, cap, hp, hg, hf, hfg, F, rfl, own⟩⟩
  · have HF := hidI hf
    have HV := hidI (show lcL s.data.toList = [] from by unfold lcL fmG; rw [hf]; rfl)
    have gg := gg.trans g1
    have z1 := g1.size
    clear hf
    go_wp2_with (first | (refine r_alloc 45 _ Tryd.tzero rfl ?_; intro w2 B2 N2; have g2 := N2.gr; have b2 : Blk w2 B2 (tg 0 0 (.slice none 0 0)) 45 := N2.blk; have l2 := N2.lo; have t2 := N2.hi; have z2 := g2.size; have gg := gg.trans g2; clear N2; obtain ⟨b2_0, b2_1, b2_2⟩ := tcells b2) | (refine r_store_row 45 45 _ _ _ rfl (tg _ _ _) _ rfl b2 Tryd.tsize rfl (tg_one hone) rfl ?_; intro w3 u3 b2'; have z3 := u3.size; have gg := u3.gr gg (by omega); clear b2; have b2 := b2'; clear b2'; obtain ⟨b2_0, b2_1, b2_2⟩ := tcells b2))
    go_ret2
    exact ⟨gg, .slice none 0 0, fin_vb HF.out.symm, by rw [HV.out]; exact World.ownsRow_nil _ _ _ _⟩
  · have HF := hidI hf
    have HT := hidI F.ty
    have HA := hidI (fun i => F.all_set i (b := 46) (by decide))
    have HV := hidI (show laTo g.w g.h g.c (nn g.w g.h) = lcL s.data.toList from by unfold lcL; rw [hfg])
    obtain ⟨N, hN⟩ : ∃ N, N = nn g.w g.h := ⟨_, rfl⟩
    have h36 : N ≤ 36 := by rw [hN]; exact F.t.n36
    rw [← hN] at own HT HV HA
    rw [← hN]
    have gg := gg.trans g1
    have z1 := g1.size
    have hone := own_one own
    have HBT := hidI (fun (i b : Nat) w (hi : i < N) (hb : b ≤ w.heap.size) ho => buTake_any g.w g.h b G cap N i g.c w HT.out hi (HA.out i) hb ho)
    clear hp hg hf hfg F hN
    go_wp2_with (first | (refine r_alloc (dst := some 4) 45 _ Tryd.tzero rfl ?_; intro w2 B2 N2; have g2 := N2.gr; have b2 : Blk w2 B2 (tg 0 0 (.slice none 0 0)) 45 := N2.blk; have l2 := N2.lo; have t2 := N2.hi; have z2 := g2.size; have gg := gg.trans g2; clear N2; obtain ⟨b2_0, b2_1, b2_2⟩ := tcells b2) | (refine r_store_row 45 45 _ _ _ rfl (tg _ _ _) _ rfl b2 Tryd.tsize rfl (tg_one hone) rfl ?_; intro w3 u3 b2'; have z3 := u3.size; have gg := u3.gr gg (by omega); clear b2; have b2 := b2'; clear b2'; obtain ⟨b2_0, b2_1, b2_2⟩ := tcells b2))
    have own := u3.row (g2.row own) (own_new own l2)
    have HO := hidI own
    have own0 : w3.ownsRow w3.heap.size 3 1 (.slice none 0 0) (laTo g.w g.h g.c 0).length (intsV (laTo g.w g.h g.c 0)) := World.ownsRow_nil _ _ _ _
    go_loopw [6, 20] (fun lv iv wr => ∃ j : Nat, j ≤ N ∧ iv = .int .i64 j ∧ wr.ownsRow w3.heap.size 3 1 lv (laTo g.w g.h g.c j).length (intsV (laTo g.w g.h g.c j)) ∧ wr.ownsRow w.heap.size 5 1 (.slice (some ⟨G, 0, none⟩) N cap) N (cellsV g.c) ∧ Blk wr B2 (tg g.w g.h (.slice (some ⟨G, 0, none⟩) N cap)) 45 ∧ Gr w wr ∧ w3.heap.size ≤ wr.heap.size) (fun _ iv _ => N - (intOf iv).toNat)
    case atStart => exact ⟨0, Nat.zero_le _, rfl, own0, own, b2, gg, Nat.le_refl _⟩
    case round =>
      clear own0 own b2 gg b2_0 b2_1 b2_2
      obtain ⟨j, hj, rfl, own, own2, b2, gg, zr⟩ := hrel
      have hfl := laTo_le g.w g.h g.c j
      have zg := gg.size
      by_cases hlt : j < N
      · have hBT := fun (b : Nat) w (hb : b ≤ w.heap.size) ho => HBT.out j b w hlt hb ho
        obtain ⟨B, hB⟩ : ∃ B, B = tkC g.w g.h g.c j := ⟨_, rfl⟩
        rw [← hB] at hBT
        cases B with
        | false =>
          have HS := hidI (show laTo g.w g.h g.c (j + 1) = laTo g.w g.h g.c j from by rw [laTo, if_neg (by rw [← hB]; decide)])
          have HB2 := hidI hBT
          clear hB hBT
          go_wp2_with (first | (refine r_load_row 45 _ _ rfl _ _ _ b2 Tryd.underlying45 rfl Tryd.tinfo rfl ?_) | (go_at_call 81; refine (HB2.out _ _ (by omega) own2).mono ?_; rintro e w4 ⟨g4, G2, cap2, rfl, own4⟩; have b2 := g4.blk b2; have own := g4.row own; have own2 := g4.row own2; have gg := gg.trans g4; have z4 := g4.size; have hone4 := own_one own4) | (refine r_alloc (dst := some 8) 45 _ Tryd.tzero rfl ?_; intro w5 B5 N5; have g5 := N5.gr; have b5 : Blk w5 B5 (tg 0 0 (.slice none 0 0)) 45 := N5.blk; have l5 := N5.lo; have t5 := N5.hi; have z5 := g5.size; have b2 := g5.blk b2; have gg := gg.trans g5; clear N5; obtain ⟨b5_0, b5_1, b5_2⟩ := tcells b5) | (refine r_store_row 45 45 _ _ _ rfl (tg _ _ _) _ rfl b5 Tryd.tsize rfl (tg_one hone4) rfl ?_; intro w6 u6 b5'; have z6 := u6.size; have gg := u6.gr gg (by omega); clear b5; have b5 := b5'; clear b5'; obtain ⟨b5_0, b5_1, b5_2⟩ := tcells b5))
          have own := u6.row (g5.row own) (own_new own l5)
          have own2 := u6.row (g5.row own2) (own_new own2 l5)
          have b2 := u6.blk b2 (by have := b2.lt; omega)
          go_roundw
          case rel => exact ⟨j + 1, by omega, by go_num, by rw [HS.out]; exact own, own2, b2, gg, by omega⟩
          case measure => simp [intOf]; omega
        | true =>
          have HS := hidI (show laTo g.w g.h g.c (j + 1) = laTo g.w g.h g.c j ++ [(j : Int)] from by rw [laTo, if_pos hB.symm])
          have HB2 := hidI hBT
          clear hB hBT
          go_wp2_with (first | (refine r_load_row 45 _ _ rfl _ _ _ b2 Tryd.underlying45 rfl Tryd.tinfo rfl ?_) | (go_at_call 81; refine (HB2.out _ _ (by omega) own2).mono ?_; rintro e w4 ⟨g4, G2, cap2, rfl, own4⟩; have b2 := g4.blk b2; have tb2 := b2.lt; have own := g4.row own; have own2 := g4.row own2; have gg := gg.trans g4; have z4 := g4.size; have hone4 := own_one own4) | (refine r_alloc (dst := some 8) 45 _ Tryd.tzero rfl ?_; intro w5 B5 N5; have g5 := N5.gr; have b5 : Blk w5 B5 (tg 0 0 (.slice none 0 0)) 45 := N5.blk; have l5 := N5.lo; have t5 := N5.hi; have z5 := g5.size; have b2 := g5.blk b2; have gg := gg.trans g5; clear N5; obtain ⟨b5_0, b5_1, b5_2⟩ := tcells b5) | (refine r_store_row 45 45 _ _ _ rfl (tg _ _ _) _ rfl b5 Tryd.tsize rfl (tg_one hone4) rfl ?_; intro w6 u6 b5'; have z6 := u6.size; have own := u6.row (g5.row own) (own_new own l5); have own2 := u6.row (g5.row own2) (own_new own2 l5); have b2 := u6.blk b2 (by omega); have gg := u6.gr gg (by omega)) | (refine r_slice1 27 3 (.tmp 31) (.int .i64 j) rfl (Tryd.bsi1 _ _) rfl ?_; intro w7 B7 N7; have g7 := N7.gr; have own := g7.row own; have own2 := g7.row own2; have b2 := g7.blk b2; have gg := gg.trans g7; have z7 := g7.size) | (refine r_append (.tmp 30) (.tmp 32) 27 3 _ 1 8 w3.heap.size Tryd.intsI _ _ _ rfl own ⟨B7, 0, none⟩ 1 1 [.int .i64 j] rfl rfl N7.cell1 (intsV_one [(j : Int)]) (by omega) (by decide) (by omega) rfl ?_; intro v8 w8 own8 g8))
          have own2 := g8.row own2 (own_apart' HO.out own (Nat.le_refl _))
          have b2 := g8.blk b2 (own_ne own b2 (by decide))
          have gg := g8.gr gg (own_gr own (by have := (Gr.refl w).size; omega))
          have z8 := g8.size
          go_roundw
          case rel => exact ⟨j + 1, by omega, by go_num, by rw [HS.out, ← intsV_append, List.length_append]; exact own8, own2, b2, gg, by omega⟩
          case measure => simp [intOf]; omega
      · have hjN : j = N := by omega
        rw [hjN, HV.out] at own
        clear hlt hfl
        go_wp2
        go_ret2
        exact ⟨gg, _, fin_vb HF.out.symm, own_up own (by omega)⟩
set_option maxHeartbeats 1000000 in
theorem lawAddCell (s : ByteArray) (x : Int) (w : World) (hm : ML w) : Calls Tryd.prog 12 #[.string s, .int .i64 x] w (Ret (.bool true) w) := by
  have gg := Gr.refl w
  by_cases hs : 1048576 < s.size
  · go_enter Tryd.func12, Tryd.ntmps12
    go_wp2
    go_ret
    exact ⟨rfl, gg⟩
  · have hs' : s.size ≤ 1048576 := by omega
    clear hs
    go_enter Tryd.func12, Tryd.ntmps12
    go_wp2_with (first | (go_at_call 37; refine (sAddCell s x _ hs').mono ?_; rintro e w1 ⟨rfl, g1⟩; have z1 := g1.size; have gg := gg.trans g1) | (go_at_call 38; refine (iAddCell s x _ (gg.ml hm) hs').mono ?_; rintro e w2 ⟨rfl, g2⟩; have z2 := g2.size; have gg := gg.trans g2))
    go_ret
    exact ⟨rfl, gg⟩
set_option maxHeartbeats 1000000 in
theorem lawTakeCell (s : ByteArray) (x : Int) (w : World) (hm : ML w) : Calls Tryd.prog 13 #[.string s, .int .i64 x] w (Ret (.bool true) w) := by
  have gg := Gr.refl w
  by_cases hs : 1048576 < s.size
  · go_enter Tryd.func13, Tryd.ntmps13
    go_wp2
    go_ret
    exact ⟨rfl, gg⟩
  · have hs' : s.size ≤ 1048576 := by omega
    clear hs
    go_enter Tryd.func13, Tryd.ntmps13
    go_wp2_with (first | (go_at_call 39; refine (sTakeCell s x _ hs').mono ?_; rintro e w1 ⟨rfl, g1⟩; have z1 := g1.size; have gg := gg.trans g1) | (go_at_call 40; refine (iTakeCell s x _ (gg.ml hm) hs').mono ?_; rintro e w2 ⟨rfl, g2⟩; have z2 := g2.size; have gg := gg.trans g2))
    go_ret
    exact ⟨rfl, gg⟩
set_option maxHeartbeats 2000000 in
set_option maxRecDepth 100000 in
theorem lawLastCells (s : ByteArray) (w : World) (hm : ML w) : Calls Tryd.prog 14 #[.string s] w (Ret (.bool true) w) := by
  have gg := Gr.refl w
  by_cases hs : 1048576 < s.size
  · go_enter Tryd.func14, Tryd.ntmps14
    go_wp2
    go_ret
    exact ⟨rfl, gg⟩
  · have hs' : s.size ≤ 1048576 := by omega
    clear hs
    obtain ⟨L, hL⟩ : ∃ L, L = lcL s.data.toList := ⟨_, rfl⟩
    obtain ⟨ok, hok⟩ : ∃ ok, ok = fmOk s.data.toList := ⟨_, rfl⟩
    have hle : L.length ≤ 36 := by rw [hL]; exact lcL_le s.data.toList
    have HL := hidI hL
    have HOK := hidI hok
    clear hL hok
    go_enter Tryd.func14, Tryd.ntmps14
    go_wp2_with fail
    refine (sLastCells s _ hs').mono ?_
    rintro e w1 ⟨g1, v1, rfl, own1⟩
    rw [← HL.out] at own1
    have gg := gg.trans g1
    rw [← HOK.out]
    go_wp2_with fail
    refine (iLastCells s _ (gg.ml hm) hs').mono ?_
    rintro e w2 ⟨g2, v2, rfl, own2⟩
    rw [← HL.out] at own2
    rw [← HOK.out]
    have gg := gg.trans g2
    have HAP := hidI (own_apart own1 own2 (Nat.le_refl _))
    have own1 := g2.row own1
    go_wp2_with fail
    refine (eqIntS_any v2 v1 L L _ _ _ own2 own1 (by omega)).mono ?_
    rintro e w3 ⟨rfl, g3⟩
    rw [decide_eq_true rfl]
    have own1 := g3.row own1
    have own2 := g3.row own2
    have gg := gg.trans g3
    go_wp2_with fail
    refine (markIntS_any v2 L 1 _ _ own2 (by omega) (by decide)).mono ?_
    rintro e w4 ⟨rfl, own2', g4, z4⟩
    have own1 := g4.row own1 HAP.out
    have gg := g4.gr gg (own_gr own2 (by have := g1.size; omega))
    obtain ⟨n, hn⟩ : ∃ n : Nat, n = 1 + L.length := ⟨_, rfl⟩
    rw [← hn]
    have HN := hidI hn
    have hn2 : n ≤ 37 := by omega
    clear hn
    have own2 := own2'
    clear own2'
    go_wp2_with fail
    refine (heldIntS_any v2 L.length 1 _ _ own2 (by omega) (by decide)).mono ?_
    rintro e w5 ⟨rfl, g5⟩
    rw [← HN.out]
    have own1 := g5.row own1
    have own2 := g5.row own2
    have gg := gg.trans g5
    go_wp2_with fail
    refine (iLastCells s _ (gg.ml hm) hs').mono ?_
    rintro e w6 ⟨g6, v6, rfl, own6⟩
    rw [← HL.out] at own6
    rw [← HOK.out]
    have gg := gg.trans g6
    have own1 := g6.row own1
    have own2 := g6.row own2
    go_wp2_with fail
    refine (eqIntS_any v6 v1 L L _ _ _ own6 own1 (by omega)).mono ?_
    rintro e w7 ⟨rfl, g7⟩
    rw [decide_eq_true rfl]
    have own2 := g7.row own2
    have gg := gg.trans g7
    go_wp2_with fail
    refine (heldIntS_any v2 L.length 1 _ _ own2 (by omega) (by decide)).mono ?_
    rintro e w8 ⟨rfl, g8⟩
    rw [← HN.out]
    have gg := gg.trans g8
    go_wp2
    go_ret
    exact ⟨rfl, gg⟩
end Go.Proofs.YtagoipongdnegaaDoor
