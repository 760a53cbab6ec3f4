/-
  The mirrored board: in the program and in the model; the law.
-/
import Derived.Test.YtgibpcmjfnmkdaaBoardN
import Derived.Test.YtgibpcmjfnmkdaaBoardD
namespace Go.Proofs.Ytgibpcmjfnmkdaa
open Go.RowKit
theorem apart_symm {a b : Option Nat} (h : a = none ∨ a ≠ b) : b = none ∨ b ≠ a := by
  cases b with
  | none => exact .inl rfl
  | some k =>
    refine .inr fun e => ?_
    rcases h with h | h
    · rw [h] at e; cases e
    · exact h e.symm
def mbW (z : Int) (L : List Int) : Int := if bdOk z L = true then ((L.length / z.toNat : Nat) : Int) else 0
def mbL (z : Int) (L : List Int) : List Int := if bdOk z L = true then mirTo z.toNat (L.length / z.toNat) L L.length else []
theorem mb_bad {z : Int} {L : List Int} (h : bdOk z L = false) : mbW z L = 0 ∧ mbL z L = [] := by unfold mbW mbL; rw [h]; exact ⟨rfl, rfl⟩
theorem mb_good {W H n : Nat} {L : List Int} (h : bdOk W L = true) (hl : L.length = nn W H) (hW : 1 ≤ W) (hn : n = L.length) : mbW W L = H ∧ mbL W L = mirTo W H L n := by
  unfold mbW mbL
  rw [if_pos h, if_pos h, Int.toNat_natCast, hn, hl, nn_div hW]
  exact ⟨rfl, rfl⟩
theorem mbL_le (z : Int) (L : List Int) : (mbL z L).length ≤ 9 := by
  rcases rdB_cases z L with ⟨h1, -⟩ | ⟨W, H, rfl, h1, -, hn, k1, k2, k3, k4, -⟩
  · rw [(mb_bad h1).2]; exact Nat.zero_le _
  · rw [(mb_good h1 hn k1 rfl).2, mirTo_length, hn]
    exact Nat.mul_le_mul k2 k4
theorem mirC_le {W H i : Nat} (hW : 1 ≤ W) (hW3 : W ≤ 3) (hH3 : H ≤ 3) (hi : i ≤ 9) : mirC W H i ≤ 18 := by
  have a1 : i % W < W := Nat.mod_lt _ (by omega)
  have a3 : i / W ≤ i := Nat.div_le_self _ _
  have a2 : i % W * H ≤ 9 := Nat.le_trans (Nat.mul_le_mul (show i % W ≤ 3 by omega) hH3) (by decide)
  unfold mirC
  omega
theorem mirTo_block {W H : Nat} {L : List Int} {k x : Nat} (h : gi L k = (x : Int) + 1) : (mirTo W H L k).set (mirC W H k) ((mirC W H x : Nat) + 1) = mirTo W H L (k + 1) := by
  rw [mirTo]
  congr 1
  unfold mirV
  rw [h, if_neg (by omega)]
  congr 2
  rw [show ((x : Int) + 1 - 1).toNat = x by omega]
set_option maxHeartbeats 1000000 in
set_option maxRecDepth 100000 in
theorem iMirrorBoard (z : Int) (L : List Int) (v : Value) (base : Nat) (w : World) (hown : w.ownsRow base 3 1 v L.length (intsV L)) (hl : L.length ≤ 1048576) :
    Calls Try.prog 43 #[.agg (bv z v)] w (RetBb 3 (mbW z L) (mbL z L) (bdOk z L) w) := by
  have gg := Gr.refl w
  have HOWN := hidI hown
  obtain ⟨p, m, q, rfl⟩ := own_slice hown
  clear hown
  rcases rdB_cases z L with ⟨h1, h2⟩ | ⟨W, H, rfl, h1, h2, hn, k1, k2, k3, k4, hA⟩
  · have HV := hidI h1
    have HR := hidI h2
    have HO := hidI (mb_bad h1)
    clear h1 h2
    go_enter Try.func43, Try.ntmps43
    go_wp2_with (first | (refine r_box (dst := some 1) 27 _ (bv (z) (.slice p m q)) rfl rfl ?_; intro w1 B1 N1; have g1 := N1.gr; have b1 : Blk w1 B1 (bv (z) (.slice p m q)) 27 := N1.blk; have l1 := N1.lo; have t1 := N1.hi; have z1 := g1.size; have gg := gg.trans g1; clear N1; obtain ⟨b1_0, b1_1⟩ := bcells b1) | (refine r_alloc (dst := some 2) 27 _ Try.ibzero rfl ?_; intro w2 B2 N2; have g2 := N2.gr; have b2 : Blk w2 B2 (bv 0 (.slice none 0 0)) 27 := N2.blk; have l2 := N2.lo; have t2 := N2.hi; have z2 := g2.size; have b1 := g2.blk b1; have gg := gg.trans g2; clear N2; obtain ⟨b2_0, b2_1⟩ := bcells b2) | (refine r_load_row 27 _ _ rfl _ _ _ b1 Try.underlying27 rfl Try.ibinfo rfl ?_) | (go_at_call 47; refine (readBoard_any z L _ base _ (gg.row HOWN.out) hl).mono ?_; rintro e w9 ⟨rfl, g9⟩; rw [HR.out, HV.out]; have z9 := g9.size; have b2 := g9.blk b2; have gg := gg.trans g9) | (refine r_alloc 52 _ Try.lzero rfl ?_; intro w3 B3 N3; have g3 := N3.gr; have b3 : Blk w3 B3 (lv 0 0 []) 52 := N3.blk; have l3 := N3.lo; have t3 := N3.hi; have z3 := g3.size; have b2 := g3.blk b2; have gg := gg.trans g3; clear N3; obtain ⟨b3_0, b3_1, b3_2⟩ := lcells b3) | (refine r_store_row 52 52 _ _ _ rfl (lv (0) (0) ([])) _ rfl b3 (Try.lsize' _ _ _) (by simp only [lv_size]) (lv_one _ _ _) rfl ?_; intro w4 u4 b3'; have z4 := u4.size; have gg := u4.gr gg (by omega); have b2 := u4.blk b2 (by omega); clear b3; have b3 := b3'; clear b3'; obtain ⟨b3_0, b3_1, b3_2⟩ := lcells b3) | (refine r_build 27 [] [] _ (Try.ibbuild0 _) rfl rfl ?_) | (refine r_store_row 27 27 _ _ _ rfl (bv (0) (.slice none 0 0)) _ rfl b2 Try.ibsize rfl (bv_one (rfl)) rfl ?_; intro w5 u5 b2'; have z5 := u5.size; have gg := u5.gr gg (by omega); clear b2; have b2 := b2'; clear b2'; obtain ⟨b2_0, b2_1⟩ := bcells b2))
    refine bodyPost_ret (results_row_bool rfl _ _ _ _ _ _ rfl b2 Try.underlying27 rfl Try.ibinfo) rfl ?_
    refine ⟨gg, _, fin_vb2 HO.out.1.symm HV.out.symm, ?_⟩
    rw [HO.out.2]
    exact World.ownsRow_nil _ _ _ _
  · have HV := hidI h1
    have HR := hidI h2
    have h9 : nn W H ≤ 9 := Nat.mul_le_mul k2 k4
    have h9' : nn H W ≤ 9 := Nat.mul_le_mul k4 k2
    obtain ⟨n, hnn⟩ : ∃ n, n = nn W H := ⟨_, rfl⟩
    have HO := hidI (mb_good h1 hn k1 (hnn.trans hn.symm))
    have HG := hidI (fun i (hi : i < n) => hasAll_lt hA i (by rw [hn, ← hnn]; exact hi))
    have HMC := hidI (fun i (hi : i < n) => mirC_lt (H := H) k1 (show i < nn W H by rw [← hnn]; exact hi))
    have HMH := hidI (fun k (hk : k < n) (h0 : gi L k = 0) => mirTo_hole k1 hn (by rw [← hnn]; exact hk) h0)
    have HML := hidI (fun k => (mirTo_length W H L k).trans hn)
    have HNN := hidI hnn
    have HLN := hidI (show (L.length : Int) = n from by rw [hn, hnn])
    have hn9 : n ≤ 9 := by omega
    have HE0 := hidI (lv_ext (W := H) (H := W) (c := []) (d := mirTo W H L 0) fun i _ => by
      unfold mirTo gi
      simp [List.getD, List.getElem?_replicate]
      split <;> rfl)
    clear h1 h2 hn hA hnn
    go_enter Try.func43, Try.ntmps43
    go_wp2_with (first | (refine r_box (dst := some 1) 27 _ (bv (W) (.slice p m q)) rfl rfl ?_; intro w1 B1 N1; have g1 := N1.gr; have b1 : Blk w1 B1 (bv (W) (.slice p m q)) 27 := N1.blk; have l1 := N1.lo; have t1 := N1.hi; have z1 := g1.size; have gg := gg.trans g1; clear N1; obtain ⟨b1_0, b1_1⟩ := bcells b1) | (refine r_alloc (dst := some 2) 27 _ Try.ibzero rfl ?_; intro w2 B2 N2; have g2 := N2.gr; have b2 : Blk w2 B2 (bv 0 (.slice none 0 0)) 27 := N2.blk; have l2 := N2.lo; have t2 := N2.hi; have z2 := g2.size; have b1 := g2.blk b1; have gg := gg.trans g2; clear N2; obtain ⟨b2_0, b2_1⟩ := bcells b2) | (refine r_load_row 27 _ _ rfl _ _ _ b1 Try.underlying27 rfl Try.ibinfo rfl ?_) | (go_at_call 47; refine (readBoard_any W L _ base _ (gg.row HOWN.out) hl).mono ?_; rintro e w9 ⟨rfl, g9⟩; rw [HR.out, HV.out]; have z9 := g9.size; have b2 := g9.blk b2; have gg := gg.trans g9) | (refine r_alloc (dst := some 4) 52 _ Try.lzero rfl ?_; intro w3 B3 N3; have g3 := N3.gr; have b3 : Blk w3 B3 (lv 0 0 []) 52 := N3.blk; have l3 := N3.lo; have t3 := N3.hi; have z3 := g3.size; have b2 := g3.blk b2; have gg := gg.trans g3; clear N3; obtain ⟨b3_0, b3_1, b3_2⟩ := lcells b3) | (refine r_store_row 52 52 _ _ _ rfl (lv (W) (H) (L)) _ rfl b3 (Try.lsize' _ _ _) (by simp only [lv_size]) (lv_one _ _ _) rfl ?_; intro w4 u4 b3'; have z4 := u4.size; have gg := u4.gr gg (by omega); have b2 := u4.blk b2 (by omega); clear b3; have b3 := b3'; clear b3'; obtain ⟨b3_0, b3_1, b3_2⟩ := lcells b3) | (refine r_build 52 [(0, .tmp 18), (1, .tmp 20)] [(0, .int .i64 (H)), (1, .int .i64 (W))] _ (Try.lbuild _ _ _) rfl rfl ?_) | (refine r_alloc (dst := some 6) 52 _ Try.lzero rfl ?_; intro w6 B6 N6; have g6 := N6.gr; have b6 : Blk w6 B6 (lv 0 0 []) 52 := N6.blk; have l6 := N6.lo; have t6 := N6.hi; have z6 := g6.size; have b2 := g6.blk b2; have b3 := g6.blk b3; obtain ⟨b3_0, b3_1, b3_2⟩ := lcells b3; have gg := gg.trans g6; clear N6; obtain ⟨b6_0, b6_1, b6_2⟩ := lcells b6) | (refine r_store_row 52 52 _ _ _ rfl (lv (H) (W) ([])) _ rfl b6 (Try.lsize' _ _ _) (by simp only [lv_size]) (lv_one _ _ _) rfl ?_; intro w7 u7 b6'; have z7 := u7.size; have gg := u7.gr gg (by omega); have b2 := u7.blk b2 (by omega); have b3 := u7.blk b3 (by omega); obtain ⟨b3_0, b3_1, b3_2⟩ := lcells b3; clear b6; have b6 := b6'; clear b6'; obtain ⟨b6_0, b6_1, b6_2⟩ := lcells b6) | (refine r_load_row 52 _ _ rfl _ _ _ b3 Try.underlying52 rfl (Try.linfo' _ _ _) rfl ?_) | (go_at_call 76; refine (cellsOf_any W H L _ h9).mono ?_; rintro e w5 ⟨g5, B5, rfl, b5, l5⟩; rw [← HNN.out]; have gg := gg.trans g5; have z5 := g5.size; have b3 := g5.blk b3; have b2 := g5.blk b2; have b6 := g5.blk b6))
    rw [HE0.out] at b6
    go_loopw [7, 8, 25] (fun _ _ iv wr => ∃ k : Nat, k ≤ n ∧ iv = .int .i64 k ∧ Blk wr B2 (bv 0 (.slice none 0 0)) 27 ∧ Blk wr B3 (lv W H L) 52 ∧ Blk wr B5 (lv W H L) 52 ∧ Blk wr B6 (lv H W (mirTo W H L k)) 52 ∧ Gr w wr) (fun _ _ iv _ => n - (intOf iv).toNat)
    case atStart => exact ⟨0, Nat.zero_le _, rfl, b2, b3, b5, b6, gg⟩
    case round =>
      obtain ⟨k, hk, rfl, b2, b3, b5, b6, gg⟩ := hrel
      have hB23 : B2 < B3 := by omega
      have hB36 : B3 < B6 := by omega
      have hB65 : B6 < B5 := by omega
      have lo1 : w.heap.size ≤ B2 := by omega
      clear b3_0 b3_1 b3_2 b6_0 b6_1 b6_2 b2_0 b2_1
      by_cases hlt : k < n
      · have hc := (lcells b5).2.2 k (by omega)
        have hxr := HG.out k hlt
        rw [HLN.out] at hxr
        by_cases h0 : gi L k = 0
        · have HS := hidI (HMH.out k hlt h0)
          rw [h0] at hc
          clear h0 hxr
          go_wp2
          go_roundw
          case rel => exact ⟨k + 1, by omega, by go_num, b2, b3, b5, by rw [HS.out]; exact b6, gg⟩
          case measure => simp [intOf]; omega
        · obtain ⟨x, hx⟩ : ∃ x : Nat, gi L k = (x : Int) + 1 := ⟨(gi L k - 1).toNat, by omega⟩
          have hcn := HMC.out k hlt
          have hxn : x < n := by omega
          have hdn := HMC.out x hxn
          have hbl := mirTo_block (W := W) (H := H) hx
          rw [hx] at hc
          have e1 : ((x : Int) + 1 != 0) = true := by rw [bne_iff_ne]; omega
          obtain ⟨cc, hcc⟩ : ∃ cc, cc = mirC W H k := ⟨_, rfl⟩
          obtain ⟨dd, hdd⟩ : ∃ dd, dd = mirC W H x := ⟨_, rfl⟩
          rw [← hcc] at hcn hbl
          rw [← hdd] at hdn hbl
          have HCC := hidI hcc
          have HDD := hidI hdd
          have hix := Try.lix B6 cc (by omega)
          have HS := hidI (show (lv (H : Int) (W : Int) (mirTo W H L k)).setIfInBounds (2 + cc) (.int .i64 ((dd : Int) + 1)) = lv H W (mirTo W H L (k + 1)) from by
            rw [lv_set _ _ _ _ _ (by omega) (by rw [HML.out]; exact hcn), hbl])
          have hcc9 : cc < 9 := by omega
          have hdd9 : dd ≤ 9 := by omega
          clear h0 hxr hx hcc hdd hbl hcn hdn
          go_wp2
          refine q_begin 10 (by kernel_rfl) (by kernel_rfl) ?_; simp only [List.take_succ_cons, List.take_zero, List.drop_succ_cons, List.drop_zero]
          refine q_take (.agg (lv W H L)) rfl (fun w' hw' => e_load_row 52 (.tmp 4) _ _ _ _ rfl (hw'.blk b3) Try.underlying52 rfl (Try.linfo' _ _ _)) ?_; simp only [Act.put, List.setIfInBounds_toArray, List.set_cons_succ, List.set_cons_zero]
          refine q_move _ (.int .i64 k) rfl rfl ?_; simp only [Act.put, List.setIfInBounds_toArray, List.set_cons_succ, List.set_cons_zero]
          refine q_call 78 [.tmp 32, .tmp 33] _ [.agg (lv W H L), .int .i64 k] (.int .i64 (cc : Nat)) Try.call78 rfl rfl (fun w' hw' => ((mirC_any W H L k w' k1 k2 k4 (by omega)).mono fun e w'' h => ⟨by rw [h.1, HCC.out], hw'.trans h.2⟩)) ?_; simp only [Act.put, List.setIfInBounds_toArray, List.set_cons_succ, List.set_cons_zero]
          refine q_take (.agg (lv W H L)) rfl (fun w' hw' => e_load_row 52 (.tmp 4) _ _ _ _ rfl (hw'.blk b3) Try.underlying52 rfl (Try.linfo' _ _ _)) ?_; simp only [Act.put, List.setIfInBounds_toArray, List.set_cons_succ, List.set_cons_zero]
          refine q_move _ (.int .i64 ((x : Int) + 1)) rfl rfl ?_; simp only [Act.put, List.setIfInBounds_toArray, List.set_cons_succ, List.set_cons_zero]
          refine q_sub _ _ _ _ ((x : Int) + 1) (1) (x) rfl rfl (by omega) (by omega) rfl ?_; simp only [Act.put, List.setIfInBounds_toArray, List.set_cons_succ, List.set_cons_zero]
          refine q_call 78 [.tmp 35, .tmp 37] _ [.agg (lv W H L), .int .i64 x] (.int .i64 (dd : Nat)) Try.call78 rfl rfl (fun w' hw' => ((mirC_any W H L x w' k1 k2 k4 (by omega)).mono fun e w'' h => ⟨by rw [h.1, HDD.out], hw'.trans h.2⟩)) ?_; simp only [Act.put, List.setIfInBounds_toArray, List.set_cons_succ, List.set_cons_zero]
          refine q_add _ _ _ _ (dd) (1) ((dd : Int) + 1) rfl rfl (rfl) (by omega) rfl ?_; simp only [Act.put, List.setIfInBounds_toArray, List.set_cons_succ, List.set_cons_zero]
          refine q_take (.pointer (some ⟨B6, 2, none⟩)) rfl (fun w' hw' => e_val _ _ (Try.lf2 B6 _)) ?_; simp only [Act.put, List.setIfInBounds_toArray, List.set_cons_succ, List.set_cons_zero]
          refine q_take (.pointer (some ⟨B6, 2 + cc, none⟩)) rfl (fun w' hw' => e_val _ _ (hix _)) ?_; simp only [Act.put, List.setIfInBounds_toArray, List.set_cons_succ, List.set_cons_zero]
          refine wpQuiet_nil ?_; intro w11 g11; have z11 := g11.size; have b2 := g11.blk b2; have b3 := g11.blk b3; have b5 := g11.blk b5; have b6 := g11.blk b6; obtain ⟨b6_0, b6_1, b6_2⟩ := lcells b6; have gg := gg.trans g11
          (refine r_store_cell 3 52 _ _ B6 (2 + cc) rfl (.int .i64 ((dd : Int) + 1)) rfl _ b6 (by rw [lv_size]; omega) Try.sizeOf3 rfl rfl ?_; intro w12 u12 b6'; rw [(HS).out] at b6'; have z12 := u12.size; have gg := u12.gr gg (by omega); have b2 := u12.blk b2 (by omega); have b3 := u12.blk b3 (by omega); have b5 := u12.blk b5 (by omega); clear b6; have b6 := b6'; clear b6'; obtain ⟨b6_0, b6_1, b6_2⟩ := lcells b6)
          go_wp2
          go_roundw
          case rel => exact ⟨k + 1, by omega, by go_num, b2, b3, b5, b6, gg⟩
          case measure => simp [intOf]; omega
      · obtain rfl : k = n := by omega
        have zr := gg.size
        clear hlt
        go_wp2_with (refine r_load_row 52 _ _ rfl _ _ _ b6 Try.underlying52 rfl (Try.linfo' _ _ _) rfl ?_)
        refine (boardOf_any H W (mirTo W H L k) _ (by rw [HML.out]; unfold nn; exact Nat.mul_comm _ _) h9').mono ?_
        rintro e w13 ⟨g13, v13, rfl, own13⟩
        have b2 := g13.blk b2
        have z13 := g13.size
        have gg := gg.trans g13
        have hone := own_one own13
        have hne := own_ne own13 b2 (by decide)
        go_wp2_with (refine r_store_row 27 27 _ _ _ rfl (bv (H) (v13)) _ rfl b2 Try.ibsize rfl (bv_one (hone)) rfl ?_; intro w14 u14 b2'; have z14 := u14.size; have gg := u14.gr gg (by omega); clear b2; have b2 := b2'; clear b2'; obtain ⟨b2_0, b2_1⟩ := bcells b2)
        refine bodyPost_ret (results_row_bool rfl _ _ _ _ _ _ rfl b2 Try.underlying27 rfl Try.ibinfo) rfl ?_
        refine ⟨gg, v13, fin_vb2 HO.out.1.symm HV.out.symm, ?_⟩
        rw [HO.out.2]
        exact own_up (u14.row own13 hne) (by have := Gr.size gg; omega)
theorem Try.isix (g n cap k : Nat) (hk : k < n) (w : World) : (Instr.indexAt 22 (.slice (some ⟨g, 0, none⟩) n cap) (.int .i64 k)).run Try.prog w = .ok (.pointer (some ⟨g, k, none⟩)) w := by
  have he : Try.prog.elem 22 = 3 := by kernel_rfl
  have hu : Try.prog.underlying 22 = some (.slice (Try.prog.elem 22)) := by rw [he]; exact Try.underlying22
  have hs : (sizeOf 3).run Try.prog w = .ok 1 w := by kernel_rfl
  rw [run_indexAt_slice w 22 ⟨g, 0, none⟩ n cap .i64 k hu, if_pos (by omega), he]
  simp [hs, Result.andThen, add_flat]
theorem mirV_val {W H x : Nat} : mirV W H ((x : Int) + 1) = ((x % W * H + x / W : Nat) : Int) + 1 := by
  unfold mirV mirC
  rw [if_neg (by omega), show ((x : Int) + 1 - 1).toNat = x by omega]
theorem fitsN {m : Nat} (h : m ≤ 1000) : -9223372036854775808 ≤ (m : Int) ∧ (m : Int) ≤ 9223372036854775807 := by omega
theorem mirV_zero {W H : Nat} : mirV W H 0 = 0 := by unfold mirV; rw [if_pos rfl]
set_option maxHeartbeats 2000000 in
set_option maxRecDepth 100000 in
theorem sMirrorBoard (z : Int) (L : List Int) (v : Value) (base : Nat) (w : World) (hown : w.ownsRow base 3 1 v L.length (intsV L)) (hl : L.length ≤ 1048576) :
    Calls Try.prog 42 #[.agg (bv z v)] w (RetBb 3 (mbW z L) (mbL z L) (bdOk z L) w) := by
  have gg := Gr.refl w
  rcases rdB_cases z L with ⟨h1, h2⟩ | ⟨W, H, rfl, h1, h2, hn, k1, k2, k3, k4, hA⟩
  · have HOWN := hidI hown
    obtain ⟨p, m, q, rfl⟩ := own_slice hown
    clear hown
    have HV := hidI h1
    have HO := hidI (mb_bad h1)
    clear h1 h2
    go_enter Try.func42, Try.ntmps42
    go_wp2_with (first | (refine r_box (dst := some 1) 27 _ (bv (z) (.slice p m q)) rfl rfl ?_; intro w1 B1 N1; have g1 := N1.gr; have b1 : Blk w1 B1 (bv (z) (.slice p m q)) 27 := N1.blk; have l1 := N1.lo; have t1 := N1.hi; have z1 := g1.size; have gg := gg.trans g1; clear N1; obtain ⟨b1_0, b1_1⟩ := bcells b1) | (refine r_alloc (dst := some 2) 27 _ Try.ibzero rfl ?_; intro w2 B2 N2; have g2 := N2.gr; have b2 : Blk w2 B2 (bv 0 (.slice none 0 0)) 27 := N2.blk; have l2 := N2.lo; have t2 := N2.hi; have z2 := g2.size; have b1 := g2.blk b1; have gg := gg.trans g2; clear N2; obtain ⟨b2_0, b2_1⟩ := bcells b2) | (refine r_load_row 27 _ _ rfl _ _ _ b1 Try.underlying27 rfl Try.ibinfo rfl ?_) | (go_at_call 45; refine (blGood_any z L _ base _ (gg.row HOWN.out) hl).mono ?_; rintro e w9 ⟨rfl, g9⟩; rw [HV.out]; have z9 := g9.size; have b2 := g9.blk b2; have gg := gg.trans g9) | (refine r_build 27 [] [] _ (Try.ibbuild0 _) rfl rfl ?_) | (refine r_store_row 27 27 _ _ _ rfl (bv (0) (.slice none 0 0)) _ rfl b2 Try.ibsize rfl (bv_one (rfl)) rfl ?_; intro w5 u5 b2'; have z5 := u5.size; have gg := u5.gr gg (by omega); clear b2; have b2 := b2'; clear b2'; obtain ⟨b2_0, b2_1⟩ := bcells b2))
    refine bodyPost_ret (results_row_bool rfl _ _ _ _ _ _ rfl b2 Try.underlying27 rfl Try.ibinfo) rfl ?_
    refine ⟨gg, _, fin_vb2 HO.out.1.symm HV.out.symm, ?_⟩
    rw [HO.out.2]
    exact World.ownsRow_nil _ _ _ _
  · have HV := hidI h1
    have h9 : nn W H ≤ 9 := Nat.mul_le_mul k2 k4
    have h1n : 1 ≤ nn W H := Nat.mul_pos k1 k3
    obtain ⟨n, hnn⟩ : ∃ n, n = L.length := ⟨_, rfl⟩
    have HO := hidI (mb_good h1 hn k1 hnn)
    have HG := hidI (fun i (hi : i < n) => hasAll_lt hA i (by rw [← hnn]; exact hi))
    have HMC := hidI (fun i (hi : i < n) => mirC_lt (H := H) k1 (show i < nn W H by rw [← hn, ← hnn]; exact hi))
    have HML := hidI (fun k => (mirTo_length W H L k).trans hnn.symm)
    have HNW := hidI (show nn W H = n by rw [← hn, hnn])
    have HLN := hidI (show (L.length : Int) = n from by rw [hnn])
    have HN := hidI hnn
    have hn9 : n ≤ 9 := by omega
    have hn1 : 1 ≤ n := by omega
    have hne : W ≠ 0 := by omega
    have e3 : Int.tdiv (n : Int) (W : Int) = (H : Int) := tdiv_pos' (by omega) k1
    have HOW := hidI hown
    rw [← hnn] at hown
    obtain ⟨g, cap, rfl, hgb, hcap⟩ := own_shape hown hn1
    have HOWN := hidI hown
    have HE0 := hidI (show genI n (fun _ => 0) = mirTo W H L 0 from by
      apply int_ext (by rw [genI_length, mirTo_length, hnn])
      intro i hi
      rw [genI_length] at hi
      rw [genI_at _ _ _ hi]
      unfold mirTo gi
      simp [List.getD, List.getElem?_replicate]
      split <;> rfl)
    have hmk : n * 1 ≤ 16777216 := by omega
    have hby : 8 * n ≤ 281474976710656 := by omega
    clear h1 h2 hn hA hnn hown
    go_enter Try.func42, Try.ntmps42
    go_wp2_with (first | (refine r_box (dst := some 1) 27 _ (bv (W) (.slice (some ⟨g, 0, none⟩) n cap)) rfl rfl ?_; intro w1 B1 N1; have g1 := N1.gr; have b1 : Blk w1 B1 (bv (W) (.slice (some ⟨g, 0, none⟩) n cap)) 27 := N1.blk; have l1 := N1.lo; have t1 := N1.hi; have z1 := g1.size; have gg := gg.trans g1; clear N1; obtain ⟨b1_0, b1_1⟩ := bcells b1) | (refine r_alloc (dst := some 2) 27 _ Try.ibzero rfl ?_; intro w2 B2 N2; have g2 := N2.gr; have b2 : Blk w2 B2 (bv 0 (.slice none 0 0)) 27 := N2.blk; have l2 := N2.lo; have t2 := N2.hi; have z2 := g2.size; have b1 := g2.blk b1; have gg := gg.trans g2; clear N2; obtain ⟨b2_0, b2_1⟩ := bcells b2) | (refine r_load_row 27 _ _ rfl _ _ _ b1 Try.underlying27 rfl Try.ibinfo rfl ?_) | (go_at_call 45; refine (blGood_any W L _ base _ (gg.row HOW.out) hl).mono ?_; rintro e w9 ⟨rfl, g9⟩; rw [HV.out]; have z9 := g9.size; have b1 := g9.blk b1; obtain ⟨b1_0, b1_1⟩ := bcells b1; have b2 := g9.blk b2; have gg := gg.trans g9))
    go_quiet (fail)
    have gq10 := (Gr.refl w9).drewN nq; have b1 := gq10.blk b1; obtain ⟨b1_0, b1_1⟩ := bcells b1; have b2 := gq10.blk b2; have gg := gg.trans gq10; have zq10 := gq10.size; generalize w9.drewN nq = w10 at *; clear gq10
    have z10 := gg.size
    go_wp2_with (first | (refine r_make 22 3 _ _ _ Try.intsI (.tmp 25) (.tmp 25) n rfl rfl hmk hby (by omega) rfl ?_; intro w5 G6 N5; have own6 := own_zeros N5 (by omega); have g5 := N5.gr; have l5 := N5.lo; have z5 := g5.size; have b1 := g5.blk b1; have b2 := g5.blk b2; have gg := gg.trans g5; clear N5) | (refine r_build 27 [(0, .tmp 22), (1, .tmp 26)] [(0, .int .i64 (H)), (1, .slice (some ⟨G6, 0, none⟩) n n)] _ (Try.ibbuild _ _ _ _ _) rfl rfl ?_) | ((refine r_alloc (dst := some 6) 27 _ Try.ibzero rfl ?_; intro w6 B6 N6; have g6 := N6.gr; have b6 : Blk w6 B6 (bv 0 (.slice none 0 0)) 27 := N6.blk; have l6 := N6.lo; have t6 := N6.hi; have z6 := g6.size; have b1 := g6.blk b1; obtain ⟨b1_0, b1_1⟩ := bcells b1; have b2 := g6.blk b2; have gg := gg.trans g6; clear N6; obtain ⟨b6_0, b6_1⟩ := bcells b6); have own6 := g6.row own6) | (have hne6 := own_ne own6 b6 (by decide); (refine r_store_row 27 27 _ _ _ rfl (bv (H) (.slice (some ⟨G6, 0, none⟩) n n)) _ rfl b6 Try.ibsize rfl (bv_one (rfl)) rfl ?_; intro w7 u7 b6'; have z7 := u7.size; have gg := u7.gr gg (by omega); have b1 := u7.blk b1 (by omega); obtain ⟨b1_0, b1_1⟩ := bcells b1; have b2 := u7.blk b2 (by omega); clear b6; have b6 := b6'; clear b6'; obtain ⟨b6_0, b6_1⟩ := bcells b6); have own6 := u7.row own6 hne6))
    rw [HE0.out] at own6
    have own6 := own_up own6 (show w.heap.size ≤ _ by omega)
    go_loopw [7, 8, 9, 31] (fun _ _ _ iv wr => ∃ k : Nat, k ≤ n ∧ iv = .int .i64 k ∧ Blk wr B1 (bv W (.slice (some ⟨g, 0, none⟩) n cap)) 27 ∧ Blk wr B2 (bv 0 (.slice none 0 0)) 27 ∧ Blk wr B6 (bv H (.slice (some ⟨G6, 0, none⟩) n n)) 27 ∧ wr.ownsRow w.heap.size 3 1 (.slice (some ⟨G6, 0, none⟩) n n) n (intsV (mirTo W H L k)) ∧ Gr w wr) (fun _ _ _ iv _ => n - (intOf iv).toNat)
    case atStart => exact ⟨0, Nat.zero_le _, rfl, b1, b2, b6, own6, gg⟩
    case round =>
      obtain ⟨k, hk, rfl, b1, b2, b6, own6, gg⟩ := hrel
      have hB12 : B1 < B2 := by omega
      have hB26 : B2 < B6 := by omega
      have lo1 : w.heap.size ≤ B1 := by omega
      have lG : w.heap.size ≤ G6 := by omega
      clear b1_0 b1_1 b2_0 b2_1 b6_0 b6_1
      by_cases hlt : k < n
      · have hc := own_int (gg.row HOWN.out) k hlt HN.out
        have hxr := HG.out k hlt
        rw [HLN.out] at hxr
        have hcn := HMC.out k hlt
        rw [HNW.out] at hcn
        have hcc : mirC W H k = k % W * H + k / W := rfl
        have hm9 : k % W * H ≤ 9 := Nat.le_trans (Nat.le_add_right _ (k / W)) (by rw [← hcc]; exact Nat.le_of_lt (Nat.lt_of_lt_of_le hcn hn9))
        have HSET := hidI (show (mirTo W H L k).set (k % W * H + k / W) (mirV W H (gi L k)) = mirTo W H L (k + 1) from rfl)
        rw [hcc] at hcn
        clear hcc
        by_cases h0 : gi L k = 0
        · rw [h0] at hc
          rw [h0, mirV_zero] at HSET
          clear h0 hxr
          go_wp2
          refine q_begin 13 (by kernel_rfl) (by kernel_rfl) ?_; simp only [List.take_succ_cons, List.take_zero, List.drop_succ_cons, List.drop_zero]
          refine q_take (.pointer (some ⟨B6, 1, none⟩)) rfl (fun w' hw' => rfl) ?_; simp only [Act.put, List.setIfInBounds_toArray, List.set_cons_succ, List.set_cons_zero]
          refine q_take (.slice (some ⟨G6, 0, none⟩) n n) rfl (fun w' hw' => e_load 22 (.tmp 50) ⟨B6, 1, none⟩ _ rfl (Try.isAgg22 _) (hw'.cell (bcells b6).2)) ?_; simp only [Act.put, List.setIfInBounds_toArray, List.set_cons_succ, List.set_cons_zero]
          refine q_move _ (.int .i64 k) rfl rfl ?_; simp only [Act.put, List.setIfInBounds_toArray, List.set_cons_succ, List.set_cons_zero]
          refine q_move _ (.int .i64 W) rfl rfl ?_; simp only [Act.put, List.setIfInBounds_toArray, List.set_cons_succ, List.set_cons_zero]
          refine q_rem _ _ _ _ (k) (W) rfl rfl (k1) rfl ?_; simp only [Act.put, List.setIfInBounds_toArray, List.set_cons_succ, List.set_cons_zero]
          refine q_move _ (.int .i64 H) rfl rfl ?_; simp only [Act.put, List.setIfInBounds_toArray, List.set_cons_succ, List.set_cons_zero]
          refine q_mul _ _ _ _ (((k % W : Nat) : Int)) (H) (((k % W * H : Nat) : Int)) rfl rfl ((Int.natCast_mul _ _).symm) (fitsN (Nat.le_trans hm9 (by decide))) rfl ?_; simp only [Act.put, List.setIfInBounds_toArray, List.set_cons_succ, List.set_cons_zero]
          refine q_move _ (.int .i64 k) rfl rfl ?_; simp only [Act.put, List.setIfInBounds_toArray, List.set_cons_succ, List.set_cons_zero]
          refine q_move _ (.int .i64 W) rfl rfl ?_; simp only [Act.put, List.setIfInBounds_toArray, List.set_cons_succ, List.set_cons_zero]
          refine q_quo _ _ _ _ (k) (W) rfl rfl (k1) (by omega) rfl ?_; simp only [Act.put, List.setIfInBounds_toArray, List.set_cons_succ, List.set_cons_zero]
          refine q_add _ _ _ _ (((k % W * H : Nat) : Int)) (((k / W : Nat) : Int)) (((k % W * H + k / W : Nat) : Int)) rfl rfl (by rw [Int.natCast_add]) (fitsN (Nat.le_trans (Nat.le_of_lt hcn) (by omega))) rfl ?_; simp only [Act.put, List.setIfInBounds_toArray, List.set_cons_succ, List.set_cons_zero]
          refine q_move _ (.int .i64 0) rfl rfl ?_; simp only [Act.put, List.setIfInBounds_toArray, List.set_cons_succ, List.set_cons_zero]
          refine q_take (.pointer (some ⟨G6, k % W * H + k / W, none⟩)) rfl (fun w' hw' => e_val _ _ (Try.isix G6 n n _ hcn _)) ?_; simp only [Act.put, List.setIfInBounds_toArray, List.set_cons_succ, List.set_cons_zero]
          refine wpQuiet_nil ?_; intro w11 g11; have own6 := g11.row own6; have b1 := g11.blk b1; have b2 := g11.blk b2; have b6 := g11.blk b6; have z11 := g11.size; have gg := gg.trans g11
          refine r_store_own 3 3 _ _ G6 (k % W * H + k / W) n n w.heap.size (intsV (mirTo W H L k)) rfl (.int .i64 (0)) rfl own6 hcn Try.sizeOf3 rfl rfl ?_
          intro w12 u12 own12
          rw [intsV_set, HSET.out] at own12
          have hn1' := own_neB own6 b1 (by decide)
          have hn2' := own_neB own6 b2 (by decide)
          have hn6' := own_neB own6 b6 (by decide)
          have b1 := u12.blk b1 hn1'
          have b2 := u12.blk b2 hn2'
          have b6 := u12.blk b6 hn6'
          have gg := u12.gr gg lG
          go_wp2
          go_roundw
          case rel => exact ⟨k + 1, by omega, by go_num, b1, b2, b6, own12, gg⟩
          case measure => simp [intOf]; omega
        · obtain ⟨x, hx⟩ : ∃ x : Nat, gi L k = (x : Int) + 1 := ⟨(gi L k - 1).toNat, by omega⟩
          have hdn := HMC.out x (by omega)
          rw [HNW.out] at hdn
          have hdd : mirC W H x = x % W * H + x / W := rfl
          rw [hdd] at hdn
          rw [hx] at hc
          rw [hx, mirV_val] at HSET
          have f1 := tmod_nat x W
          have f3 := tdiv_nat x W
          have f4 : ((x % W : Nat) : Int) * (H : Int) = ((x % W * H : Nat) : Int) := (Int.natCast_mul _ _).symm
          have hx9 : x ≤ 9 := by omega
          generalize x % W * H = xm at *
          generalize x % W = xa at *
          generalize x / W = xc at *
          have HSET := hidI (show (mirTo W H L k).set (k % W * H + k / W) ((xm : Int) + (xc : Int) + 1) = mirTo W H L (k + 1) from HSET.out)
          clear h0 hxr hx hdd
          go_wp2
          go_quiet (fail)
          have own6 := ((Gr.refl wr).drewN nq).row own6
          have gq9 := (Gr.refl wr).drewN nq; have b1 := gq9.blk b1; have b2 := gq9.blk b2; have b6 := gq9.blk b6; have gg := gg.trans gq9; have zq9 := gq9.size; generalize wr.drewN nq = w9 at *; clear gq9
          go_wp2
          refine q_begin 13 (by kernel_rfl) (by kernel_rfl) ?_; simp only [List.take_succ_cons, List.take_zero, List.drop_succ_cons, List.drop_zero]
          refine q_take (.pointer (some ⟨B6, 1, none⟩)) rfl (fun w' hw' => rfl) ?_; simp only [Act.put, List.setIfInBounds_toArray, List.set_cons_succ, List.set_cons_zero]
          refine q_take (.slice (some ⟨G6, 0, none⟩) n n) rfl (fun w' hw' => e_load 22 (.tmp 50) ⟨B6, 1, none⟩ _ rfl (Try.isAgg22 _) (hw'.cell (bcells b6).2)) ?_; simp only [Act.put, List.setIfInBounds_toArray, List.set_cons_succ, List.set_cons_zero]
          refine q_move _ (.int .i64 k) rfl rfl ?_; simp only [Act.put, List.setIfInBounds_toArray, List.set_cons_succ, List.set_cons_zero]
          refine q_move _ (.int .i64 W) rfl rfl ?_; simp only [Act.put, List.setIfInBounds_toArray, List.set_cons_succ, List.set_cons_zero]
          refine q_rem _ _ _ _ (k) (W) rfl rfl (k1) rfl ?_; simp only [Act.put, List.setIfInBounds_toArray, List.set_cons_succ, List.set_cons_zero]
          refine q_move _ (.int .i64 H) rfl rfl ?_; simp only [Act.put, List.setIfInBounds_toArray, List.set_cons_succ, List.set_cons_zero]
          refine q_mul _ _ _ _ (((k % W : Nat) : Int)) (H) (((k % W * H : Nat) : Int)) rfl rfl ((Int.natCast_mul _ _).symm) (fitsN (Nat.le_trans hm9 (by decide))) rfl ?_; simp only [Act.put, List.setIfInBounds_toArray, List.set_cons_succ, List.set_cons_zero]
          refine q_move _ (.int .i64 k) rfl rfl ?_; simp only [Act.put, List.setIfInBounds_toArray, List.set_cons_succ, List.set_cons_zero]
          refine q_move _ (.int .i64 W) rfl rfl ?_; simp only [Act.put, List.setIfInBounds_toArray, List.set_cons_succ, List.set_cons_zero]
          refine q_quo _ _ _ _ (k) (W) rfl rfl (k1) (by omega) rfl ?_; simp only [Act.put, List.setIfInBounds_toArray, List.set_cons_succ, List.set_cons_zero]
          refine q_add _ _ _ _ (((k % W * H : Nat) : Int)) (((k / W : Nat) : Int)) (((k % W * H + k / W : Nat) : Int)) rfl rfl (by rw [Int.natCast_add]) (fitsN (Nat.le_trans (Nat.le_of_lt hcn) (by omega))) rfl ?_; simp only [Act.put, List.setIfInBounds_toArray, List.set_cons_succ, List.set_cons_zero]
          refine q_move _ (.int .i64 ((xm : Int) + (xc : Int) + 1)) rfl rfl ?_; simp only [Act.put, List.setIfInBounds_toArray, List.set_cons_succ, List.set_cons_zero]
          refine q_take (.pointer (some ⟨G6, k % W * H + k / W, none⟩)) rfl (fun w' hw' => e_val _ _ (Try.isix G6 n n _ hcn _)) ?_; simp only [Act.put, List.setIfInBounds_toArray, List.set_cons_succ, List.set_cons_zero]
          refine wpQuiet_nil ?_; intro w11 g11; have own6 := g11.row own6; have b1 := g11.blk b1; have b2 := g11.blk b2; have b6 := g11.blk b6; have z11 := g11.size; have gg := gg.trans g11
          refine r_store_own 3 3 _ _ G6 (k % W * H + k / W) n n w.heap.size (intsV (mirTo W H L k)) rfl (.int .i64 ((xm : Int) + (xc : Int) + 1)) rfl own6 hcn Try.sizeOf3 rfl rfl ?_
          intro w12 u12 own12
          rw [intsV_set, HSET.out] at own12
          have hn1' := own_neB own6 b1 (by decide)
          have hn2' := own_neB own6 b2 (by decide)
          have hn6' := own_neB own6 b6 (by decide)
          have b1 := u12.blk b1 hn1'
          have b2 := u12.blk b2 hn2'
          have b6 := u12.blk b6 hn6'
          have gg := u12.gr gg lG
          go_wp2
          go_roundw
          case rel => exact ⟨k + 1, by omega, by go_num, b1, b2, b6, own12, gg⟩
          case measure => simp [intOf]; omega
      · obtain rfl : k = n := by omega
        have hone : (Value.slice (some ⟨G6, 0, none⟩) k k).oneCell' = true := rfl
        have hne := own_ne own6 b2 (by decide)
        clear hlt
        go_wp2_with (first | (refine r_load_row 27 _ _ rfl _ _ _ b6 Try.underlying27 rfl Try.ibinfo rfl ?_) | (refine r_store_row 27 27 _ _ _ rfl (bv (H) (.slice (some ⟨G6, 0, none⟩) k k)) _ rfl b2 Try.ibsize rfl (bv_one (hone)) rfl ?_; intro w14 u14 b2'; have z14 := u14.size; have gg := u14.gr gg (by omega); clear b2; have b2 := b2'; clear b2'; obtain ⟨b2_0, b2_1⟩ := bcells b2))
        refine bodyPost_ret (results_row_bool rfl _ _ _ _ _ _ rfl b2 Try.underlying27 rfl Try.ibinfo) rfl ?_
        refine ⟨gg, _, fin_vb2 HO.out.1.symm HV.out.symm, ?_⟩
        rw [HO.out.2, HML.out]
        exact u14.row own6 hne
set_option maxHeartbeats 4000000 in
set_option maxRecDepth 100000 in
theorem lawMirrorBoard (z : Int) (v : Value) (L : List Int) (w : World) (hs : Sl w v L) (hbig : L.length ≤ 9223372036854775807) : Calls Try.prog 13 #[.agg (bv z v)] w (Ret (.bool true) w) := by
  have gg := Gr.refl w
  obtain ⟨p, c, rfl, hr⟩ := hs
  by_cases hl : 1048576 < L.length
  · have HZ := hidI (show szR L.length = -1 from if_pos hl)
    go_enter Try.func13, Try.ntmps13
    go_wp2_with (first | (refine r_box 24 _ (bv (z) (.slice p L.length c)) rfl rfl ?_; intro w1 B1 N1; have g1 := N1.gr; have b1 : Blk w1 B1 (bv (z) (.slice p L.length c)) 24 := N1.blk; have l1 := N1.lo; have t1 := N1.hi; have z1 := g1.size; have gg := gg.trans g1; clear N1; obtain ⟨b1_0, b1_1⟩ := bcells b1) | (refine r_load_row 24 _ _ rfl _ _ _ b1 Try.underlying24 rfl Try.lbinfo rfl ?_) | (go_at_call 14; refine (szBoard_any z p L.length c _ hbig).mono ?_; rintro e w2 ⟨rfl, g2⟩; rw [HZ.out]; have z2 := g2.size; have gg := gg.trans g2))
    go_ret
    exact ⟨rfl, gg⟩
  · have hl : L.length ≤ 1048576 := by omega
    have HZ := hidI (show szR L.length = 1048576 - (L.length : Int) from if_neg (by omega))
    have HR := hidI hr
    have hle := mbL_le z L
    obtain ⟨ok, hok⟩ : ∃ ok, ok = bdOk z L := ⟨_, rfl⟩
    obtain ⟨y, hy⟩ : ∃ y, y = mbW z L := ⟨_, rfl⟩
    obtain ⟨M, hM⟩ : ∃ M, M = mbL z L := ⟨_, rfl⟩
    have HOK := hidI hok
    have HY := hidI hy
    have HM := hidI hM
    rw [← hM] at hle
    have hm : M.length ≤ 1048576 := by omega
    clear hr hok hy hM
    go_enter Try.func13, Try.ntmps13
    go_wp2_with (first | (refine r_box 24 _ (bv (z) (.slice p L.length c)) rfl rfl ?_; intro w1 B1 N1; have g1 := N1.gr; have b1 : Blk w1 B1 (bv (z) (.slice p L.length c)) 24 := N1.blk; have l1 := N1.lo; have t1 := N1.hi; have z1 := g1.size; have gg := gg.trans g1; clear N1; obtain ⟨b1_0, b1_1⟩ := bcells b1) | (refine r_load_row 24 _ _ rfl _ _ _ b1 Try.underlying24 rfl Try.lbinfo rfl ?_) | (go_at_call 14; refine (szBoard_any z p L.length c _ hbig).mono ?_; rintro e w2 ⟨rfl, g2⟩; rw [HZ.out]; have z2 := g2.size; have b1 := g2.blk b1; have gg := gg.trans g2))
    refine (toBoard_any z p c L _ (HR.out.gr gg) hl).mono ?_
    rintro e w2 ⟨g2, v2, rfl, own2⟩
    have b1 := g2.blk b1
    have z2 := g2.size
    have gg := gg.trans g2
    go_wp2_with fail
    refine (sMirrorBoard z L v2 _ _ own2 hl).mono ?_
    rintro e w3 ⟨g3, v3, rfl, own3⟩
    rw [← HOK.out, ← HY.out]
    rw [← HM.out] at own3
    have b1 := g3.blk b1
    have z3 := g3.size
    have gg := gg.trans g3
    have hone3 := own_one own3
    go_wp2_with (first | ((refine r_alloc 27 _ Try.ibzero rfl ?_; intro w4 B4 N4; have g4 := N4.gr; have b4 : Blk w4 B4 (bv 0 (.slice none 0 0)) 27 := N4.blk; have l4 := N4.lo; have t4 := N4.hi; have z4 := g4.size; have b1 := g4.blk b1; have gg := gg.trans g4; clear N4; obtain ⟨b4_0, b4_1⟩ := bcells b4); have own3 := g4.row own3) | (have hne := own_ne own3 b4 (by decide); (refine r_store_row 27 27 _ _ _ rfl (bv (y) (v3)) _ rfl b4 Try.ibsize rfl (bv_one (hone3)) rfl ?_; intro w14 u14 b4'; have z14 := u14.size; have gg := u14.gr gg (by omega); have b1 := u14.blk b1 (by omega); clear b4; have b4 := b4'; clear b4'; obtain ⟨b4_0, b4_1⟩ := bcells b4); have own3 := u14.row own3 hne) | (refine r_load_row 24 _ _ rfl _ _ _ b1 Try.underlying24 rfl Try.lbinfo rfl ?_))
    refine (toBoard_any z p c L _ (HR.out.gr gg) hl).mono ?_
    rintro e w5 ⟨g5, v5, rfl, own5⟩
    have HA35 := hidI (own_apartB own3 own5 (Nat.le_refl _))
    have own3 := g5.row own3
    have b1 := g5.blk b1
    have b4 := g5.blk b4
    have z5 := g5.size
    have gg := gg.trans g5
    have hone5 := own_one own5
    go_wp2_with (first | ((refine r_alloc 27 _ Try.ibzero rfl ?_; intro w6 B6 N6; have g6 := N6.gr; have b6 : Blk w6 B6 (bv 0 (.slice none 0 0)) 27 := N6.blk; have l6 := N6.lo; have t6 := N6.hi; have z6 := g6.size; have b1 := g6.blk b1; have b4 := g6.blk b4; have gg := gg.trans g6; clear N6; obtain ⟨b6_0, b6_1⟩ := bcells b6); have own3 := g6.row own3; have own5 := g6.row own5) | (have hne := own_ne own3 b6 (by decide); have hne5 := own_ne own5 b6 (by decide); (refine r_store_row 27 27 _ _ _ rfl (bv (z) (v5)) _ rfl b6 Try.ibsize rfl (bv_one (hone5)) rfl ?_; intro w16 u16 b6'; have z16 := u16.size; have gg := u16.gr gg (by omega); have b1 := u16.blk b1 (by omega); have b4 := u16.blk b4 (by omega); clear b6; have b6 := b6'; clear b6'; obtain ⟨b6_0, b6_1⟩ := bcells b6); have own3 := u16.row own3 hne; have own5 := u16.row own5 hne5) | (refine r_load_row 27 _ _ rfl _ _ _ b6 Try.underlying27 rfl Try.ibinfo rfl ?_))
    refine (iMirrorBoard z L v5 _ _ own5 hl).mono ?_
    rintro e w7 ⟨g7, v7, rfl, own7⟩
    rw [← HOK.out, ← HY.out]
    rw [← HM.out] at own7
    have HA37 := hidI (own_apartB own3 own7 (by omega))
    have HA75 := hidI (apart_symm (own_apartB own5 own7 (by omega)))
    have own3 := g7.row own3
    have own5 := g7.row own5
    have b1 := g7.blk b1
    have b4 := g7.blk b4
    have b6 := g7.blk b6
    have z7 := g7.size
    have gg := gg.trans g7
    have hone7 := own_one own7
    go_wp2_with (first | ((refine r_alloc 27 _ Try.ibzero rfl ?_; intro w7 B7 N7; have g7 := N7.gr; have b7 : Blk w7 B7 (bv 0 (.slice none 0 0)) 27 := N7.blk; have l7 := N7.lo; have t7 := N7.hi; have z7 := g7.size; have b1 := g7.blk b1; have b4 := g7.blk b4; have b6 := g7.blk b6; have gg := gg.trans g7; clear N7; obtain ⟨b7_0, b7_1⟩ := bcells b7); have own3 := g7.row own3; have own5 := g7.row own5; have own7 := g7.row own7) | (have hne := own_ne own3 b7 (by decide); have hne5 := own_ne own5 b7 (by decide); have hne7 := own_ne own7 b7 (by decide); (refine r_store_row 27 27 _ _ _ rfl (bv (y) (v7)) _ rfl b7 Try.ibsize rfl (bv_one (hone7)) rfl ?_; intro w17 u17 b7'; have z17 := u17.size; have gg := u17.gr gg (by omega); have b1 := u17.blk b1 (by omega); have b4 := u17.blk b4 (by omega); have b6 := u17.blk b6 (by omega); clear b7; have b7 := b7'; clear b7'; obtain ⟨b7_0, b7_1⟩ := bcells b7); have own3 := u17.row own3 hne; have own5 := u17.row own5 hne5; have own7 := u17.row own7 hne7) | (refine r_load_row 27 _ _ rfl _ _ _ b7 Try.underlying27 rfl Try.ibinfo rfl ?_) | (refine r_load_row 27 _ _ rfl _ _ _ b4 Try.underlying27 rfl Try.ibinfo rfl ?_))
    refine (eqBoard_same y M v7 v3 _ _ _ own7 own3 hm).mono ?_
    rintro e w8 ⟨rfl, g8⟩
    have own3 := g8.row own3
    have own5 := g8.row own5
    have own7 := g8.row own7
    have b1 := g8.blk b1
    have b4 := g8.blk b4
    have b6 := g8.blk b6
    have b7 := g8.blk b7
    have z8 := g8.size
    have gg := gg.trans g8
    go_wp2
    refine F_begin (fun w => Blk w B6 (bv z v5) 27) 3 5 #[false, false, false, false, false] rfl (by kernel_rfl) (by kernel_rfl) ?_
    have gd := (Gr.refl w8).drew
    have b1 := gd.blk b1
    have b4 := gd.blk b4
    have b6 := gd.blk b6
    have b7 := gd.blk b7
    have own3 := gd.row own3
    have own5 := gd.row own5
    have own7 := gd.row own7
    have gg := gg.trans gd
    have zd := gd.size
    generalize (w8).drew = wd at *
    refine F_take (v := .agg (bv z v5)) 0 #[true, false, false, false, false] rfl (by kernel_rfl) (fun _ _ _ h => h) rfl (fun w hF => e_load_row 27 (.tmp 6) _ _ _ _ rfl hF Try.underlying27 rfl Try.ibinfo) (b6) ?_; simp only [Act.put, List.setIfInBounds_toArray, List.set_cons_succ, List.set_cons_zero]
    refine F_one 1 #[true, true, false, false, false] rfl (by kernel_rfl) ?_
    (refine r_load_row 24 _ _ rfl _ _ _ b1 Try.underlying24 rfl Try.lbinfo rfl ?_)
    refine ⟨fun _ => b6, ?_⟩
    simp only [Act.put, List.setIfInBounds_toArray, List.set_cons_succ, List.set_cons_zero]
    refine F_one 2 #[true, true, true, false, false] rfl (by kernel_rfl) ?_
    refine r_callx 16 [.tmp 42] _ [.agg (bv z (.slice p L.length c))] (fun v w' => Gr wd w' ∧ ∃ u, v = .agg (bv z u) ∧ w'.ownsRow wd.heap.size 3 1 u L.length (intsV L)) Try.call16 rfl rfl ((toBoard_any z p c L _ (HR.out.gr gg) hl).mono fun e w' h => by obtain ⟨g, v, h1, h2⟩ := h; exact ⟨_, h1, g, v, rfl, h2⟩) ?_
    rintro _ wq8 ⟨gq8, vq8, rfl, ownq8⟩
    have b1 := gq8.blk b1
    have b4 := gq8.blk b4
    have b6 := gq8.blk b6
    have b7 := gq8.blk b7
    have own3 := gq8.row own3
    have own5 := gq8.row own5
    have own7 := gq8.row own7
    have gg := gg.trans gq8
    have zq8 := gq8.size
    refine ⟨fun _ => b6, ?_⟩
    simp only [Act.put, List.setIfInBounds_toArray, List.set_cons_succ, List.set_cons_zero]
    refine F_one 3 #[true, true, true, true, false] rfl (by kernel_rfl) ?_
    refine r_call 18 [.tmp 41, .tmp 43] _ [.agg (bv z v5), .agg (bv z vq8)] (.bool true) (fun w' => Gr wq8 w') Try.call18 rfl rfl (eqBoard_same z L v5 vq8 _ _ wq8 own5 ownq8 hl) ?_
    intro wq9 gq9
    have b1 := gq9.blk b1
    have b4 := gq9.blk b4
    have b6 := gq9.blk b6
    have b7 := gq9.blk b7
    have own3 := gq9.row own3
    have own5 := gq9.row own5
    have own7 := gq9.row own7
    have gg := gg.trans gq9
    have zq9 := gq9.size
    refine ⟨fun h => (by cases h), ?_⟩
    simp only [Act.put, List.setIfInBounds_toArray, List.set_cons_succ, List.set_cons_zero]
    refine F_one 4 #[true, true, true, true, true] rfl (by kernel_rfl) ?_
    refine r_val (.bool false) rfl rfl ?_
    refine ⟨fun h => (by cases h), ?_⟩
    simp only [Act.put, List.setIfInBounds_toArray, List.set_cons_succ, List.set_cons_zero]
    refine F_done (by kernel_rfl) ?_
    go_wp2_with (refine r_load_row 27 _ _ rfl _ _ _ b6 Try.underlying27 rfl Try.ibinfo rfl ?_)
    have hn4 := own_ne own5 b4 (by decide)
    have hn7 := own_ne own5 b7 (by decide)
    have hn1 := own_ne own5 b1 (by decide)
    refine (markBoard_any z L v5 1 _ _ own5 hl (by decide)).mono ?_
    rintro e w10 ⟨rfl, own5', g10⟩
    have own3 := g10.row own3 HA35.out
    have own7 := g10.row own7 HA75.out
    have b1 := g10.blk b1 hn1
    have b4 := g10.blk b4 hn4
    have b7 := g10.blk b7 hn7
    have gg := g10.gr gg (own_gr own5 (by omega))
    have z10 := g10.size
    clear own5' own5
    obtain ⟨n5, hn5⟩ : ∃ n : Nat, n = 1 + L.length := ⟨_, rfl⟩
    rw [← hn5]
    have hn5b : n5 ≤ 1048577 := by omega
    clear hn5
    go_wp2_with (first | (refine r_load_row 27 _ _ rfl _ _ _ b7 Try.underlying27 rfl Try.ibinfo rfl ?_) | (refine r_load_row 27 _ _ rfl _ _ _ b4 Try.underlying27 rfl Try.ibinfo rfl ?_) | ((go_at_call 18; refine (eqBoard_same y M v7 v3 _ _ _ own7 own3 hm).mono ?_; rintro e w11 ⟨rfl, g11⟩; have z11 := g11.size; have b1 := g11.blk b1; have b4 := g11.blk b4; have b7 := g11.blk b7; have gg := gg.trans g11); have own3 := g11.row own3; have own7 := g11.row own7))
    have hn4 := own_ne own7 b4 (by decide)
    have hn7 := own_ne own7 b7 (by decide)
    have hn1 := own_ne own7 b1 (by decide)
    refine (markBoard_any y M v7 1 _ _ own7 hm (by decide)).mono ?_
    rintro e w12 ⟨rfl, own7', g12⟩
    have own3 := g12.row own3 HA37.out
    have b1 := g12.blk b1 hn1
    have b4 := g12.blk b4 hn4
    have b7 := g12.blk b7 hn7
    have gg := g12.gr gg (own_gr own7 (by omega))
    have z12 := g12.size
    obtain ⟨n, hn⟩ : ∃ n : Nat, n = 1 + M.length := ⟨_, rfl⟩
    rw [← hn]
    have HN := hidI hn
    have hn2 : n ≤ 20 := by omega
    clear hn own7
    have own7 := own7'
    clear own7'
    go_wp2_with (refine r_load_row 27 _ _ rfl _ _ _ b7 Try.underlying27 rfl Try.ibinfo rfl ?_)
    refine (heldBoard_any y v7 M.length 1 _ _ own7 hm (by decide)).mono ?_
    rintro e w13 ⟨rfl, g13⟩
    rw [← HN.out]
    have own3 := g13.row own3
    have own7 := g13.row own7
    have b1 := g13.blk b1
    have b4 := g13.blk b4
    have b7 := g13.blk b7
    have gg := gg.trans g13
    have z13 := g13.size
    go_wp2_with (refine r_load_row 24 _ _ rfl _ _ _ b1 Try.underlying24 rfl Try.lbinfo rfl ?_)
    refine (toBoard_any z p c L _ (HR.out.gr gg) hl).mono ?_
    rintro e w18 ⟨g18, v18, rfl, own18⟩
    have own3 := g18.row own3
    have own7 := g18.row own7
    have b4 := g18.blk b4
    have b7 := g18.blk b7
    have z18 := g18.size
    have gg := gg.trans g18
    go_wp2_with fail
    refine (iMirrorBoard z L v18 _ _ own18 hl).mono ?_
    rintro e w19 ⟨g19, v19, rfl, own19⟩
    rw [← HOK.out, ← HY.out]
    rw [← HM.out] at own19
    have own3 := g19.row own3
    have own7 := g19.row own7
    have b4 := g19.blk b4
    have b7 := g19.blk b7
    have z19 := g19.size
    have gg := gg.trans g19
    have hone19 := own_one own19
    go_wp2_with (first | ((refine r_alloc 27 _ Try.ibzero rfl ?_; intro w20 B20 N20; have g20 := N20.gr; have b20 : Blk w20 B20 (bv 0 (.slice none 0 0)) 27 := N20.blk; have l20 := N20.lo; have t20 := N20.hi; have z20 := g20.size; have b4 := g20.blk b4; have b7 := g20.blk b7; have gg := gg.trans g20; clear N20; obtain ⟨b20_0, b20_1⟩ := bcells b20); have own3 := g20.row own3; have own7 := g20.row own7; have own19 := g20.row own19) | (have hne := own_ne own3 b20 (by decide); have hne7 := own_ne own7 b20 (by decide); have hne19 := own_ne own19 b20 (by decide); (refine r_store_row 27 27 _ _ _ rfl (bv (y) (v19)) _ rfl b20 Try.ibsize rfl (bv_one (hone19)) rfl ?_; intro w21 u21 b20'; have z21 := u21.size; have gg := u21.gr gg (by omega); have b4 := u21.blk b4 (by omega); have b7 := u21.blk b7 (by omega); clear b20; have b20 := b20'; clear b20'; obtain ⟨b20_0, b20_1⟩ := bcells b20); have own3 := u21.row own3 hne; have own7 := u21.row own7 hne7; have own19 := u21.row own19 hne19) | (refine r_load_row 27 _ _ rfl _ _ _ b20 Try.underlying27 rfl Try.ibinfo rfl ?_) | (refine r_load_row 27 _ _ rfl _ _ _ b4 Try.underlying27 rfl Try.ibinfo rfl ?_))
    refine (eqBoard_same y M v19 v3 _ _ _ own19 own3 hm).mono ?_
    rintro e w22 ⟨rfl, g22⟩
    have own7 := g22.row own7
    have b7 := g22.blk b7
    have gg := gg.trans g22
    go_wp2_with (refine r_load_row 27 _ _ rfl _ _ _ b7 Try.underlying27 rfl Try.ibinfo rfl ?_)
    refine (heldBoard_any y v7 M.length 1 _ _ own7 hm (by decide)).mono ?_
    rintro e w23 ⟨rfl, g23⟩
    rw [← HN.out]
    have gg := gg.trans g23
    go_wp2
    go_ret
    exact ⟨rfl, gg⟩
end Go.Proofs.Ytgibpcmjfnmkdaa
