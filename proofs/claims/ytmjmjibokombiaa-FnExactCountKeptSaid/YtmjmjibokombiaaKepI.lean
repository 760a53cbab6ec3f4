/-
  How many trays a move keeps: the program's cycles of cells and its table.
-/
import Derived.Test.YtmjmjibokombiaaKepP
import Derived.Test.YtmjmjibokombiaaCntF
namespace Go.Proofs.Ytmjmjibokombiaa
open Go.RowKit
def idT (N k : Nat) : List UInt8 := genC N fun i => if i < k then UInt8.ofNat i else 0
theorem idT_length (N k : Nat) : (idT N k).length = N := genC_length _ _
theorem idT_set (N k : Nat) : (idT N k).set k (UInt8.ofNat k) = idT N (k + 1) := by
  unfold idT
  rw [genC_set]
  apply genC_congr
  intro i hi
  by_cases e : i = k
  · subst e; rw [if_pos rfl, if_pos (by omega)]
  · rw [if_neg e]
    by_cases h : i < k
    · rw [if_pos h, if_pos (by omega)]
    · rw [if_neg h, if_neg (by omega)]
theorem idT_all (N : Nat) : idT N N = (List.range N).map UInt8.ofNat := by
  unfold idT
  exact genC_congr fun i hi => if_pos hi
theorem id_good {W H : Nat} (h1 : 1 ≤ W) (h2 : 1 ≤ H) (hw : W ≤ 7) (hh : H ≤ 7) (n36 : nn W H ≤ 36) : Good (idG W H) := ⟨hw, hh, n36, .inl ⟨h1, h2⟩, by unfold idG; simp⟩
theorem map_takeK (q : List Nat) {j : Nat} (h : j < q.length) : zz (q.take j) ++ [((q.getD j 0 : Nat) : Int)] = zz (q.take (j + 1)) := by
  rw [List.take_succ_eq_append_getElem h, zz_append, List.getD_eq_getElem?_getD, List.getElem?_eq_getElem h]
  rfl
section
variable {P : Program} {w : World} {a : Act} {dst : Option Tmp} {ty : TypeId} {pos : String} {aft : Array Edge} {gd : Option (Nat × Bool)}
theorem e_idxK {T : TypeId} (x y : Operand) (v i u : Value) (hx : a.eval x = v) (hy : a.eval y = i) (hr : (Instr.indexAt T v i).run P w = .ok u w) :
    (execOp a.eval ⟨dst, .indexAddr T x y, ty, pos, aft, gd⟩).run P w = .ok (.value u) w := by
  unfold execOp
  simp only [hx, hy, Sem.run_bind, hr, Result.andThen_ok, Sem.run_pure]
theorem e_convK {src dt : TypeId} (x : Operand) (v u : Value) (hx : a.eval x = v) (hr : (convert src dt v).run P w = .ok u w) :
    (execOp a.eval ⟨dst, .convert src dt x, ty, pos, aft, gd⟩).run P w = .ok (.value u) w := by
  unfold execOp
  simp only [hx, Sem.run_bind, hr, Result.andThen_ok, Sem.run_pure]
theorem e_addK {T yt : TypeId} (x y : Operand) (m n r : Int) (hx : a.eval x = .int .i64 m) (hy : a.eval y = .int .i64 n) (hr : m + n = r) (h : -9223372036854775808 ≤ r ∧ r ≤ 9223372036854775807) :
    (execOp a.eval ⟨dst, .binOp .add T x y yt, ty, pos, aft, gd⟩).run P w = .ok (.value (.int .i64 r)) w := by
  unfold execOp
  simp only [hx, hy, eqGuard_add, Sem.run_bind, Sem.run_pure, Result.andThen_ok, run_add T m n r hr h]
end
theorem Try.cvK (x : Nat) (h : x ≤ 255) (w : World) : (convert 3 5 (.int .i64 (x : Int))).run Try.prog w = .ok (.int .u8 ((UInt8.ofNat x).toNat : Int)) w := by
  have e : (UInt8.ofNat x).toNat = x := by simp; omega
  rw [e]
  have hs : Try.prog.underlying 3 = some (.int .i64) := Try.underlying3
  have hd : Try.prog.underlying 5 = some (.int .u8) := Try.underlying5
  have hw := IntWalk.u8_in (x : Int) (by omega)
  simp [convert, Conv.intToInt, run_underlying hs, run_underlying hd, hw]
theorem Try.cvKi (x : UInt8) (w : World) : (convert 5 3 (.int .u8 (x.toNat : Int))).run Try.prog w = .ok (.int .i64 (x.toNat : Int)) w := by
  have hs : Try.prog.underlying 5 = some (.int .u8) := Try.underlying5
  have hd : Try.prog.underlying 3 = some (.int .i64) := Try.underlying3
  have hlt := x.toNat_lt
  have hw := IntWalk.i64_in (x.toNat : Int) (by omega)
  simp [convert, Conv.intToInt, run_underlying hs, run_underlying hd, hw]
theorem Try.gcutK (B n : Nat) (hn : n ≤ 36) (w : World) : (Instr.sliceAt 53 (.pointer (some ⟨B, 2, none⟩)) none (some (.int .i64 n)) none).run Try.prog w = .ok (.slice (some ⟨B, 2, none⟩) n 36) w := by
  rw [run_sliceAt_array_h w 53 ⟨B, 2, none⟩ (by rw [Try.alen, Try.aelem]; exact Try.underlying53) .i64 n (by omega) (by rw [Try.alen]; omega), Try.aelem, Try.alen]
  simp [Try.sizeOf5, Result.andThen, slicedAt, Addr.add]
theorem Try.bixK (B n cap x : Nat) (hx : x < n) (w : World) : (Instr.indexAt 58 (.slice (some ⟨B, 2, none⟩) n cap) (.int .i64 x)).run Try.prog w = .ok (.pointer (some ⟨B, 2 + x, none⟩)) w := by
  have he : Try.prog.elem 58 = 5 := by kernel_rfl
  have hu : Try.prog.underlying 58 = some (.slice (Try.prog.elem 58)) := by rw [he]; exact Try.underlying58
  have hs : (sizeOf 5).run Try.prog w = .ok 1 w := by kernel_rfl
  rw [run_indexAt_slice w 58 ⟨B, 2, none⟩ n cap .i64 x hu, if_pos (by omega), he]
  simp [hs, Result.andThen, Addr.add]
theorem Try.bsiK (u : Int) (w : World) : (Instr.buildSlice 34 1 #[(0, .int .i64 u)]).run Try.prog w = .ok (.slice (some ⟨w.heap.size, 0, none⟩) 1 1) (w.alloc (.cells #[.int .i64 u] 3)) := by kernel_rfl
theorem Try.intsK : ElemInfo Try.prog 34 3 (.int .i64 0) 1 8 := ⟨Try.underlying34, by kernel_rfl, rfl, by decide⟩
set_option maxHeartbeats 1000000 in
set_option maxRecDepth 100000 in
theorem cellsBehind_any (W H A B k : Nat) (w : World) (hg : PmG W H k) (h1 : 1 ≤ W) (h2 : 1 ≤ H) (hw : W ≤ 7) (hh : H ≤ 7) (n36 : nn W H ≤ 36) (hk : k < 8) :
    Calls Try.prog 27 #[.agg (fv W H A B), .int .i64 k] w fun e w' => Gr w w' ∧ ∃ v, e = .returned v ∧ w'.ownsRow w.heap.size 3 1 v (pmP W H k).length (intsV (zz (pmP W H k))) := by
  have gg := Gr.refl w
  have HMV := hidI (fun w' => movedBy_any k (idG W H) w' (id_good h1 h2 hw hh n36) hk)
  obtain ⟨N, hN⟩ : ∃ N, N = nn W H := ⟨_, rfl⟩
  have HID := hidI (show gvG (idG W H) = gv W H (idT N N) from by unfold gvG idG; rw [idT_all, hN])
  rw [HID.out] at HMV
  obtain ⟨M, hM⟩ : ∃ M, M = moveG k (idG W H) := ⟨_, rfl⟩
  have hML : M.c.length = N := by
    have := hg.pl
    unfold pmP at this
    rw [List.length_map] at this
    rw [hM, this, hN]
  obtain ⟨p, hp⟩ : ∃ p, p = pmP W H k := ⟨_, rfl⟩
  have HPJ := hidI (fun j (hj : j < N) => show p.getD j 0 = (at0 M.c j).toNat from by
    rw [hp, hM]
    unfold pmP at0
    rw [← hM, List.getD_eq_getElem?_getD, List.getD_eq_getElem?_getD, List.getElem?_map, List.getElem?_eq_getElem (by omega)]
    rfl)
  have hpl : p.length = N := by rw [hp, hg.pl, hN]
  have HPT := hidI (fun j (hj : j < N) => map_takeK p (j := j) (by omega))
  have HPL := hidI (show p.take N = p from by rw [← hpl, List.take_length])
  have HPN := hidI hpl
  rw [← hp]
  rw [← hM] at HMV
  have HCA := hidI (fun c w' => show Calls Try.prog 29 #[.agg (gv W H c)] w' (Ret (.int .i64 (N : Nat)) w') from by rw [hN]; exact countAll_any W H c w' hw hh)
  have HE0 := hidI (gv_ext (W := W) (H := H) (c := []) (d := idT N 0) fun i _ => by
    unfold idT
    rw [genC_at]
    split
    · rw [if_neg (Nat.not_lt_zero _)]; rfl
    · rfl)
  have HGM := hidI (show gvG M = gv M.w M.h M.c from rfl)
  obtain ⟨mw, hmw⟩ : ∃ mw, mw = M.w := ⟨_, rfl⟩
  obtain ⟨mh, hmh⟩ : ∃ mh, mh = M.h := ⟨_, rfl⟩
  obtain ⟨mc, hmc⟩ : ∃ mc, mc = M.c := ⟨_, rfl⟩
  rw [HGM.out, ← hmw, ← hmh, ← hmc] at HMV
  rw [← hmc] at HPJ
  have hN36 : N ≤ 36 := by omega
  clear hM hp hpl hg hN hmw hmh hmc HGM HID hML
  go_enter Try.func27, Try.ntmps27
  go_wp2_with (first | (refine r_box 30 _ (fv W H A B) rfl rfl ?_; intro w1 B1 N1; have g1 := N1.gr; have z1 := g1.size; have b1 : Blk w1 B1 (fv W H A B) 30 := N1.blk; obtain ⟨b1_0, b1_1, b1_2, b1_3⟩ := fcells b1; have gg := gg.trans g1; clear N1) | (refine r_build 55 [(0, .tmp 12), (1, .tmp 14)] [(0, .int .i64 (W)), (1, .int .i64 (H))] _ (Try.gbuild _ _ _) rfl rfl ?_) | (refine r_alloc (dst := some 5) 55 _ Try.gzero rfl ?_; intro w5 B5 N5; have g5 := N5.gr; have b5 : Blk w5 B5 (gv 0 0 []) 55 := N5.blk; have l5 := N5.lo; have t5 := N5.hi; have z5 := g5.size; have gg := gg.trans g5; clear N5; obtain ⟨b5_0, b5_1, b5_2⟩ := gcells b5) | (refine r_store_row 55 55 _ _ _ rfl (gv W H []) _ rfl b5 (Try.gsize' _ _ _) (by simp only [gv_size]) (gv_one _ _ _) rfl ?_; intro w6 u6 b5'; have z6 := u6.size; have gg := u6.gr gg (by omega); clear b5; have b5 := b5'; clear b5'; obtain ⟨b5_0, b5_1, b5_2⟩ := gcells b5) | (refine r_load_row 55 _ _ rfl _ _ _ b5 Try.underlying55 rfl (Try.ginfo' _ _ _) rfl ?_) | (go_at_call 29; refine (HCA.out _ _).mono ?_; rintro e w7 ⟨rfl, g7⟩; have b5 := g7.blk b5; have gg := gg.trans g7))
  rw [HE0.out] at b5
  go_loopw [18] (fun iv wr => ∃ j : Nat, j ≤ N ∧ iv = .int .i64 j ∧ Blk wr B5 (gv W H (idT N j)) 55 ∧ Gr w wr) (fun iv _ => N - (intOf iv).toNat)
  case atStart => exact ⟨0, Nat.zero_le _, rfl, b5, gg⟩
  case round =>
    clear b5 gg b5_0 b5_1 b5_2
    obtain ⟨j, hj, rfl, b5, gg⟩ := hrel
    have lo5 : w.heap.size ≤ B5 := by omega
    by_cases hlt : j < N
    · have hix := Try.gix B5 j (by omega)
      have hset := gv_set W H (idT N j) j (UInt8.ofNat j) (by omega) (by rw [idT_length]; exact hlt)
      rw [idT_set] at hset
      have HCV := hidI (Try.cvK j (by omega))
      obtain ⟨bj, hbj⟩ : ∃ bj, bj = UInt8.ofNat j := ⟨_, rfl⟩
      rw [← hbj] at hset HCV
      have HSET := hidI hset
      clear hset hbj
      go_wp2_with (first | (refine r_val (.int .u8 (bj.toNat : Int)) (e_convK _ (.int .i64 (j : Int)) _ rfl (HCV.out _)) rfl ?_) | (refine r_store_cell 5 55 _ _ B5 (2 + j) rfl (byteV bj) rfl _ b5 (by rw [gv_size]; omega) Try.sizeOf5 rfl rfl ?_; intro w10 u10 b10; rw [HSET.out] at b10; have gg := u10.gr gg lo5))
      go_roundw
      case rel => exact ⟨j + 1, by omega, by go_num, b10, gg⟩
      case measure => simp [intOf]; omega
    · obtain rfl : j = N := by omega
      clear hlt
      have zr := gg.size
      have t5r := b5.lt
      obtain ⟨b5_0, b5_1, b5_2⟩ := gcells b5
      go_wp2_with (first | (refine r_load_row 55 _ _ rfl _ _ _ b5 Try.underlying55 rfl (Try.ginfo' _ _ _) rfl ?_) | (go_at_call 30; refine (HMV.out _).mono ?_; rintro e w11 ⟨rfl, g11⟩; have b5 := g11.blk b5; have gg := gg.trans g11; have z11 := g11.size) | (refine r_alloc (dst := some 7) 55 _ Try.gzero rfl ?_; intro w12 B12 N12; have g12 := N12.gr; have b12 : Blk w12 B12 (gv 0 0 []) 55 := N12.blk; have l12 := N12.lo; have t12 := N12.hi; have z12 := g12.size; have b5 := g12.blk b5; have gg := gg.trans g12; clear N12; obtain ⟨b12_0, b12_1, b12_2⟩ := gcells b12) | (refine r_store_row 55 55 _ _ _ rfl (gv mw mh mc) _ rfl b12 (Try.gsize' _ _ _) (by simp only [gv_size]) (gv_one _ _ _) rfl ?_; intro w13 u13 b12'; have z13 := u13.size; have gg := u13.gr gg (by omega); have b5 := u13.blk b5 (by omega); clear b12; have b12 := b12'; clear b12'; obtain ⟨b12_0, b12_1, b12_2⟩ := gcells b12) | (go_at_call 29; refine (HCA.out _ _).mono ?_; rintro e w14 ⟨rfl, g14⟩; have b12 := g14.blk b12; have gg := gg.trans g14; have z14 := g14.size) | (refine r_cut_hi 53 _ _ (.pointer (some ⟨B12, 2, none⟩)) (.int .i64 j) _ rfl rfl (Try.gcutK B12 j hN36 _) rfl ?_))
      have t12 := b12.lt
      go_loopw [8, 35] (fun ov iv wq => ∃ i : Nat, i ≤ j ∧ iv = .int .i64 i ∧ wq.ownsRow w.heap.size 3 1 ov i (intsV (zz (p.take i))) ∧ Blk wq B12 (gv mw mh mc) 55 ∧ Gr w wq) (fun _ iv _ => j - (intOf iv).toNat)
      case atStart => exact ⟨0, Nat.zero_le _, rfl, World.ownsRow_nil _ _ _ _, b12, gg⟩
      case round =>
        clear b5 b12 gg b12_0 b12_1 b12_2 b5_0 b5_1 b5_2
        obtain ⟨i, hi, rfl, own, b12, gg⟩ := hrel
        have zq := gg.size
        obtain ⟨p5, n5, k5, rfl⟩ := own_slice own
        obtain rfl : n5 = i := own_len own
        by_cases hlt : n5 < j
        · have hix := Try.bixK B12 j 36 n5 hlt
          have c38 := (gcells b12).2.2 n5 (by omega)
          have HPX := hidI (HPT.out n5 hlt)
          rw [HPJ.out n5 hlt] at HPX
          obtain ⟨x, hx⟩ : ∃ x, x = at0 mc n5 := ⟨_, rfl⟩
          rw [← hx] at c38 HPX
          clear hx
          go_wp2_with (first | (refine r_idx 58 _ _ (.slice (some ⟨B12, 2, none⟩) j 36) (.int .i64 n5) _ rfl rfl (hix _) rfl ?_) | (refine r_ldc 5 _ ⟨B12, 2 + n5, none⟩ (.int .u8 x.toNat) rfl (Try.isAgg5 _) c38 rfl ?_) | (refine r_val (.int .i64 (x.toNat : Int)) (e_convK _ (.int .u8 (x.toNat : Int)) _ rfl (Try.cvKi x _)) rfl ?_) | (refine r_slice1 34 3 (.tmp 41) (.int .i64 (x.toNat : Int)) rfl (Try.bsiK _ _) rfl ?_; intro wn Bn Nn; have gn := Nn.gr; have b12 := gn.blk b12; have own := gn.row own; have gg := gg.trans gn; have zn := gn.size; have n12 := own_ne own b12 (by decide)) | (refine r_append (.tmp 39) (.tmp 42) 34 3 _ 1 8 w.heap.size Try.intsK (.slice p5 n5 k5) n5 (intsV (zz (p.take n5))) rfl own ⟨Bn, 0, none⟩ 1 1 [.int .i64 (x.toNat : Int)] rfl rfl Nn.cell1 (intsV_one [(x.toNat : Int)]) (by omega) (by decide) (by omega) rfl ?_; intro va wa owna ga; have b12 := ga.blk b12 n12; have gg := ga.gr gg (own_gr own (Nat.le_refl _)); have owna : wa.ownsRow w.heap.size 3 1 va (n5 + 1) (intsV (zz (p.take (n5 + 1)))) := (by rw [← HPX.out, ← intsV_append]; exact owna)))
          go_roundw
          case rel => exact ⟨n5 + 1, by omega, by go_num, owna, b12, gg⟩
          case measure => simp [intOf]; omega
        · obtain rfl : n5 = j := by omega
          rw [HPL.out] at own
          clear hlt
          go_wp2
          go_ret
          exact ⟨gg, _, rfl, by rw [HPN.out]; exact own⟩
end Go.Proofs.Ytmjmjibokombiaa
