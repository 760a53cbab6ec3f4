/-
  The permutation of a word: in the program.
-/
import Derived.Test.YtbppbbkcampglaaGreatDoorMachQ
import Derived.Test.YtbppbbkcampglaaGreatDoorWayB
namespace Go.Proofs.YtbppbbkcampglaaGreatDoor
open Go.RowKit
theorem e_add8 {P : Program} {w : World} {a : Act} {dst : Option Tmp} {ty T yt : TypeId} {pos : String} {aft : Array Edge} {gd : Option (Nat × Bool)} (x y : Operand) (m n r : Int) (hx : a.eval x = .int .u8 m) (hy : a.eval y = .int .u8 n) (hr : m + n = r) (hb : 0 ≤ r ∧ r < 256) :
    (execOp a.eval ⟨dst, .binOp .add T x y yt, ty, pos, aft, gd⟩).run P w = .ok (.value (.int .u8 r)) w := by
  unfold execOp
  simp [hx, hy, eqGuard, binOp, Op.intArith, hr]
  simp [IntKind.wrap, IntKind.bits, IntKind.signed]
  omega
theorem e_sub8 {P : Program} {w : World} {a : Act} {dst : Option Tmp} {ty T yt : TypeId} {pos : String} {aft : Array Edge} {gd : Option (Nat × Bool)} (x y : Operand) (m n r : Int) (hx : a.eval x = .int .u8 m) (hy : a.eval y = .int .u8 n) (hr : m - n = r) (hb : 0 ≤ r ∧ r < 256) :
    (execOp a.eval ⟨dst, .binOp .sub T x y yt, ty, pos, aft, gd⟩).run P w = .ok (.value (.int .u8 r)) w := by
  unfold execOp
  simp [hx, hy, eqGuard, binOp, Op.intArith, hr]
  simp [IntKind.wrap, IntKind.bits, IntKind.signed]
  omega
section
variable {P : Program} {w : World} {ops : Array Oper} {rest : List Oper} {a : Act} {Q : Exit → Act → World → Prop} {dst : Option Tmp} {ty : TypeId} {pos : String} {aft : Array Edge} {gd : Option (Nat × Bool)}
theorem r_add8 {T yt : TypeId} (x y : Operand) (m n r : Int) (hx : a.eval x = .int .u8 m) (hy : a.eval y = .int .u8 n) (hr : m + n = r) (hb : 0 ≤ r ∧ r < 256)
    (hgd : Region.wanted ⟨dst, .binOp .add T x y yt, ty, pos, aft, gd⟩ (yielded ops a.tmps) = true) (h : wpList P ops Q rest (a.put dst (.int .u8 r)) w) : wpList P ops Q (⟨dst, .binOp .add T x y yt, ty, pos, aft, gd⟩ :: rest) a w :=
  r_val (.int .u8 r) (e_add8 x y m n r hx hy hr hb) hgd h
theorem r_sub8 {T yt : TypeId} (x y : Operand) (m n r : Int) (hx : a.eval x = .int .u8 m) (hy : a.eval y = .int .u8 n) (hr : m - n = r) (hb : 0 ≤ r ∧ r < 256)
    (hgd : Region.wanted ⟨dst, .binOp .sub T x y yt, ty, pos, aft, gd⟩ (yielded ops a.tmps) = true) (h : wpList P ops Q rest (a.put dst (.int .u8 r)) w) : wpList P ops Q (⟨dst, .binOp .sub T x y yt, ty, pos, aft, gd⟩ :: rest) a w :=
  r_val (.int .u8 r) (e_sub8 x y m n r hx hy hr hb) hgd h
end
theorem Tryz.cvb8 (x : Nat) (h : x < 256) (w : World) : (convert 3 5 (.int .i64 (x : Int))).run Tryz.prog w = .ok (.int .u8 (x : Int)) w := by
  have hs : Tryz.prog.underlying 3 = some (.int .i64) := Tryz.underlying3
  have hd : Tryz.prog.underlying 5 = some (.int .u8) := Tryz.underlying5
  have hw := IntWalk.u8_in (x : Int) (by omega)
  simp [convert, Conv.intToInt, run_underlying hs, run_underlying hd, hw]
theorem Tryz.nsix8 (B n cap x : Nat) (hx : x < n) (w : World) : (Instr.indexAt 25 (.slice (some ⟨B, 0, none⟩) n cap) (.int .u8 x)).run Tryz.prog w = .ok (.pointer (some ⟨B, x, none⟩)) w := by
  have hu : Tryz.prog.underlying 25 = some (.slice (Tryz.prog.elem 25)) := by kernel_rfl
  have he : Tryz.prog.elem 25 = 3 := by kernel_rfl
  rw [run_indexAt_slice w 25 ⟨B, 0, none⟩ n cap .u8 x hu, if_pos (by omega), he]
  simp [Tryz.sizeOf3, Result.andThen, Addr.add]
  exact fun h => h.symm
set_option maxHeartbeats 800000 in
set_option maxRecDepth 100000 in
theorem permutationOf_any (g : Grid) (u : ByteArray) (B : Nat) (w : World) (hg : Cel g) (hu : wordB u = true) (hbk : backB g (wds u) = true) (hb : Blk w B #[.string u] 9) :
    Calls Tryz.prog 45 #[.agg (gv g.w g.h g.c), doV B] w (RetRow 3 (zz (prmG g (wds u))) w) := by
  have gg := Gr.refl w
  have w7 := hg.w7
  have h7 := hg.h7
  have n36 := hg.n36
  have hlw := labG_wal hg.wal
  obtain ⟨r1, r2⟩ := runB_w (wds u) (labG g)
  have HDO := hidI (fun (w : World) (hb : Blk w B #[.string u] 9) => doing1_any (labG g) u B w hlw hu hb)
  have hB := back_lab hg (wds_lt hu) hbk
  obtain ⟨hp, h128⟩ := ls_perm hg.wal (wds_lt hu) hB
  have hll := lsOf_length (runB (wds u) (labG g)).c (bpos g.c (nn g.w g.h))
  have hbl := lab_len hg.wal
  have hst := bpos_strW (c := g.c) (n := nn g.w g.h) hg.len
  have hget := fun {i : Nat} (h : i < (bpos g.c (nn g.w g.h)).length) => lsOf_get (q := (runB (wds u) (labG g)).c) h
  have hlg : labG g = ⟨g.w, g.h, labTo g.c (bpos g.c (nn g.w g.h)) (bpos g.c (nn g.w g.h)).length⟩ := rfl
  have hpr : prmG g (wds u) = pTo (lsOf (runB (wds u) (labG g)).c (bpos g.c (nn g.w g.h))) (lsOf (runB (wds u) (labG g)).c (bpos g.c (nn g.w g.h))).length := rfl
  have hbt := ballsTo_bpos g.c (nn g.w g.h)
  have r1' : (runB (wds u) (labG g)).w = g.w := r1
  have r2' : (runB (wds u) (labG g)).h = g.h := r2
  obtain ⟨q, hq⟩ : ∃ q, q = runB (wds u) (labG g) := ⟨_, rfl⟩
  rw [← hq] at HDO hp h128 hll hget hpr r1' r2'
  have HQ := hidI (show gvG q = gv g.w g.h q.c from by unfold gvG; rw [r1', r2'])
  rw [HQ.out, hlg] at HDO
  obtain ⟨bl, hbe⟩ : ∃ bl, bl = bpos g.c (nn g.w g.h) := ⟨_, rfl⟩
  rw [← hbe] at hp h128 hll hget hpr hbl hst hbt HDO
  obtain ⟨ls, hls⟩ : ∃ ls, ls = lsOf q.c bl := ⟨_, rfl⟩
  rw [← hls] at hp hll hget hpr
  obtain ⟨m, hm⟩ : ∃ m, m = bl.length := ⟨_, rfl⟩
  rw [← hm] at hp
  rw [hll, ← hm] at hpr
  rw [← hm] at hbl h128 HDO
  have hlt36 : ∀ k, k < m → bl.getD k 0 < g.c.length ∧ bl.getD k 0 < 36 := fun k hk => by
    have h1 := hst.lt _ (getD_mem (s := bl) (k := k) (by rw [← hm]; exact hk))
    exact ⟨h1, by rw [hg.len] at h1; omega⟩
  have HLT := hidI hlt36
  have HLS := hidI (fun k (hk : k < m) => show 128 ≤ (at0 q.c (bl.getD k 0)).toNat ∧ ((at0 q.c (bl.getD k 0)).toNat : Int) - 128 = ((ls.getD k 0 : Nat) : Int) ∧ ls.getD k 0 < m from by
    have h1 := h128 k hk
    have h2 := hget (i := k) (by rw [← hm]; exact hk)
    refine ⟨h1, by omega, ?_⟩
    exact List.mem_range.1 (hp.mem_iff.1 (getD_mem (by rw [hll, ← hm]; exact hk))))
  have HM := hidI hm.symm
  have HPR := hidI hpr
  have HBT := hidI hbt
  have HLL := hidI (hll.trans hm.symm)
  have HGL := hidI (show ∀ j, (labTo g.c bl j).length = g.c.length from fun j => labTo_length _ _ _)
  clear hg hu hbk hlw r1 r2 hB hp h128 hll hst hget hlg hpr hbt r1' r2' hq hbe hls hm hlt36
  go_enter Tryz.func45, Tryz.ntmps45
  go_wp2_with (first | (refine r_box 56 _ (gv g.w g.h g.c) rfl rfl ?_; intro w1 B1 N1; have g1 := N1.gr; have b1 : Blk w1 B1 (gv g.w g.h g.c) 56 := N1.blk; have l1 := N1.lo; have t1 := N1.hi; have z1 := g1.size; have hb := g1.blk hb; have gg := gg.trans g1; clear N1; obtain ⟨b1_0, b1_1, b1_2⟩ := gcells b1) | (refine r_load_row 56 _ _ rfl _ _ _ b1 Tryz.underlying56 rfl (Tryz.ginfo' _ _ _) rfl ?_) | (go_at_call 75; refine (ballsIn_any g.w g.h g.c _ w7 h7 n36).mono ?_; rintro e w2 ⟨g2, v2, rfl, own2⟩; have b1 := g2.blk b1; have hb := g2.blk hb; have gg := gg.trans g2; have z2 := g2.size; rw [HBT.out, zz_length, HM.out] at own2; obtain ⟨p2, n2, c2, rfl⟩ := own_slice own2; obtain rfl : n2 = m := own_len own2))
  have b1 : Blk w2 B1 (gv g.w g.h (labTo g.c bl 0)) 56 := b1
  have lo1 : w.heap.size ≤ B1 := by omega
  have hBB := blk_ne hb b1 (by decide)
  go_loopw [16] (fun iv wr => ∃ k : Nat, k ≤ n2 ∧ iv = .int .i64 k ∧ Blk wr B1 (gv g.w g.h (labTo g.c bl k)) 56 ∧ Blk wr B #[.string u] 9 ∧ wr.ownsRow w1.heap.size 3 1 (.slice p2 n2 c2) n2 (intsV (zz bl)) ∧ Gr w wr) (fun iv _ => n2 - (intOf iv).toNat)
  case atStart => exact ⟨0, Nat.zero_le _, rfl, b1, hb, own2, gg⟩
  case round =>
    clear b1 hb own2 gg
    obtain ⟨k, hk, rfl, b1, hb, own2, gg⟩ := hrel
    by_cases hlt : k < n2
    · obtain ⟨G, c3, e3, -, -⟩ := own_shape own2 (by omega)
      cases e3
      obtain ⟨x, hx⟩ : ∃ x, x = bl.getD k 0 := ⟨_, rfl⟩
      have cx := own_int own2 k hlt (by rw [zz_length, HM.out])
      rw [zz_get (by rw [HM.out]; exact hlt), ← hx] at cx
      obtain ⟨hxl, hx36⟩ := HLT.out k hlt
      rw [← hx] at hxl hx36
      have hks : k < 256 := by omega
      have HADD := hidI (show (128 : Int) + (k : Int) = (((labB k).toNat : Nat) : Int) from by have := labB_nat (show k < 128 by omega); omega)
      have HB8 := hidI (show 0 ≤ (((labB k).toNat : Nat) : Int) ∧ (((labB k).toNat : Nat) : Int) < 256 from by have := labB_nat (show k < 128 by omega); omega)
      have HS := hidI (show (gv g.w g.h (labTo g.c bl k)).setIfInBounds (2 + x) (byteV (labB k)) = gv g.w g.h (labTo g.c bl (k + 1)) from by
        rw [gv_set g.w g.h _ x _ hx36 (by rw [HGL.out]; exact hxl), labTo, ← hx])
      clear hx
      go_wp2_with (first | (refine r_idx 25 _ _ (.slice (some ⟨G, 0, none⟩) n2 c2) (.int .i64 k) _ rfl rfl (Tryz.nsix G n2 c2 k hlt _) rfl ?_) | (refine r_ldc 3 _ ⟨G, k, none⟩ (.int .i64 x) rfl (Tryz.isAgg3 _) cx rfl ?_) | (refine r_conv 3 5 _ (.int .i64 k) (.int .u8 k) rfl (Tryz.cvb8 k hks _) rfl ?_) | (refine r_add8 _ _ 128 k ((labB k).toNat : Nat) rfl rfl HADD.out HB8.out rfl ?_) | (refine r_fld 56 _ 2 (.pointer (some ⟨B1, 0, none⟩)) (.pointer (some ⟨B1, 2, none⟩)) rfl (Tryz.gf2 B1 _) rfl ?_) | (refine r_idx 54 _ _ (.pointer (some ⟨B1, 2, none⟩)) (.int .i64 x) _ rfl rfl (Tryz.gix B1 x hx36 _) rfl ?_) | (refine r_store_cell 5 56 _ _ B1 (2 + x) rfl (byteV (labB k)) rfl _ b1 (by rw [gv_size]; omega) Tryz.sizeOf5 rfl rfl ?_; intro w4 u4 b14; rw [HS.out] at b14))
      have hb4 := u4.blk hb hBB
      have own4 := u4.row own2 (own_ne own2 b1 (by decide))
      have gg4 := u4.gr gg lo1
      go_roundw
      case rel => exact ⟨k + 1, by omega, by go_num, b14, hb4, own4, gg4⟩
      case measure => simp [intOf]; omega
    · obtain rfl : k = n2 := by omega
      have zr := gg.size
      obtain ⟨b1_0, b1_1, b1_2⟩ := gcells b1
      have ho2 := hidI own2
      clear hlt
      go_wp2_with (first | (refine r_load_row 56 _ _ rfl _ _ _ b1 Tryz.underlying56 rfl (Tryz.ginfo' _ _ _) rfl ?_) | (refine r_callc 86 (.tmp 28) [.tmp 29] _ [.agg (gv g.w g.h (labTo g.c bl k))] [.pointer (some ⟨B, 0, none⟩)] (.agg (gv g.w g.h q.c)) (fun w' => Gr wr w') Tryz.call86 rfl rfl rfl (HDO.out wr hb) ?_; intro w4 g4; have own2 := g4.row own2; have gg := gg.trans g4; have z4 := g4.size) | (refine r_alloc 56 _ Tryz.gzero rfl ?_; intro w5 B5 N5; have g5 := N5.gr; have b5 : Blk w5 B5 (gv 0 0 []) 56 := N5.blk; have l5 := N5.lo; have t5 := N5.hi; have z5 := g5.size; have gg := gg.trans g5; clear N5; obtain ⟨b5_0, b5_1, b5_2⟩ := gcells b5) | ((refine r_store_row 56 56 _ _ _ rfl (gv g.w g.h q.c) _ rfl b5 (Tryz.gsize' _ _ _) (by simp only [gv_size]) (gv_one _ _ _) rfl ?_; intro w6 u6 b5'; have z6 := u6.size; have gg := u6.gr gg (by omega); clear b5; have b5 := b5'; clear b5'; obtain ⟨b5_0, b5_1, b5_2⟩ := gcells b5); have own2 := u6.row (g5.row own2) (own_new own2 l5); have hmk : k * 1 ≤ 16777216 := (by omega); have hby : 8 * k ≤ 281474976710656 := (by omega)) | (refine r_make 25 3 _ _ _ Tryz.intsI (.tmp 32) (.tmp 32) k rfl rfl hmk hby (by omega) rfl ?_; intro w7' B7 N7; have sn := own_zerosM N7 (by omega); have g7 := N7.gr; have l7 := N7.lo; have z7 := g7.size; have gg := gg.trans g7; have HNE := hidI (own_new own2 l7); have own2 := g7.row own2; have b5 := g7.blk b5; clear N7))
      have own7 : w7'.ownsRow w.heap.size 3 1 (.slice (some ⟨B7, 0, none⟩) k k) k (intsV (zz (pTo ls 0))) := by
        show w7'.ownsRow w.heap.size 3 1 _ k (intsV (zz (List.replicate ls.length 0)))
        rw [HLL.out]
        exact own_up sn (by have := g5.size; have := u6.size; omega)
      clear sn
      have lo7 : w.heap.size ≤ B7 := by have := g5.size; have := u6.size; omega
      go_wp2
      go_loopw [36] (fun iv wi => ∃ j : Nat, j ≤ k ∧ iv = .int .i64 j ∧ Blk wi B5 (gv g.w g.h q.c) 56 ∧ wi.ownsRow w1.heap.size 3 1 (.slice p2 k c2) k (intsV (zz bl)) ∧ wi.ownsRow w.heap.size 3 1 (.slice (some ⟨B7, 0, none⟩) k k) k (intsV (zz (pTo ls j))) ∧ Gr w wi) (fun iv _ => k - (intOf iv).toNat)
      case atStart => exact ⟨0, Nat.zero_le _, rfl, b5, own2, own7, gg⟩
      case round =>
        clear b5 own2 own7 gg
        obtain ⟨j, hj, rfl, b5, own2, own7, gg⟩ := hrel
        by_cases hlt : j < k
        · obtain ⟨G, c3, e3, -, -⟩ := own_shape own2 (by omega)
          cases e3
          obtain ⟨x, hx⟩ : ∃ x, x = bl.getD j 0 := ⟨_, rfl⟩
          have cx := own_int own2 j hlt (by rw [zz_length, HM.out])
          rw [zz_get (by rw [HM.out]; exact hlt), ← hx] at cx
          obtain ⟨-, hx36⟩ := HLT.out j hlt
          obtain ⟨h128, hsub, hls⟩ := HLS.out j hlt
          rw [← hx] at hx36 h128 hsub
          obtain ⟨y, hy⟩ : ∃ y, y = ls.getD j 0 := ⟨_, rfl⟩
          rw [← hy] at hsub hls
          have cb := (gcells b5).2.2 x hx36
          have HSUB := hidI hsub
          have HB9 := hidI (show 0 ≤ ((y : Nat) : Int) ∧ ((y : Nat) : Int) < 256 from by omega)
          have HS := hidI (show (intsV (zz (pTo ls j))).set y (.int .i64 j) = intsV (zz (pTo ls (j + 1))) from by rw [intsV_set, zz_set, pTo, ← hy])
          clear hx hy hsub h128
          go_wp2_with (first | (refine r_idx 25 _ _ (.slice (some ⟨G, 0, none⟩) k c2) (.int .i64 j) _ rfl rfl (Tryz.nsix G k c2 j hlt _) rfl ?_) | (refine r_ldc 3 _ ⟨G, j, none⟩ (.int .i64 x) rfl (Tryz.isAgg3 _) cx rfl ?_) | (refine r_fld 56 _ 2 (.pointer (some ⟨B5, 0, none⟩)) (.pointer (some ⟨B5, 2, none⟩)) rfl (Tryz.gf2 B5 _) rfl ?_) | (refine r_idx 54 _ _ (.pointer (some ⟨B5, 2, none⟩)) (.int .i64 x) _ rfl rfl (Tryz.gix B5 x hx36 _) rfl ?_) | (refine r_ldc 5 _ ⟨B5, 2 + x, none⟩ (.int .u8 (at0 q.c x).toNat) rfl (Tryz.isAgg5 _) cb rfl ?_) | (refine r_sub8 _ _ (at0 q.c x).toNat 128 (y : Nat) rfl rfl HSUB.out HB9.out rfl ?_) | (refine r_idx 25 _ _ (.slice (some ⟨B7, 0, none⟩) k k) (.int .u8 y) _ rfl rfl (Tryz.nsix8 B7 k k y hls _) rfl ?_) | (refine r_store_own 3 3 _ _ B7 y k k w.heap.size (intsV (zz (pTo ls j))) rfl (.int .i64 j) rfl own7 hls Tryz.sizeOf3 rfl rfl ?_; intro w8 u8 own8; rw [HS.out] at own8))
          have own9 := u8.row own2 HNE.out
          have b58 := u8.blk b5 (fun e => own_ne own7 b5 (by decide) (by rw [e]; rfl))
          have gg8 := u8.gr gg lo7
          go_roundw
          case rel => exact ⟨j + 1, by omega, by go_num, b58, own9, own8, gg8⟩
          case measure => simp [intOf]; omega
        · obtain rfl : j = k := by omega
          have HV := hidI (show zz (pTo ls j) = zz (prmG g (wds u)) from by rw [HPR.out])
          have HVL := hidI (show (zz (prmG g (wds u))).length = j from by rw [← HV.out, zz_length, pTo_length, HLL.out])
          clear hlt
          rw [HV.out] at own7
          go_wp2
          go_ret
          exact ⟨gg, _, rfl, by rw [HVL.out]; exact own7⟩
theorem prL_no {l : List UInt8} {u : ByteArray} (h : cbB l u = false) : prL l u = [] := by unfold prL; rw [h]; rfl
theorem cb_yes' {l : List UInt8} {u : ByteArray} (h : cbB l u = true) : mcOk l u = true := by
  cases hm : mcOk l u with
  | true => rfl
  | false => unfold cbB at h; rw [hm] at h; cases h
theorem mc_parts {l : List UInt8} {u : ByteArray} (h : mcOk l u = true) : ∃ g, parse l = some g ∧ rdG l = g ∧ rdOk l = true ∧ wordB u = true ∧ cbB l u = backB g (wds u) := by
  have h0 := h
  unfold mcOk at h
  rw [Bool.and_eq_true] at h
  rcases rd_cases l with ⟨-, -, hk'⟩ | ⟨g, hp, hg, -⟩
  · rw [h.1] at hk'; cases hk'
  · exact ⟨g, hp, hg, h.1, h.2, by unfold cbB; rw [h0, hg]; rfl⟩
set_option maxHeartbeats 2000000 in
set_option maxRecDepth 100000 in
theorem iPermutationOf (s u : ByteArray) (w : World) (hm : ML w) (hs : s.size ≤ 1048576) : Calls Tryz.prog 16 #[.string s, .string u] w (RetInts 3 (prL s.data.toList u) (cbB s.data.toList u) w) := by
  have gg := Gr.refl w
  cases hok : mcOk s.data.toList u with
  | false =>
    have hcb : cbB s.data.toList u = false := by unfold cbB; rw [hok]; rfl
    have HV := hidI (prL_no hcb)
    have HC := hidI hcb
    have HN := hidI hok
    clear hok hcb
    go_enter Tryz.func16, Tryz.ntmps16
    go_wp2_with (first | (go_at_call 42; refine (readDoing_no s u _ hm hs HN.out).mono ?_; rintro e w1 ⟨rfl, g1⟩; have z1 := g1.size; have gg := gg.trans g1) | (refine r_alloc 56 _ Tryz.gzero rfl ?_; intro w2 B2 N2; have g2 := N2.gr; have b2 : Blk w2 B2 (gv 0 0 []) 56 := N2.blk; have l2 := N2.lo; have t2 := N2.hi; have z2 := g2.size; have gg := gg.trans g2; clear N2; obtain ⟨b2_0, b2_1, b2_2⟩ := gcells b2) | (refine r_store_row 56 56 _ _ _ rfl (gv 0 0 []) _ rfl b2 (Tryz.gsize' _ _ _) (by simp only [gv_size]) (gv_one _ _ _) rfl ?_; intro w3 u3 b2'; have z3 := u3.size; have gg := u3.gr gg (by omega); clear b2; have b2 := b2'; clear b2'; obtain ⟨b2_0, b2_1, b2_2⟩ := gcells b2))
    go_ret2
    exact ⟨gg, _, fin_vb HC.out.symm, by rw [HV.out]; exact World.ownsRow_nil _ _ _ _⟩
  | true =>
    obtain ⟨g, hp, hg, hk, hu, hcb⟩ := mc_parts hok
    obtain ⟨hc, -, -, -⟩ := cel_of hp
    have HRD := hidI (fun (w : World) (hm : ML w) => readDoing_yes s u g w hm hs hg hk hu)
    have HCB := hidI (fun (w : World) (B : Nat) (hb : Blk w B #[.string u] 9) => show Calls Tryz.prog 43 #[.agg (gv g.w g.h g.c), doV B] w (Ret (.bool (cbB s.data.toList u)) w) from hcb ▸ comesBack_any g u B w hc hu hb)
    cases hb : cbB s.data.toList u with
    | false =>
      rw [hb] at HCB
      have HV := hidI (prL_no hb)
      have HC := hidI hb
      clear hk hu hp hg hc hok hb hcb
      go_enter Tryz.func16, Tryz.ntmps16
      go_wp2_with (first | (go_at_call 42; refine (HRD.out _ hm).mono ?_; rintro e w1 ⟨g1, B, rfl, bu⟩; have z1 := g1.size; have tu := bu.lt; have gg := gg.trans g1) | (refine r_alloc 56 _ Tryz.gzero rfl ?_; intro w2 B2 N2; have g2 := N2.gr; have b2 : Blk w2 B2 (gv 0 0 []) 56 := N2.blk; have l2 := N2.lo; have t2 := N2.hi; have z2 := g2.size; have bu := g2.blk bu; have gg := gg.trans g2; clear N2; obtain ⟨b2_0, b2_1, b2_2⟩ := gcells b2) | (refine r_store_row 56 56 _ _ _ rfl (gv g.w g.h g.c) _ rfl b2 (Tryz.gsize' _ _ _) (by simp only [gv_size]) (gv_one _ _ _) rfl ?_; intro w3 u3 b2'; have z3 := u3.size; have gg := u3.gr gg (by omega); have bu := u3.blk bu (by omega); clear b2; have b2 := b2'; clear b2'; obtain ⟨b2_0, b2_1, b2_2⟩ := gcells b2) | (refine r_load_row 56 _ _ rfl _ _ _ b2 Tryz.underlying56 rfl (Tryz.ginfo' _ _ _) rfl ?_) | (go_at_call 43; refine (HCB.out _ _ bu).mono ?_; rintro e w4 ⟨rfl, g4⟩; have z4 := g4.size; have gg := gg.trans g4))
      go_ret2
      exact ⟨gg, _, rfl, by rw [HV.out]; exact World.ownsRow_nil _ _ _ _⟩
    | true =>
      rw [hb] at HCB
      have HV := hidI (show prL s.data.toList u = zz (prmG g (wds u)) from by unfold prL; rw [hb, hg]; rfl)
      have HPM := hidI (fun (w : World) (B : Nat) (hb2 : Blk w B #[.string u] 9) => permutationOf_any g u B w hc hu (by rw [← hcb]; exact hb) hb2)
      clear hk hu hp hg hc hok hb hcb
      go_enter Tryz.func16, Tryz.ntmps16
      go_wp2_with (first | (go_at_call 42; refine (HRD.out _ hm).mono ?_; rintro e w1 ⟨g1, B, rfl, bu⟩; have z1 := g1.size; have tu := bu.lt; have gg := gg.trans g1) | (refine r_alloc 56 _ Tryz.gzero rfl ?_; intro w2 B2 N2; have g2 := N2.gr; have b2 : Blk w2 B2 (gv 0 0 []) 56 := N2.blk; have l2 := N2.lo; have t2 := N2.hi; have z2 := g2.size; have bu := g2.blk bu; have gg := gg.trans g2; clear N2; obtain ⟨b2_0, b2_1, b2_2⟩ := gcells b2) | (refine r_store_row 56 56 _ _ _ rfl (gv g.w g.h g.c) _ rfl b2 (Tryz.gsize' _ _ _) (by simp only [gv_size]) (gv_one _ _ _) rfl ?_; intro w3 u3 b2'; have z3 := u3.size; have gg := u3.gr gg (by omega); have bu := u3.blk bu (by omega); clear b2; have b2 := b2'; clear b2'; obtain ⟨b2_0, b2_1, b2_2⟩ := gcells b2) | (refine r_load_row 56 _ _ rfl _ _ _ b2 Tryz.underlying56 rfl (Tryz.ginfo' _ _ _) rfl ?_) | (go_at_call 43; refine (HCB.out _ _ bu).mono ?_; rintro e w4 ⟨rfl, g4⟩; have z4 := g4.size; have bu := g4.blk bu; have b2 := g4.blk b2; obtain ⟨b2_0, b2_1, b2_2⟩ := gcells b2; have gg := gg.trans g4) | (go_at_call 45; refine (HPM.out _ _ bu).mono ?_; rintro e w5 ⟨g5, v5, rfl, own5⟩; have z5 := g5.size; have gg := gg.trans g5))
      go_ret2
      exact ⟨gg, _, rfl, by rw [HV.out]; exact own_up own5 (by omega)⟩
end Go.Proofs.YtbppbbkcampglaaGreatDoor
