/-
  The permutation of a word: in the model; and the law.
-/
import Derived.Test.YtbppbbkcampglaaGreatDoorMachG
import Derived.Test.YtbppbbkcampglaaGreatDoorMachS
import Derived.Test.YtbppbbkcampglaaGreatDoorPathB
namespace Go.Proofs.YtbppbbkcampglaaGreatDoor
open Go.RowKit
def prB (g : Grid) (ds : List Nat) : List Int := if backB g ds then zz (prmG g ds) else []
set_option maxHeartbeats 600000 in
set_option maxRecDepth 100000 in
theorem mcPermutation_any (g : Grid) (base : Nat) (u : ByteArray) (sl : Value) (w : World) (hg : Cel g) (hu : wordB u = true) (h1 : 0 < g.c.length) (hb : base ≤ w.heap.size) (hown : w.ownsRow base 5 1 sl g.c.length (cellsV g.c)) :
    Calls Tryz.prog 76 #[.agg (tg g.w g.h sl), .string u] w (RetInts 3 (prB g (wds u)) (backB g (wds u)) w) := by
  have gg := Gr.refl w
  obtain ⟨G, cap, rfl, hGb, -⟩ := own_shape hown h1
  have HMB := hidI (fun (w0 : World) (hb : base ≤ w0.heap.size) (h : w0.ownsRow base 5 1 (.slice (some ⟨G, 0, none⟩) g.c.length cap) g.c.length (cellsV g.c)) => mcBack_any g base u (.slice (some ⟨G, 0, none⟩) g.c.length cap) w0 hg hu h1 hb h)
  cases hbk : backB g (wds u) with
  | false =>
    rw [hbk] at HMB
    have HV := hidI (show prB g (wds u) = [] from by unfold prB; rw [hbk]; rfl)
    clear hg hu hbk
    go_enter Tryz.func76, Tryz.ntmps76
    go_wp2_with (first | (refine r_box 50 _ (tg (g.w) (g.h) (.slice (some ⟨G, 0, none⟩) g.c.length cap)) rfl rfl ?_; intro w1 B1 N1; have g1 := N1.gr; have b1 : Blk w1 B1 (tg (g.w) (g.h) (.slice (some ⟨G, 0, none⟩) g.c.length cap)) 50 := N1.blk; have l1 := N1.lo; have t1 := N1.hi; have z1 := g1.size; have gg := gg.trans g1; clear N1; obtain ⟨b1_0, b1_1, b1_2⟩ := tcells b1) | (refine r_load_row 50 _ _ rfl _ _ _ b1 Tryz.underlying50 rfl Tryz.tinfo rfl ?_))
    have own := g1.row hown
    refine (HMB.out w1 (by omega) own).mono ?_
    rintro e w2 ⟨g2, sl2, hone2, rfl⟩
    have z2 := g2.size
    have gg := gg.trans g2
    go_wp2_with (first | (refine r_alloc 50 _ Tryz.tzero rfl ?_; intro w3 B3 N3; have g3 := N3.gr; have b3 : Blk w3 B3 (tg 0 0 (.slice none 0 0)) 50 := N3.blk; have l3 := N3.lo; have t3 := N3.hi; have z3 := g3.size; have gg := gg.trans g3; clear N3; obtain ⟨b3_0, b3_1, b3_2⟩ := tcells b3) | (refine r_store_row 50 50 _ _ _ rfl (tg _ _ _) _ rfl b3 Tryz.tsize rfl (tg_one hone2) rfl ?_; intro w4 u4 b3'; have z4 := u4.size; have gg := u4.gr gg (by omega); clear b3; have b3 := b3'; clear b3'; obtain ⟨b3_0, b3_1, b3_2⟩ := tcells b3))
    go_ret2
    exact ⟨gg, _, rfl, by rw [HV.out]; exact World.ownsRow_nil _ _ _ _⟩
  | true =>
    rw [hbk] at HMB
    have HV := hidI (show prB g (wds u) = zz (prmG g (wds u)) from by unfold prB; rw [hbk]; rfl)
    have hds := wds_lt hu
    have hbl36 := lab_len hg.wal
    have hst := bpos_strW (c := g.c) (n := nn g.w g.h) hg.len
    have n36 : g.c.length ≤ 36 := by rw [hg.len]; exact hg.n36
    have HBT := hidI (show ballsTo isBallB g.c g.c.length = zz (bpos g.c (nn g.w g.h)) from by
      rw [← ballsTo_bpos, hg.len]
      exact ballsTo_congr _ fun i hi => (ball_cell (hg.cells i (by rw [hg.len]; exact hi))).symm)
    have hpl := prmG_length g (wds u)
    have HPL := hidI (fun (k : Nat) (hk : k < (bpos g.c (nn g.w g.h)).length) => one_place hg hds hbk hk)
    have HRUN := hidI (fun (k : Nat) (w0 : World) (b0 : Nat) (s0 : Value) (hk : k < (bpos g.c (nn g.w g.h)).length) (hb : b0 ≤ w0.heap.size) (h : w0.ownsRow b0 5 1 s0 (oneC g k).length (cellsV (oneC g k))) => tiRun_any (oneG g k) b0 u s0 w0 (one_cel hg hk) hu (by show 0 < (oneC g k).length; unfold oneC; rw [List.length_set, oTo_length]; exact h1) hb h)
    have HQL := hidI (fun (k : Nat) (hk : k < (bpos g.c (nn g.w g.h)).length) => show (runG (wds u) (oneG g k)).c.length = g.c.length from by
      rw [((one_cel hg hk).run (wds u) hds).len, (runG_w (wds u) (oneG g k)).1, (runG_w (wds u) (oneG g k)).2]; exact hg.len.symm)
    have hoc : ∀ k, (oneC g k).length = g.c.length := fun k => by unfold oneC; rw [List.length_set, oTo_length]
    have hot : ∀ j, (oTo g.c (bpos g.c (nn g.w g.h)) j).length = g.c.length := fun j => oTo_length _ _ _
    have hone : ∀ k, oneC g k = (oTo g.c (bpos g.c (nn g.w g.h)) (bpos g.c (nn g.w g.h)).length).set ((bpos g.c (nn g.w g.h)).getD k 0) 97 := fun k => rfl
    obtain ⟨bl, hbe⟩ : ∃ bl, bl = bpos g.c (nn g.w g.h) := ⟨_, rfl⟩
    rw [← hbe] at HBT HPL HRUN HQL hst hbl36 hpl hot hone
    obtain ⟨prm, hprm⟩ : ∃ prm, prm = prmG g (wds u) := ⟨_, rfl⟩
    rw [← hprm] at HPL HV hpl
    obtain ⟨m, hm⟩ : ∃ m, m = bl.length := ⟨_, rfl⟩
    rw [← hm] at HPL HRUN HQL hbl36 hpl hone
    obtain ⟨n, hn⟩ : ∃ n, n = g.c.length := ⟨_, rfl⟩
    rw [← hn] at HMB HBT HQL hoc hot h1 hown n36 ⊢
    have HLT := hidI (fun k (hk : k < m) => show bl.getD k 0 < n from by rw [hn]; exact hst.lt _ (getD_mem (by rw [← hm]; exact hk)))
    have HINJ := hidI (fun (i j : Nat) (hi : i < m) (hj : j < m) (e : bl.getD i 0 = bl.getD j 0) => getD_inj hst.nd (by rw [← hm]; exact hi) (by rw [← hm]; exact hj) e)
    have HM := hidI hm.symm
    have HN := hidI hn.symm
    have HPRL := hidI hpl
    have HOC := hidI hoc
    have HOT := hidI hot
    have HON := hidI hone
    clear hg hu hbk hds hst hpl hoc hot hone hbe hprm hm hn
    go_enter Tryz.func76, Tryz.ntmps76
    go_wp2_with (first | (refine r_box 50 _ (tg (g.w) (g.h) (.slice (some ⟨G, 0, none⟩) n cap)) rfl rfl ?_; intro w1 B1 N1; have g1 := N1.gr; have b1 : Blk w1 B1 (tg (g.w) (g.h) (.slice (some ⟨G, 0, none⟩) n cap)) 50 := N1.blk; have l1 := N1.lo; have t1 := N1.hi; have z1 := g1.size; have gg := gg.trans g1; clear N1; obtain ⟨b1_0, b1_1, b1_2⟩ := tcells b1) | (refine r_load_row 50 _ _ rfl _ _ _ b1 Tryz.underlying50 rfl Tryz.tinfo rfl ?_))
    have own := g1.row hown
    refine (HMB.out w1 (by omega) own).mono ?_
    rintro e w2 ⟨g2, sl2, hone2, rfl⟩
    have b1 := g2.blk b1
    have own := g2.row own
    have z2 := g2.size
    have gg := gg.trans g2
    go_wp2_with (first | (refine r_alloc 50 _ Tryz.tzero rfl ?_; intro w3 B3 N3; have g3 := N3.gr; have b3 : Blk w3 B3 (tg 0 0 (.slice none 0 0)) 50 := N3.blk; have l3 := N3.lo; have t3 := N3.hi; have z3 := g3.size; have b1 := g3.blk b1; obtain ⟨b1_0, b1_1, b1_2⟩ := tcells b1; have gg := gg.trans g3; clear N3; obtain ⟨b3_0, b3_1, b3_2⟩ := tcells b3) | (refine r_store_row 50 50 _ _ _ rfl (tg _ _ _) _ rfl b3 Tryz.tsize rfl (tg_one hone2) rfl ?_; intro w4 u4 b3'; have z4 := u4.size; have gg := u4.gr gg (by omega); have b1 := u4.blk b1 (by omega); obtain ⟨b1_0, b1_1, b1_2⟩ := tcells b1; clear b3; have b3 := b3'; clear b3'; obtain ⟨b3_0, b3_1, b3_2⟩ := tcells b3) | (refine r_load_row 50 _ _ rfl _ _ _ b1 Tryz.underlying50 rfl Tryz.tinfo rfl ?_))
    have own := u4.row (g3.row own) (own_new hown (by omega))
    have own4 := own
    rw [← HN.out] at own4
    have htb := tyBalls_any g.w g.h base g.c G cap w4 (by rw [HN.out]; exact n36) own4
    rw [HN.out] at htb
    refine htb.mono ?_
    rintro e w5 ⟨g5, v5, rfl, ownb⟩
    rw [HBT.out, zz_length, HM.out] at ownb
    clear htb own4
    have b1 := g5.blk b1
    have own := g5.row own
    have z5 := g5.size
    have gg := gg.trans g5
    obtain ⟨p5, n5, c5, rfl⟩ := own_slice ownb
    obtain rfl : n5 = m := own_len ownb
    have hmk : n5 * 1 ≤ 16777216 := by omega
    have hby : 8 * n5 ≤ 281474976710656 := by omega
    clear hown
    go_wp2_with (refine r_make 25 3 _ _ _ Tryz.intsI (.tmp 29) (.tmp 29) n5 rfl rfl hmk hby (by omega) rfl ?_; intro w6 B6 N6; have sn := own_zerosM N6 (by omega); have g6 := N6.gr; have l6 := N6.lo; have z6 := g6.size; have gg := gg.trans g6; have HNE := hidI (own_new ownb l6); have ownb := g6.row ownb; have own := g6.row own; have b1 := g6.blk b1; clear N6)
    have owno : w6.ownsRow w.heap.size 3 1 (.slice (some ⟨B6, 0, none⟩) n5 n5) n5 (intsV (zz (padTo prm 0))) := by
      rw [padTo_zero, HPRL.out]
      exact own_up sn (by omega)
    have ownb : w6.ownsRow w.heap.size 3 1 (.slice p5 n5 c5) n5 (intsV (zz bl)) := own_up ownb (by omega)
    have lo6 : w.heap.size ≤ B6 := by omega
    have z06 : w.heap.size ≤ w6.heap.size := by omega
    clear sn
    go_wp2
    go_loopw [33] (fun iv wr => ∃ k : Nat, k ≤ n5 ∧ iv = .int .i64 k ∧ Blk wr B1 (tg g.w g.h (.slice (some ⟨G, 0, none⟩) n cap)) 50 ∧ wr.ownsRow base 5 1 (.slice (some ⟨G, 0, none⟩) n cap) n (cellsV g.c) ∧ wr.ownsRow w.heap.size 3 1 (.slice p5 n5 c5) n5 (intsV (zz bl)) ∧ wr.ownsRow w.heap.size 3 1 (.slice (some ⟨B6, 0, none⟩) n5 n5) n5 (intsV (zz (padTo prm k))) ∧ Gr w wr) (fun iv _ => n5 - (intOf iv).toNat)
    case atStart => exact ⟨0, Nat.zero_le _, rfl, b1, own, ownb, owno, gg⟩
    case round =>
      clear b1 own ownb owno gg
      obtain ⟨k, hk, rfl, b1, ownG, ownb, owno, gg⟩ := hrel
      obtain ⟨wo, rfl⟩ : ∃ wo : World, wo = wr := ⟨_, rfl⟩
      have zo := gg.size
      have tb1 := b1.lt
      by_cases hlt : k < n5
      · obtain ⟨G5, c9, e9, -, -⟩ := own_shape ownb (by omega)
        cases e9
        obtain ⟨x, hx⟩ : ∃ x, x = bl.getD k 0 := ⟨_, rfl⟩
        have cx := own_int ownb k hlt (by rw [zz_length, HM.out])
        rw [zz_get (by rw [HM.out]; exact hlt), ← hx] at cx
        have hxn := HLT.out k hlt
        rw [← hx] at hxn
        obtain ⟨hns, hpl⟩ := HPL.out k hlt
        obtain ⟨ns, hnse⟩ : ∃ ns, ns = prm.getD k 0 := ⟨_, rfl⟩
        rw [← hnse] at hns hpl
        obtain ⟨q, hq⟩ : ∃ q, q = runG (wds u) (oneG g k) := ⟨_, rfl⟩
        have HRK := hidI (fun (w0 : World) (b0 : Nat) (s0 : Value) (hb : b0 ≤ w0.heap.size) (h : w0.ownsRow b0 5 1 s0 n (cellsV (oneC g k))) => show Calls Tryz.prog 71 #[.agg (tg g.w g.h s0), .string u] w0 fun e w' => Gr w0 w' ∧ ∃ sl', e = .returned (.agg (tg g.w g.h sl')) ∧ w'.ownsRow b0 5 1 sl' n (cellsV q.c) from by
          have h3 := HRUN.out k w0 b0 s0 hlt hb (by rw [HOC.out]; exact h)
          rw [← hq, show (oneG g k).c.length = n from HOC.out k] at h3
          exact h3)
        have HQK := hidI (show q.c.length = n from by rw [hq]; exact HQL.out k hlt)
        rw [← hq] at hpl
        have HPLC := hidI hpl
        have HPAD := hidI (show (zz (padTo prm k)).set k (ns : Int) = zz (padTo prm (k + 1)) from by rw [zz_set, hnse, padTo_set (by rw [HPRL.out]; exact hlt)])
        have HONE := hidI (show (oTo g.c bl n5).set x 97 = oneC g k from by rw [HON.out, hx])
        have HX := hidI hx
        clear hx hnse hq hpl
        obtain ⟨b1_0, b1_1, b1_2⟩ := tcells b1
        go_wp2_with (first | (refine r_idx 25 _ _ (.slice (some ⟨G5, 0, none⟩) n5 c5) (.int .i64 k) _ rfl rfl (Tryz.nsix G5 n5 c5 k hlt _) rfl ?_) | (refine r_ldc 3 _ ⟨G5, k, none⟩ (.int .i64 x) rfl (Tryz.isAgg3 _) cx rfl ?_) | (refine r_load_row 50 _ _ rfl _ _ _ b1 Tryz.underlying50 rfl Tryz.tinfo rfl ?_))
        have own0 := ownG
        rw [← HN.out] at own0
        have hcopy := tyCopy_any g.w g.h base g.c G cap wo (by rw [HN.out]; exact n36) own0
        rw [HN.out] at hcopy
        refine hcopy.mono ?_
        rintro e w8 ⟨g8, sl8, rfl, own12⟩
        rw [HN.out] at own12
        clear hcopy own0
        obtain ⟨G12, cap12, rfl, -, -⟩ := own_shape own12 h1
        have HAPG := hidI (own_apart ownG own12 (Nat.le_refl _))
        have b1 := g8.blk b1
        have ownG := g8.row ownG
        have ownb := g8.row ownb
        have owno := g8.row owno
        have z8 := g8.size
        have gg := gg.trans g8
        go_wp2_with (first | (refine r_alloc 50 _ Tryz.tzero rfl ?_; intro w12 B12 N12; have g12 := N12.gr; have b12 : Blk w12 B12 (tg 0 0 (.slice none 0 0)) 50 := N12.blk; have l12 := N12.lo; have t12 := N12.hi; have z12 := g12.size; have b1 := g12.blk b1; obtain ⟨b1_0, b1_1, b1_2⟩ := tcells b1; have gg := gg.trans g12; clear N12; obtain ⟨b12_0, b12_1, b12_2⟩ := tcells b12) | (refine r_store_row 50 50 _ _ _ rfl (tg _ _ _) _ rfl b12 Tryz.tsize rfl (tg_one rfl) rfl ?_; intro w13 u13 b12'; have z13 := u13.size; have gg := u13.gr gg (by omega); have b1 := u13.blk b1 (by omega); obtain ⟨b1_0, b1_1, b1_2⟩ := tcells b1; clear b12; have b12 := b12'; clear b12'; obtain ⟨b12_0, b12_1, b12_2⟩ := tcells b12))
        have own12 := u13.row (g12.row own12) (own_new own12 l12)
        have ownG := u13.row (g12.row ownG) (own_new ownG (by omega))
        have ownb := u13.row (g12.row ownb) (own_new ownb (by omega))
        have owno := u13.row (g12.row owno) (own_new owno (by omega))
        have lo12 : w.heap.size ≤ G12 := by have := (own12.lt G12 rfl).1; omega
        go_wp2
        go_loopw [42] (fun jv wi => ∃ j : Nat, j ≤ n5 ∧ jv = .int .i64 j ∧ Blk wi B1 (tg g.w g.h (.slice (some ⟨G, 0, none⟩) n cap)) 50 ∧ Blk wi B12 (tg g.w g.h (.slice (some ⟨G12, 0, none⟩) n cap12)) 50 ∧ wi.ownsRow wo.heap.size 5 1 (.slice (some ⟨G12, 0, none⟩) n cap12) n (cellsV (oTo g.c bl j)) ∧ wi.ownsRow base 5 1 (.slice (some ⟨G, 0, none⟩) n cap) n (cellsV g.c) ∧ wi.ownsRow w.heap.size 3 1 (.slice (some ⟨G5, 0, none⟩) n5 c5) n5 (intsV (zz bl)) ∧ wi.ownsRow w.heap.size 3 1 (.slice (some ⟨B6, 0, none⟩) n5 n5) n5 (intsV (zz (padTo prm k))) ∧ Gr w wi) (fun jv _ => n5 - (intOf jv).toNat)
        case atStart => exact ⟨0, Nat.zero_le _, rfl, b1, b12, own12, ownG, ownb, owno, gg⟩
        case round =>
          clear b1 b12 own12 ownG ownb owno gg
          obtain ⟨j, hj, rfl, b1, b12, own12, ownG, ownb, owno, gg⟩ := hrel
          obtain ⟨b12_0, b12_1, b12_2⟩ := tcells b12
          by_cases hjl : j < n5
          · obtain ⟨y, hy⟩ : ∃ y, y = bl.getD j 0 := ⟨_, rfl⟩
            have cy := own_int ownb j hjl (by rw [zz_length, HM.out])
            rw [zz_get (by rw [HM.out]; exact hjl), ← hy] at cy
            have hyn := HLT.out j hjl
            rw [← hy] at hyn
            have HS := hidI (show (cellsV (oTo g.c bl j)).set y (byteV 111) = cellsV (oTo g.c bl (j + 1)) from by rw [cellsV_set, oTo, ← hy])
            clear hy
            go_wp2_with (first | (refine r_idx 25 _ _ (.slice (some ⟨G5, 0, none⟩) n5 c5) (.int .i64 j) _ rfl rfl (Tryz.nsix G5 n5 c5 j hjl _) rfl ?_) | (refine r_ldc 3 _ ⟨G5, j, none⟩ (.int .i64 y) rfl (Tryz.isAgg3 _) cy rfl ?_) | (refine r_fld 50 _ 2 (.pointer (some ⟨B12, 0, none⟩)) (.pointer (some ⟨B12, 2, none⟩)) rfl (Tryz.tf2 B12 _) rfl ?_) | (refine r_ldc 48 _ ⟨B12, 2, none⟩ (.slice (some ⟨G12, 0, none⟩) n cap12) rfl (Tryz.isAgg48 _) b12_2 rfl ?_) | (refine r_idx 48 _ _ (.slice (some ⟨G12, 0, none⟩) n cap12) (.int .i64 y) _ rfl rfl (Tryz.six0 G12 n cap12 y hyn _) rfl ?_) | (refine r_store_own 5 5 _ _ G12 y n cap12 wo.heap.size (cellsV (oTo g.c bl j)) rfl (byteV 111) rfl own12 hyn Tryz.sizeOf5 rfl rfl ?_; intro w14 u14 own14; rw [HS.out] at own14))
            have ownG := u14.grb.row ownG HAPG.out
            have ownb := u14.grb.row ownb (own_ne2 ownb own12 (by decide))
            have owno := u14.grb.row owno (own_ne2 owno own12 (by decide))
            have b1 := u14.blk b1 (fun e => own_ne own12 b1 (by decide) (by rw [e]; rfl))
            have b12 := u14.blk b12 (fun e => own_ne own12 b12 (by decide) (by rw [e]; rfl))
            have gg := u14.gr gg lo12
            go_roundw
            case rel => exact ⟨j + 1, by omega, by go_num, b1, b12, own14, ownG, ownb, owno, gg⟩
            case measure => simp [intOf]; omega
          · obtain rfl : j = n5 := by omega
            have HS := hidI (show (cellsV (oTo g.c bl j)).set x (byteV 97) = cellsV (oneC g k) from by rw [cellsV_set, HONE.out])
            clear hjl
            go_wp2_with (first | (refine r_fld 50 _ 2 (.pointer (some ⟨B12, 0, none⟩)) (.pointer (some ⟨B12, 2, none⟩)) rfl (Tryz.tf2 B12 _) rfl ?_) | (refine r_ldc 48 _ ⟨B12, 2, none⟩ (.slice (some ⟨G12, 0, none⟩) n cap12) rfl (Tryz.isAgg48 _) b12_2 rfl ?_) | (refine r_idx 48 _ _ (.slice (some ⟨G12, 0, none⟩) n cap12) (.int .i64 x) _ rfl rfl (Tryz.six0 G12 n cap12 x hxn _) rfl ?_) | (refine r_store_own 5 5 _ _ G12 x n cap12 wo.heap.size (cellsV (oTo g.c bl j)) rfl (byteV 97) rfl own12 hxn Tryz.sizeOf5 rfl rfl ?_; intro w15 u15 own15; rw [HS.out] at own15; have b12 := u15.blk b12 (fun e => own_ne own12 b12 (by decide) (by rw [e]; rfl)); obtain ⟨b12_0, b12_1, b12_2⟩ := tcells b12) | (refine r_load_row 50 _ _ rfl _ _ _ b12 Tryz.underlying50 rfl Tryz.tinfo rfl ?_))
            have ownG := u15.grb.row ownG HAPG.out
            have ownb := u15.grb.row ownb (own_ne2 ownb own12 (by decide))
            have owno := u15.grb.row owno (own_ne2 owno own12 (by decide))
            have b1 := u15.blk b1 (fun e => own_ne own12 b1 (by decide) (by rw [e]; rfl))
            have gg := u15.gr gg lo12
            have z15 := gg.size
            have z150 : wo.heap.size ≤ w15.heap.size := by have := u15.size; have := (own15.lt G12 rfl).1; have := (own15.lt G12 rfl).2; omega
            refine (HRK.out w15 wo.heap.size _ z150 own15).mono ?_
            rintro e w16 ⟨g16, sl16, rfl, own16⟩
            have b1 := g16.blk b1
            have ownG := g16.row ownG
            have ownb := g16.row ownb
            have owno := g16.row owno
            have gg := gg.trans g16
            obtain ⟨G16, cap16, rfl, -, -⟩ := own_shape own16 h1
            rw [← HQK.out] at own16
            have hpc := tiPlace_any g.w g.h wo.heap.size q.c 97 G16 cap16 w16 (by rw [HQK.out]; exact n36) own16
            rw [HPLC.out, HQK.out] at hpc
            go_wp2_with fail
            refine hpc.mono ?_
            rintro e w17 ⟨rfl, g17⟩
            have b1 := g17.blk b1
            have ownG := g17.row ownG
            have ownb := g17.row ownb
            have owno := g17.row owno
            have gg := gg.trans g17
            clear hpc own16
            obtain ⟨y, hy⟩ : ∃ y, y = bl.getD ns 0 := ⟨_, rfl⟩
            rw [← hy]
            have HY := hidI hy
            clear hy own12 own15 b12 b12_0 b12_1 b12_2
            go_wp2
            go_loopw [61] (fun jv wi => ∃ j' : Nat, j' ≤ j ∧ jv = .int .i64 j' ∧ Blk wi B1 (tg g.w g.h (.slice (some ⟨G, 0, none⟩) n cap)) 50 ∧ wi.ownsRow base 5 1 (.slice (some ⟨G, 0, none⟩) n cap) n (cellsV g.c) ∧ wi.ownsRow w.heap.size 3 1 (.slice (some ⟨G5, 0, none⟩) j c5) j (intsV (zz bl)) ∧ wi.ownsRow w.heap.size 3 1 (.slice (some ⟨B6, 0, none⟩) j j) j (intsV (zz (if ns < j' then padTo prm (k + 1) else padTo prm k))) ∧ Gr w wi) (fun jv _ => j - (intOf jv).toNat)
            case atStart => exact ⟨0, Nat.zero_le _, rfl, b1, ownG, ownb, by rw [if_neg (Nat.not_lt_zero _)]; exact owno, gg⟩
            case round =>
              clear b1 ownG ownb owno gg
              obtain ⟨i, hi, rfl, b1, ownG, ownb, owno, gg⟩ := hrel
              by_cases hil : i < j
              · obtain ⟨v, hv⟩ : ∃ v, v = bl.getD i 0 := ⟨_, rfl⟩
                have cv := own_int ownb i hil (by rw [zz_length, HM.out])
                rw [zz_get (by rw [HM.out]; exact hil), ← hv] at cv
                by_cases hin : i = ns
                · have hvy : (v : Int) = (y : Int) := by rw [hv, HY.out, hin]
                  have HS := hidI (show (intsV (zz (padTo prm k))).set k (.int .i64 i) = intsV (zz (padTo prm (k + 1))) from by rw [intsV_set, hin, HPAD.out])
                  rw [if_neg (by omega)] at owno
                  have hdec : decide ((v : Int) = (y : Int)) = true := decide_eq_true hvy
                  have HIN := hidI hin
                  clear hv hvy hin
                  go_wp2_with (first | (refine r_idx 25 _ _ (.slice (some ⟨G5, 0, none⟩) j c5) (.int .i64 i) _ rfl rfl (Tryz.nsix G5 j c5 i hil _) rfl ?_) | (refine r_ldc 3 _ ⟨G5, i, none⟩ (.int .i64 v) rfl (Tryz.isAgg3 _) cv rfl ?_) | (refine r_eqI _ _ v y true rfl rfl hdec rfl ?_) | (refine r_idx 25 _ _ (.slice (some ⟨B6, 0, none⟩) j j) (.int .i64 k) _ rfl rfl (Tryz.nsix B6 j j k hlt _) rfl ?_) | (refine r_store_own 3 3 _ _ B6 k j j w.heap.size (intsV (zz (padTo prm k))) rfl (.int .i64 i) rfl owno hlt Tryz.sizeOf3 rfl rfl ?_; intro w18 u18 own18; rw [HS.out] at own18))
                  have ownG8 := u18.grb.row ownG (own_ne2 ownG owno (by decide))
                  have ownb8 := u18.row ownb HNE.out
                  have b18 := u18.blk b1 (fun e => own_ne owno b1 (by decide) (by rw [e]; rfl))
                  have gg8 := u18.gr gg lo6
                  go_roundw
                  case rel => exact ⟨i + 1, by omega, by go_num, b18, ownG8, ownb8, by rw [if_pos (by have := HIN.out; omega)]; exact own18, gg8⟩
                  case measure => simp [intOf]; omega
                · have hvy : ¬ (v : Int) = (y : Int) := fun e => hin (HINJ.out i ns hil hns (by rw [← hv, ← HY.out]; omega))
                  have hdec : decide ((v : Int) = (y : Int)) = false := decide_eq_false hvy
                  have HC := hidI (show (if ns < i then padTo prm (k + 1) else padTo prm k) = (if ns < i + 1 then padTo prm (k + 1) else padTo prm k) from by
                    by_cases h : ns < i
                    · rw [if_pos h, if_pos (by omega)]
                    · rw [if_neg h, if_neg (by omega)])
                  rw [HC.out] at owno
                  clear hv hvy hin
                  go_wp2_with (first | (refine r_idx 25 _ _ (.slice (some ⟨G5, 0, none⟩) j c5) (.int .i64 i) _ rfl rfl (Tryz.nsix G5 j c5 i hil _) rfl ?_) | (refine r_ldc 3 _ ⟨G5, i, none⟩ (.int .i64 v) rfl (Tryz.isAgg3 _) cv rfl ?_) | (refine r_eqI _ _ v y false rfl rfl hdec rfl ?_))
                  go_roundw
                  case rel => exact ⟨i + 1, by omega, by go_num, b1, ownG, ownb, owno, gg⟩
                  case measure => simp [intOf]; omega
              · obtain rfl : i = j := by omega
                rw [if_pos hns] at owno
                clear hil
                go_wp2
                go_roundw
                case rel => exact ⟨k + 1, by omega, by go_num, b1, ownG, ownb, owno, gg⟩
                case measure => simp [intOf]; omega
      · obtain rfl : k = n5 := by omega
        have HE := hidI (show padTo prm k = prm from by rw [← HPRL.out]; exact padTo_all prm)
        have HL := hidI (show (prB g (wds u)).length = k from by rw [HV.out, zz_length, HPRL.out])
        rw [HE.out, ← HV.out] at owno
        clear hlt
        go_wp2
        go_ret2
        exact ⟨gg, _, rfl, by rw [HL.out]; exact owno⟩
set_option maxHeartbeats 1000000 in
set_option maxRecDepth 100000 in
theorem mcAsked_any (s u : ByteArray) (w : World) (hs : s.size ≤ 1048576) : Calls Tryz.prog 44 #[.string s, .string u] w (RetInts 3 (prL s.data.toList u) (cbB s.data.toList u) w) := by
  have gg := Gr.refl w
  go_enter Tryz.func44, Tryz.ntmps44
  go_wp2_with fail
  refine (mcRead_any s u _ hs).mono ?_
  rintro e w1 ⟨g1, ⟨hok, W, H, sl, hone, rfl⟩ | ⟨g, sl, hp, hok, rfl, hown⟩⟩
  · have hcb : cbB s.data.toList u = false := by unfold cbB; rw [hok]; rfl
    have HC := hidI hcb
    have HV := hidI (prL_no hcb)
    have z1 := g1.size
    have gg := gg.trans g1
    clear hok hcb
    go_wp2_with (first | (refine r_alloc 50 _ Tryz.tzero rfl ?_; intro w2 B2 N2; have g2 := N2.gr; have b2 : Blk w2 B2 (tg 0 0 (.slice none 0 0)) 50 := N2.blk; have l2 := N2.lo; have t2 := N2.hi; have z2 := g2.size; have gg := gg.trans g2; clear N2; obtain ⟨b2_0, b2_1, b2_2⟩ := tcells b2) | (refine r_store_row 50 50 _ _ _ rfl (tg _ _ _) _ rfl b2 Tryz.tsize rfl (tg_one hone) rfl ?_; intro w3 u3 b2'; have z3 := u3.size; have gg := u3.gr gg (by omega); clear b2; have b2 := b2'; clear b2'; obtain ⟨b2_0, b2_1, b2_2⟩ := tcells b2))
    go_ret2
    exact ⟨gg, _, fin_vb HC.out.symm, by rw [HV.out]; exact World.ownsRow_nil _ _ _ _⟩
  · have hg := (rd_parse_some hp).1
    obtain ⟨hc, -, -, hl⟩ := cel_of hp
    have hu : wordB u = true := by unfold mcOk at hok; rw [Bool.and_eq_true] at hok; exact hok.2
    have hcb : cbB s.data.toList u = backB g (wds u) := by unfold cbB; rw [hok, hg]; rfl
    have HC := hidI hcb
    have HV := hidI (show prB g (wds u) = prL s.data.toList u from by unfold prB prL; rw [hcb, hg])
    have HMB := hidI (fun (w0 : World) (hb : w.heap.size ≤ w0.heap.size) (h : w0.ownsRow w.heap.size 5 1 sl g.c.length (cellsV g.c)) => mcPermutation_any g w.heap.size u sl w0 hc hu hl hb h)
    have hone := own_one hown
    have z1 := g1.size
    have gg := gg.trans g1
    clear hok hp hg hc hu hcb
    go_wp2_with (first | (refine r_alloc 50 _ Tryz.tzero rfl ?_; intro w2 B2 N2; have g2 := N2.gr; have b2 : Blk w2 B2 (tg 0 0 (.slice none 0 0)) 50 := N2.blk; have l2 := N2.lo; have t2 := N2.hi; have z2 := g2.size; have gg := gg.trans g2; clear N2; obtain ⟨b2_0, b2_1, b2_2⟩ := tcells b2) | (refine r_store_row 50 50 _ _ _ rfl (tg _ _ _) _ rfl b2 Tryz.tsize rfl (tg_one hone) rfl ?_; intro w3 u3 b2'; have z3 := u3.size; have gg := u3.gr gg (by omega); clear b2; have b2 := b2'; clear b2'; obtain ⟨b2_0, b2_1, b2_2⟩ := tcells b2) | (refine r_load_row 50 _ _ rfl _ _ _ b2 Tryz.underlying50 rfl Tryz.tinfo rfl ?_))
    have own := u3.row (g2.row hown) (own_new hown l2)
    refine (HMB.out w3 gg.size own).mono ?_
    rintro e w4 ⟨g4, v4, rfl, own4⟩
    have z3 := gg.size
    have gg := gg.trans g4
    rw [HV.out] at own4
    rw [← HC.out]
    go_wp2
    go_ret2
    exact ⟨gg, _, rfl, own_up own4 z3⟩
set_option maxHeartbeats 1000000 in
set_option maxRecDepth 100000 in
theorem sPermutationOf (s u : ByteArray) (w : World) (hs : s.size ≤ 1048576) : Calls Tryz.prog 15 #[.string s, .string u] w (RetInts 3 (prL s.data.toList u) (cbB s.data.toList u) w) := by
  have gg := Gr.refl w
  go_enter Tryz.func15, Tryz.ntmps15
  go_wp2_with fail
  refine (mcAsked_any s u _ hs).mono ?_
  rintro e w1 ⟨g1, v1, rfl, own1⟩
  have gg := gg.trans g1
  go_wp2
  go_ret2
  exact ⟨gg, _, rfl, own1⟩
theorem prL_le (l : List UInt8) (u : ByteArray) : (prL l u).length ≤ 36 := by
  unfold prL
  split
  · rw [zz_length, prmG_length]
    have := bpos_le (rdG l).c (nn (rdG l).w (rdG l).h)
    have h36 : nn (rdG l).w (rdG l).h ≤ 36 := by
      rcases rd_cases l with ⟨_, hg, _⟩ | ⟨g, hp, hg, _⟩
      · rw [hg]; decide
      · rw [hg]; exact (parse_tray hp).n36
    omega
  · exact Nat.zero_le _
set_option maxHeartbeats 4000000 in
set_option maxRecDepth 100000 in
theorem lawPermutationOf (s t : ByteArray) (w : World) (hm : ML w) : Calls Tryz.prog 4 #[.string s, .string t] w (Ret (.bool true) w) := by
  have gg := Gr.refl w
  by_cases hs : 1048576 < s.size
  · go_enter Tryz.func4, Tryz.ntmps4
    go_wp2
    go_ret
    exact ⟨rfl, gg⟩
  · have hs' : s.size ≤ 1048576 := by omega
    clear hs
    by_cases hc : 1048576 < t.size
    · go_enter Tryz.func4, Tryz.ntmps4
      go_wp2
      go_ret
      exact ⟨rfl, gg⟩
    · have hc' : t.size ≤ 1048576 := by omega
      clear hc
      obtain ⟨L, hL⟩ : ∃ L, L = prL s.data.toList t := ⟨_, rfl⟩
      obtain ⟨ok, hok⟩ : ∃ ok, ok = cbB s.data.toList t := ⟨_, rfl⟩
      have hle : L.length ≤ 36 := by rw [hL]; exact prL_le _ _
      have HL := hidI hL
      have HOK := hidI hok
      clear hL hok
      go_enter Tryz.func4, Tryz.ntmps4
      go_wp2_with fail
      refine (sPermutationOf s t _ hs').mono ?_
      rintro e w1 ⟨g1, v1, rfl, own1⟩
      rw [← HL.out] at own1
      have gg := gg.trans g1
      rw [← HOK.out]
      go_wp2_with fail
      refine (iPermutationOf s t _ (gg.ml hm) hs').mono ?_
      rintro e w2 ⟨g2, v2, rfl, own2⟩
      rw [← HL.out] at own2
      rw [← HOK.out]
      have gg := gg.trans g2
      have HAP := hidI (own_apart own1 own2 (Nat.le_refl _))
      have own1 := g2.row own1
      go_wp2_with fail
      refine (eqIntS_any v2 v1 L L _ _ _ own2 own1 (by omega)).mono ?_
      rintro e w3 ⟨rfl, g3⟩
      rw [decide_eq_true rfl]
      have own1 := g3.row own1
      have own2 := g3.row own2
      have gg := gg.trans g3
      go_wp2_with fail
      refine (markIntS_any v2 L 1 _ _ own2 (by omega) (by decide)).mono ?_
      rintro e w4 ⟨rfl, own2', g4, z4⟩
      have own1 := g4.row own1 HAP.out
      have gg := g4.gr gg (own_gr own2 (by have := g1.size; omega))
      obtain ⟨n, hn⟩ : ∃ n : Nat, n = 1 + L.length := ⟨_, rfl⟩
      rw [← hn]
      have HN := hidI hn
      have hn2 : n ≤ 37 := by omega
      clear hn
      have own2 := own2'
      clear own2'
      go_wp2_with fail
      refine (heldIntS_any v2 L.length 1 _ _ own2 (by omega) (by decide)).mono ?_
      rintro e w5 ⟨rfl, g5⟩
      rw [← HN.out]
      have own1 := g5.row own1
      have own2 := g5.row own2
      have gg := gg.trans g5
      go_wp2_with fail
      refine (iPermutationOf s t _ (gg.ml hm) hs').mono ?_
      rintro e w6 ⟨g6, v6, rfl, own6⟩
      rw [← HL.out] at own6
      rw [← HOK.out]
      have gg := gg.trans g6
      have own1 := g6.row own1
      have own2 := g6.row own2
      go_wp2_with fail
      refine (eqIntS_any v6 v1 L L _ _ _ own6 own1 (by omega)).mono ?_
      rintro e w7 ⟨rfl, g7⟩
      rw [decide_eq_true rfl]
      have own2 := g7.row own2
      have gg := gg.trans g7
      go_wp2_with fail
      refine (heldIntS_any v2 L.length 1 _ _ own2 (by omega) (by decide)).mono ?_
      rintro e w8 ⟨rfl, g8⟩
      rw [← HN.out]
      have gg := gg.trans g8
      go_wp2
      go_ret
      exact ⟨rfl, gg⟩
end Go.Proofs.YtbppbbkcampglaaGreatDoor
