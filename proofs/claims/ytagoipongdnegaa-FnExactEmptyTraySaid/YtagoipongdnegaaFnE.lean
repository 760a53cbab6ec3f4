/-
  Empty trays: in the program and in the model, and the law.
-/
import Derived.Test.YtagoipongdnegaaBSp
import Derived.Test.YtagoipongdnegaaBSp
import Derived.Test.YtagoipongdnegaaBLs
namespace Go.Proofs.Ytagoipongdnegaa
open Go.RowKit
def etOk (x y : Int) : Bool := isSz x y
def etB (x y : Int) : ByteArray := if etOk x y then txtB x.toNat y.toNat (genC (nn x.toNat y.toNat) fun _ => 46) else ⟨#[]⟩
/-- The first k of n cells free, and zeros else. -/
def freeTo (n k : Nat) : List UInt8 := genC n fun i => if i < k then 46 else 0
def flTo (N : Nat) (b : UInt8) (k : Nat) : List UInt8 := genC N fun i => if i < k then b else 0
theorem flTo_set {N k : Nat} {b : UInt8} : (flTo N b k).set k b = flTo N b (k + 1) := by
  unfold flTo
  rw [genC_set]
  apply genC_congr
  intro i hi
  by_cases e : i = k
  · subst e; rw [if_pos rfl, if_pos (by omega)]
  · rw [if_neg e]
    by_cases h : i < k
    · rw [if_pos h, if_pos (by omega)]
    · rw [if_neg h, if_neg (by omega)]
theorem flTo_all (N : Nat) (b : UInt8) : flTo N b N = genC N fun _ => b := by
  unfold flTo
  exact genC_congr fun i hi => if_pos hi
set_option maxHeartbeats 2000000 in
set_option maxRecDepth 100000 in
theorem filledGrid_any (x y : Nat) (b : UInt8) (w : World) (hx : x ≤ 7) (hy : y ≤ 7) (n36 : nn x y ≤ 36) : Calls Try.prog 11 #[.int .i64 x, .int .i64 y, .int .u8 b.toNat] w (Ret (.agg (gv x y (genC (nn x y) fun _ => b))) w) := by
  have gg := Gr.refl w
  have HE0 := hidI (gv_ext (W := x) (H := y) (c := []) (d := flTo (nn x y) b 0) fun i _ => by
    unfold flTo; rw [genC_at]; split
    · rw [if_neg (Nat.not_lt_zero _)]; rfl
    · rfl)
  go_enter Try.func11, Try.ntmps11
  go_wp2_with (first | (refine r_build 34 [(0, .tmp 9), (1, .tmp 10)] [(0, .int .i64 (x)), (1, .int .i64 (y))] _ (Try.gbuild _ _ _) rfl rfl ?_) | (refine r_alloc (dst := some 6) 34 _ Try.gzero rfl ?_; intro w1 B1 N1; have g1 := N1.gr; have b1 : Blk w1 B1 (gv 0 0 []) 34 := N1.blk; have l1 := N1.lo; have t1 := N1.hi; have z1 := g1.size; have gg := gg.trans g1; clear N1; obtain ⟨b1_0, b1_1, b1_2⟩ := gcells b1) | (refine r_alloc (dst := some 7) 34 _ Try.gzero rfl ?_; intro w5 B5 N5; have g5 := N5.gr; have b5 : Blk w5 B5 (gv 0 0 []) 34 := N5.blk; have l5 := N5.lo; have t5 := N5.hi; have z5 := g5.size; have b1 := g5.blk b1; obtain ⟨b1_0, b1_1, b1_2⟩ := gcells b1; have gg := gg.trans g5; clear N5; obtain ⟨b5_0, b5_1, b5_2⟩ := gcells b5) | (refine r_store_row 34 34 _ _ _ rfl (gv x y []) _ rfl b5 (Try.gsize' _ _ _) (by simp only [gv_size]) (gv_one _ _ _) rfl ?_; intro w2 u2 b5'; have z2 := u2.size; have gg := u2.gr gg (by omega); have b1 := u2.blk b1 (by omega); obtain ⟨b1_0, b1_1, b1_2⟩ := gcells b1; clear b5; have b5 := b5'; clear b5'; obtain ⟨b5_0, b5_1, b5_2⟩ := gcells b5) | (refine r_load_row 34 _ _ rfl _ _ _ b5 Try.underlying34 rfl (Try.ginfo' _ _ _) rfl ?_) | (go_at_call 14; refine (countAll_any x y [] _ hx hy).mono ?_; rintro e w3 ⟨rfl, g3⟩; have z3 := g3.size; have b1 := g3.blk b1; have b5 := g3.blk b5; have gg := gg.trans g3))
  rw [HE0.out] at b5
  go_loopw [8, 14] (fun _ i wr => ∃ k : Nat, k ≤ nn x y ∧ i = .int .i64 k ∧ Blk wr B1 (gv 0 0 []) 34 ∧ Blk wr B5 (gv x y (flTo (nn x y) b k)) 34 ∧ Gr w wr) (fun _ i _ => nn x y - (intOf i).toNat)
  case atStart => exact ⟨0, Nat.zero_le _, rfl, b1, b5, gg⟩
  case round =>
    obtain ⟨k, hk, rfl, b1, b5, gg⟩ := hrel
    have lo1 : w.heap.size ≤ B1 := by omega
    have lo5 : w.heap.size ≤ B5 := by omega
    have hne : B1 < B5 := by omega
    by_cases hlt : k < nn x y
    · have hix := Try.gix B5 k (by omega)
      have hset := gv_set x y (flTo (nn x y) b k) k b (by omega) (by unfold flTo; rw [genC_length]; exact hlt)
      rw [flTo_set] at hset
      have HSET := hidI hset
      clear hset
      go_wp2_with (refine r_store_cell 5 34 _ _ B5 (2 + k) rfl (byteV b) rfl _ b5 (by rw [gv_size]; omega) Try.sizeOf5 rfl rfl ?_; intro w10 u10 b10; rw [HSET.out] at b10; have gg := u10.gr gg lo5; have b1 := u10.blk b1 (by omega))
      go_roundw
      case rel => exact ⟨k + 1, by omega, by go_num, b1, b10, gg⟩
      case measure => simp [intOf]; omega
    · obtain rfl : k = nn x y := by omega
      rw [flTo_all] at b5
      clear hlt
      go_wp2_with (first | (refine r_load_row 34 _ _ rfl _ _ _ b5 Try.underlying34 rfl (Try.ginfo' _ _ _) rfl ?_) | (refine r_store_row 34 34 _ _ _ rfl (gv _ _ _) _ rfl b1 (Try.gsize' _ _ _) (by simp only [gv_size]) (gv_one _ _ _) rfl ?_; intro w6 u6 b1'; have z6 := u6.size; have gg := u6.gr gg (by omega); have b5 := u6.blk b5 (by omega); clear b1; have b1 := b1'; clear b1'; obtain ⟨b1_0, b1_1, b1_2⟩ := gcells b1))
      refine bodyPost_ret (results_row rfl _ _ _ _ _ _ rfl b1 Try.underlying34 rfl (Try.ginfo' _ _ _)) rfl ⟨?_, gg⟩
      rfl
set_option maxHeartbeats 2000000 in
set_option maxRecDepth 100000 in
theorem iEmptyTray (x y : Int) (w : World) : Calls Try.prog 5 #[.int .i64 x, .int .i64 y] w (Ret (.tuple #[.string (etB x y), .bool (etOk x y)]) w) := by
  have gg := Gr.refl w
  by_cases h1 : isSz x y = true
  · have HZ := hidI h1
    obtain ⟨x1, x7, y1, y7, hxy⟩ := isSz_iff.1 h1
    obtain ⟨x, rfl⟩ : ∃ n : Nat, x = n := ⟨x.toNat, by omega⟩
    obtain ⟨y, rfl⟩ : ∃ n : Nat, y = n := ⟨y.toNat, by omega⟩
    have hn := nn_int x y
    have n36 : nn x y ≤ 36 := by omega
    have hx1 : 1 ≤ x := by omega
    have hx7 : x ≤ 7 := by omega
    have hy7 : y ≤ 7 := by omega
    have HV := hidI (show etB x y = txtB x y (genC (nn x y) fun _ => 46) from by unfold etB etOk; rw [h1]; rfl)
    have HFG := hidI (fun w => filledGrid_any x y 46 w hx7 hy7 n36)
    clear h1 x1 x7 y1 y7 hxy hn
    go_enter Try.func5, Try.ntmps5
    go_wp2_with (first | (go_at_call 9; refine (isSize_any _ _ _).mono ?_; rintro e wSame ⟨rfl, rfl⟩; rw [HZ.out]) | (go_at_call 11; refine (HFG.out _).mono ?_; rintro e w3 ⟨rfl, g3⟩; have z3 := g3.size; have gg := gg.trans g3) | (go_at_call 10; refine (trayText_any x y (genC (nn x y) fun _ => 46) _ (.inl hx1) hx7 hy7 n36).mono ?_; rintro e w11 ⟨rfl, g11⟩; have z11 := g11.size; have gg := gg.trans g11))
    go_ret2
    exact ⟨fin_sb HV.out.symm HZ.out.symm, gg⟩
  · have HZ := hidI (show isSz x y = false from by simpa using h1)
    have HV := hidI (show etB x y = ⟨#[]⟩ from by unfold etB etOk; rw [HZ.out]; rfl)
    clear h1
    go_enter Try.func5, Try.ntmps5
    go_wp2_with (go_at_call 9; refine (isSize_any _ _ _).mono ?_; rintro e wSame ⟨rfl, rfl⟩; rw [HZ.out])
    go_ret2
    exact ⟨fin_sb HV.out.symm HZ.out.symm, gg⟩
set_option maxHeartbeats 2000000 in
set_option maxRecDepth 100000 in
theorem tyEmpty_any (x y : Nat) (w : World) (n36 : nn x y ≤ 36) : Calls Try.prog 8 #[.int .i64 x, .int .i64 y] w (RetG 5 x y (genC (nn x y) fun _ => 46) w) := by
  have gg := Gr.refl w
  have HN := hidI (nn_int x y)
  obtain ⟨n, hn⟩ : ∃ n, n = nn x y := ⟨_, rfl⟩
  rw [← hn] at n36 HN ⊢
  have e1 : (x : Int) * (y : Int) = (n : Int) := HN.out.symm
  clear hn HN
  have tb2 := fun w => (show (Instr.build 29 #[(0, .int .i64 x), (1, .int .i64 y)]).run Try.prog w = .ok (.agg (tg x y (.slice none 0 0))) w from by kernel_rfl)
  go_enter Try.func8, Try.ntmps8
  go_wp2_with (first | (refine r_alloc (dst := some 4) 29 _ Try.tzero rfl ?_; intro w1 B1 N1; have g1 := N1.gr; have b1 : Blk w1 B1 (tg 0 0 (.slice none 0 0)) 29 := N1.blk; have l1 := N1.lo; have t1 := N1.hi; have z1 := g1.size; have gg := gg.trans g1; clear N1; obtain ⟨b1_0, b1_1, b1_2⟩ := tcells b1) | (refine r_build 29 [(0, .tmp 7), (1, .tmp 8)] [(0, .int .i64 x), (1, .int .i64 y)] _ (tb2 _) rfl rfl ?_) | (refine r_alloc (dst := some 5) 29 _ Try.tzero rfl ?_; intro w2 B2 N2; have g2 := N2.gr; have b2 : Blk w2 B2 (tg 0 0 (.slice none 0 0)) 29 := N2.blk; have l2 := N2.lo; have t2 := N2.hi; have z2 := g2.size; have b1 := g2.blk b1; obtain ⟨b1_0, b1_1, b1_2⟩ := tcells b1; have gg := gg.trans g2; clear N2; obtain ⟨b2_0, b2_1, b2_2⟩ := tcells b2) | (refine r_store_row 29 29 _ _ _ rfl (tg _ _ _) _ rfl b2 Try.tsize rfl (tg_one rfl) rfl ?_; intro w3 u3 b2'; have z3 := u3.size; have gg := u3.gr gg (by omega); have b1 := u3.blk b1 (by omega); obtain ⟨b1_0, b1_1, b1_2⟩ := tcells b1; clear b2; have b2 := b2'; clear b2'; obtain ⟨b2_0, b2_1, b2_2⟩ := tcells b2))
  have own0 : w3.ownsRow w.heap.size 5 1 (.slice none 0 0) 0 (cellsV (genC 0 fun _ => 46)) := World.ownsRow_nil _ _ _ _
  go_loopw [6] (fun i wr => ∃ (k : Nat) (sl : Value), k ≤ n ∧ i = .int .i64 k ∧ Blk wr B1 (tg 0 0 (.slice none 0 0)) 29 ∧ Blk wr B2 (tg x y sl) 29 ∧ wr.ownsRow w.heap.size 5 1 sl k (cellsV (genC k fun _ => 46)) ∧ Gr w wr) (fun i _ => n - (intOf i).toNat)
  case atStart => exact ⟨0, _, Nat.zero_le _, rfl, b1, b2, own0, gg⟩
  case round =>
    obtain ⟨k, sl, hk, rfl, b1, b2, own, gg⟩ := hrel
    have hB12 : B1 < B2 := by omega
    have lo1 : w.heap.size ≤ B1 := by omega
    obtain ⟨b2_0, b2_1, b2_2⟩ := tcells b2
    by_cases hlt : k < n
    · go_wp2_with (first | (refine r_slice1 27 5 (.const (.int .u8 46)) (byteV 46) rfl (Try.bs1 _ _) rfl ?_; intro w5 B5 N5; have g5 := N5.gr; have own5 := g5.row own; have b15 := g5.blk b1; have b25 := g5.blk b2; have gg5 := gg.trans g5; have z5 := g5.size) | (refine r_append (.tmp 18) (.tmp 19) 27 5 _ 1 1 w.heap.size Try.bytesI sl k (cellsV (genC k fun _ => 46)) rfl own5 ⟨B5, 0, none⟩ 1 1 [byteV 46] rfl rfl N5.cell1 (cellsV_one [46]) (by omega) (by decide) (by have := gg5.size; omega) rfl ?_; intro v6 w6 own6 g6; have b16 := g6.blk b15 (own_ne own5 b15 (by decide)); have b26 := g6.blk b25 (own_ne own5 b25 (by decide)); have gg6 := g6.gr gg5 (own_gr own5 (Nat.le_refl _))) | (refine r_store_cell 27 29 _ _ B2 2 rfl v6 rfl _ b26 (by show 2 < 3; decide) Try.sizeOf27 (own_one own6) rfl ?_; intro w7 u7 b7'))
      have b7 : Blk w7 B2 (tg x y v6) 29 := b7'
      have own7 := u7.row own6 (own_ne own6 b26 (by decide))
      go_roundw
      case rel => exact ⟨k + 1, v6, by omega, by go_num, u7.blk b16 (by omega), b7, by rw [genC_succ, ← cellsV_append]; exact own7, u7.gr gg6 (by omega)⟩
      case measure => simp [intOf]; omega
    · obtain rfl : n = k := by omega
      have hne1 := own_ne own b1 (by decide)
      have hone := own_one own
      have hl : (genC n fun _ => (46 : UInt8)).length = n := genC_length _ _
      clear hlt
      go_wp2_with (first | (refine r_load_row 29 _ _ rfl _ _ _ b2 Try.underlying29 rfl Try.tinfo rfl ?_) | (refine r_store_row 29 29 _ _ B1 rfl (tg x y sl) _ rfl b1 Try.tsize rfl (tg_one hone) rfl ?_; intro w7 u7 b7))
      refine bodyPost_ret (results_row rfl _ _ _ _ _ _ rfl b7 Try.underlying29 rfl Try.tinfo) rfl ?_
      refine ⟨u7.gr gg lo1, sl, rfl, ?_⟩
      rw [hl]
      exact u7.row own hne1
theorem btw_isSz (x y : Int) : btw x 1 7 = true → btw y 1 7 = true → isSz x y = decide (x * y ≤ 36) := by
  intro h1 h2
  unfold btw at h1 h2
  rw [Bool.and_eq_true, decide_eq_true_eq, decide_eq_true_eq] at h1 h2
  unfold isSz
  simp [h1, h2]
theorem btw_not1 (x y : Int) (h : btw x 1 7 = false) : isSz x y = false := by
  rw [← Bool.not_eq_true, isSz_iff]
  intro k
  unfold btw at h
  rw [Bool.and_eq_false_iff, decide_eq_false_iff_not, decide_eq_false_iff_not] at h
  omega
theorem btw_not2 (x y : Int) (h : btw y 1 7 = false) : isSz x y = false := by
  rw [← Bool.not_eq_true, isSz_iff]
  intro k
  unfold btw at h
  rw [Bool.and_eq_false_iff, decide_eq_false_iff_not, decide_eq_false_iff_not] at h
  omega
set_option maxHeartbeats 2000000 in
set_option maxRecDepth 100000 in
theorem sEmptyTray (x y : Int) (w : World) : Calls Try.prog 4 #[.int .i64 x, .int .i64 y] w (Ret (.tuple #[.string (etB x y), .bool (etOk x y)]) w) := by
  have gg := Gr.refl w
  have bad : isSz x y = false → etB x y = ⟨#[]⟩ ∧ etOk x y = false := fun h => by unfold etB etOk; rw [h]; exact ⟨rfl, rfl⟩
  have BAD := hidI bad
  clear bad
  by_cases h1 : btw x 1 7 = true
  · by_cases h2 : btw y 1 7 = true
    · have HS := hidI (btw_isSz x y h1 h2)
      have H1 := hidI h1
      have H2 := hidI h2
      unfold btw at h1 h2
      rw [Bool.and_eq_true, decide_eq_true_eq, decide_eq_true_eq] at h1 h2
      obtain ⟨x1, x7⟩ := h1
      obtain ⟨y1, y7⟩ := h2
      obtain ⟨x, rfl⟩ : ∃ n : Nat, x = n := ⟨x.toNat, by omega⟩
      obtain ⟨y, rfl⟩ : ∃ n : Nat, y = n := ⟨y.toNat, by omega⟩
      have hn := nn_int x y
      have hx7 : x ≤ 7 := by omega
      have hy7 : y ≤ 7 := by omega
      have hx1 : 1 ≤ x := by omega
      have hy1 : 1 ≤ y := by omega
      have h49 := nn_le hx7 hy7
      have e1 : (x : Int) * (y : Int) = (nn x y : Nat) := hn.symm
      by_cases h3 : nn x y ≤ 36
      · have HZ := hidI (show isSz x y = true from by rw [HS.out, decide_eq_true_eq]; omega)
        have HV := hidI (show etB x y = txtB x y (genC (nn x y) fun _ => 46) from by unfold etB etOk; rw [HZ.out]; rfl)
        have HL := hidI (genC_length (nn x y) fun _ => (46 : UInt8))
        clear hn x1 x7 y1 y7
        go_enter Try.func4, Try.ntmps4
        go_wp2_with (go_at_call 6; refine (l1In_any _ _ _ _).mono ?_; rintro e wSame ⟨rfl, rfl⟩; first | rw [H1.out] | rw [H2.out])
        refine (tyEmpty_any x y _ h3).mono ?_
        rintro e w4 ⟨g4, sl4, rfl, hown4⟩
        have gg := gg.trans g4
        go_wp2_with (go_at_call 7; refine (tyText_n x y _ _ (genC (nn x y) fun _ => 46) _ _ hx1 hy1 hx7 hy7 h3 HL.out rfl hown4).mono ?_; rintro e w5 ⟨rfl, g5⟩; have z5 := g5.size; have gg := gg.trans g5)
        go_ret2
        exact ⟨fin_sb HV.out.symm HZ.out.symm, gg⟩
      · have HZ := hidI (show isSz x y = false from by rw [HS.out, decide_eq_false_iff_not]; omega)
        have HV := hidI (BAD.out HZ.out)
        have h3' : 36 < nn x y := by omega
        clear hn h3 x1 x7 y1 y7
        go_enter Try.func4, Try.ntmps4
        go_wp2_with (go_at_call 6; refine (l1In_any _ _ _ _).mono ?_; rintro e wSame ⟨rfl, rfl⟩; first | rw [H1.out] | rw [H2.out])
        go_ret2
        exact ⟨fin_sb HV.out.1.symm HV.out.2.symm, gg⟩
    · have H1 := hidI h1
      have H2 := hidI (show btw y 1 7 = false from by simpa using h2)
      have HV := hidI (BAD.out (btw_not2 x y H2.out))
      clear h1 h2
      go_enter Try.func4, Try.ntmps4
      go_wp2_with (go_at_call 6; refine (l1In_any _ _ _ _).mono ?_; rintro e wSame ⟨rfl, rfl⟩; first | rw [H1.out] | rw [H2.out])
      go_ret2
      exact ⟨fin_sb HV.out.1.symm HV.out.2.symm, gg⟩
  · have H1 := hidI (show btw x 1 7 = false from by simpa using h1)
    have HV := hidI (BAD.out (btw_not1 x y H1.out))
    clear h1
    go_enter Try.func4, Try.ntmps4
    go_wp2_with (go_at_call 6; refine (l1In_any _ _ _ _).mono ?_; rintro e wSame ⟨rfl, rfl⟩; rw [H1.out])
    go_ret2
    exact ⟨fin_sb HV.out.1.symm HV.out.2.symm, gg⟩
set_option maxHeartbeats 1000000 in
theorem lawEmptyTray (x y : Int) (w : World) : Calls Try.prog 3 #[.int .i64 x, .int .i64 y] w (Ret (.bool true) w) := by
  have gg := Gr.refl w
  go_enter Try.func3, Try.ntmps3
  go_wp2_with (first | (go_at_call 4; refine (sEmptyTray x y _).mono ?_; rintro e w1 ⟨rfl, g1⟩; have z1 := g1.size; have gg := gg.trans g1) | (go_at_call 5; refine (iEmptyTray x y _).mono ?_; rintro e w2 ⟨rfl, g2⟩; have z2 := g2.size; have gg := gg.trans g2))
  go_ret
  exact ⟨rfl, gg⟩
end Go.Proofs.Ytagoipongdnegaa
