/-
  Empty trays: in the program and in the model, and the law.
-/
import Derived.Test.YtdebiobhmpoiiaaDoorBSp
import Derived.Test.YtdebiobhmpoiiaaDoorBSp
import Derived.Test.YtdebiobhmpoiiaaDoorBLs
namespace Go.Proofs.YtdebiobhmpoiiaaDoor
open Go.RowKit
def etOk (x y : Int) : Bool := isSz x y
def etB (x y : Int) : ByteArray := if etOk x y then txtB x.toNat y.toNat (genC (nn x.toNat y.toNat) fun _ => 46) else ⟨#[]⟩
/-- The first k of n cells free, and zeros else. -/
def freeTo (n k : Nat) : List UInt8 := genC n fun i => if i < k then 46 else 0
def flTo (N : Nat) (b : UInt8) (k : Nat) : List UInt8 := genC N fun i => if i < k then b else 0
theorem flTo_set {N k : Nat} {b : UInt8} : (flTo N b k).set k b = flTo N b (k + 1) := by
  unfold flTo
  rw [genC_set]
  apply genC_congr
  intro i hi
  by_cases e : i = k
  · subst e; rw [if_pos rfl, if_pos (by omega)]
  · rw [if_neg e]
    by_cases h : i < k
    · rw [if_pos h, if_pos (by omega)]
    · rw [if_neg h, if_neg (by omega)]
theorem flTo_all (N : Nat) (b : UInt8) : flTo N b N = genC N fun _ => b := by
  unfold flTo
  exact genC_congr fun i hi => if_pos hi
set_option maxHeartbeats 2000000 in
set_option maxRecDepth 100000 in
theorem filledGrid_any (x y : Nat) (b : UInt8) (w : World) (hx : x ≤ 7) (hy : y ≤ 7) (n36 : nn x y ≤ 36) : Calls Tryd.prog 114 #[.int .i64 x, .int .i64 y, .int .u8 b.toNat] w (Ret (.agg (gv x y (genC (nn x y) fun _ => b))) w) := by
  have gg := Gr.refl w
  have HE0 := hidI (gv_ext (W := x) (H := y) (c := []) (d := flTo (nn x y) b 0) fun i _ => by
    unfold flTo; rw [genC_at]; split
    · rw [if_neg (Nat.not_lt_zero _)]; rfl
    · rfl)
  go_enter Tryd.func114, Tryd.ntmps114
  go_wp2_with (first | (refine r_build 72 [(0, .tmp 9), (1, .tmp 10)] [(0, .int .i64 (x)), (1, .int .i64 (y))] _ (Tryd.gbuild _ _ _) rfl rfl ?_) | (refine r_alloc (dst := some 6) 72 _ Tryd.gzero rfl ?_; intro w1 B1 N1; have g1 := N1.gr; have b1 : Blk w1 B1 (gv 0 0 []) 72 := N1.blk; have l1 := N1.lo; have t1 := N1.hi; have z1 := g1.size; have gg := gg.trans g1; clear N1; obtain ⟨b1_0, b1_1, b1_2⟩ := gcells b1) | (refine r_alloc (dst := some 7) 72 _ Tryd.gzero rfl ?_; intro w5 B5 N5; have g5 := N5.gr; have b5 : Blk w5 B5 (gv 0 0 []) 72 := N5.blk; have l5 := N5.lo; have t5 := N5.hi; have z5 := g5.size; have b1 := g5.blk b1; obtain ⟨b1_0, b1_1, b1_2⟩ := gcells b1; have gg := gg.trans g5; clear N5; obtain ⟨b5_0, b5_1, b5_2⟩ := gcells b5) | (refine r_store_row 72 72 _ _ _ rfl (gv x y []) _ rfl b5 (Tryd.gsize' _ _ _) (by simp only [gv_size]) (gv_one _ _ _) rfl ?_; intro w2 u2 b5'; have z2 := u2.size; have gg := u2.gr gg (by omega); have b1 := u2.blk b1 (by omega); obtain ⟨b1_0, b1_1, b1_2⟩ := gcells b1; clear b5; have b5 := b5'; clear b5'; obtain ⟨b5_0, b5_1, b5_2⟩ := gcells b5) | (refine r_load_row 72 _ _ rfl _ _ _ b5 Tryd.underlying72 rfl (Tryd.ginfo' _ _ _) rfl ?_) | (go_at_call 70; refine (countAll_any x y [] _ hx hy).mono ?_; rintro e w3 ⟨rfl, g3⟩; have z3 := g3.size; have b1 := g3.blk b1; have b5 := g3.blk b5; have gg := gg.trans g3))
  rw [HE0.out] at b5
  go_loopw [8, 14] (fun _ i wr => ∃ k : Nat, k ≤ nn x y ∧ i = .int .i64 k ∧ Blk wr B1 (gv 0 0 []) 72 ∧ Blk wr B5 (gv x y (flTo (nn x y) b k)) 72 ∧ Gr w wr) (fun _ i _ => nn x y - (intOf i).toNat)
  case atStart => exact ⟨0, Nat.zero_le _, rfl, b1, b5, gg⟩
  case round =>
    obtain ⟨k, hk, rfl, b1, b5, gg⟩ := hrel
    have lo1 : w.heap.size ≤ B1 := by omega
    have lo5 : w.heap.size ≤ B5 := by omega
    have hne : B1 < B5 := by omega
    by_cases hlt : k < nn x y
    · have hix := Tryd.gix B5 k (by omega)
      have hset := gv_set x y (flTo (nn x y) b k) k b (by omega) (by unfold flTo; rw [genC_length]; exact hlt)
      rw [flTo_set] at hset
      have HSET := hidI hset
      clear hset
      go_wp2_with (refine r_store_cell 5 72 _ _ B5 (2 + k) rfl (byteV b) rfl _ b5 (by rw [gv_size]; omega) Tryd.sizeOf5 rfl rfl ?_; intro w10 u10 b10; rw [HSET.out] at b10; have gg := u10.gr gg lo5; have b1 := u10.blk b1 (by omega))
      go_roundw
      case rel => exact ⟨k + 1, by omega, by go_num, b1, b10, gg⟩
      case measure => simp [intOf]; omega
    · obtain rfl : k = nn x y := by omega
      rw [flTo_all] at b5
      clear hlt
      go_wp2_with (first | (refine r_load_row 72 _ _ rfl _ _ _ b5 Tryd.underlying72 rfl (Tryd.ginfo' _ _ _) rfl ?_) | (refine r_store_row 72 72 _ _ _ rfl (gv _ _ _) _ rfl b1 (Tryd.gsize' _ _ _) (by simp only [gv_size]) (gv_one _ _ _) rfl ?_; intro w6 u6 b1'; have z6 := u6.size; have gg := u6.gr gg (by omega); have b5 := u6.blk b5 (by omega); clear b1; have b1 := b1'; clear b1'; obtain ⟨b1_0, b1_1, b1_2⟩ := gcells b1))
      refine bodyPost_ret (results_row rfl _ _ _ _ _ _ rfl b1 Tryd.underlying72 rfl (Tryd.ginfo' _ _ _)) rfl ⟨?_, gg⟩
      rfl
set_option maxHeartbeats 2000000 in
set_option maxRecDepth 100000 in
theorem tyEmpty_any (x y : Nat) (w : World) (n36 : nn x y ≤ 36) : Calls Tryd.prog 74 #[.int .i64 x, .int .i64 y] w (RetG 5 x y (genC (nn x y) fun _ => 46) w) := by
  have gg := Gr.refl w
  have HN := hidI (nn_int x y)
  obtain ⟨n, hn⟩ : ∃ n, n = nn x y := ⟨_, rfl⟩
  rw [← hn] at n36 HN ⊢
  have e1 : (x : Int) * (y : Int) = (n : Int) := HN.out.symm
  clear hn HN
  have tb2 := fun w => (show (Instr.build 55 #[(0, .int .i64 x), (1, .int .i64 y)]).run Tryd.prog w = .ok (.agg (tg x y (.slice none 0 0))) w from by kernel_rfl)
  go_enter Tryd.func74, Tryd.ntmps74
  go_wp2_with (first | (refine r_alloc (dst := some 4) 55 _ Tryd.tzero rfl ?_; intro w1 B1 N1; have g1 := N1.gr; have b1 : Blk w1 B1 (tg 0 0 (.slice none 0 0)) 55 := N1.blk; have l1 := N1.lo; have t1 := N1.hi; have z1 := g1.size; have gg := gg.trans g1; clear N1; obtain ⟨b1_0, b1_1, b1_2⟩ := tcells b1) | (refine r_build 55 [(0, .tmp 7), (1, .tmp 8)] [(0, .int .i64 x), (1, .int .i64 y)] _ (tb2 _) rfl rfl ?_) | (refine r_alloc (dst := some 5) 55 _ Tryd.tzero rfl ?_; intro w2 B2 N2; have g2 := N2.gr; have b2 : Blk w2 B2 (tg 0 0 (.slice none 0 0)) 55 := N2.blk; have l2 := N2.lo; have t2 := N2.hi; have z2 := g2.size; have b1 := g2.blk b1; obtain ⟨b1_0, b1_1, b1_2⟩ := tcells b1; have gg := gg.trans g2; clear N2; obtain ⟨b2_0, b2_1, b2_2⟩ := tcells b2) | (refine r_store_row 55 55 _ _ _ rfl (tg _ _ _) _ rfl b2 Tryd.tsize rfl (tg_one rfl) rfl ?_; intro w3 u3 b2'; have z3 := u3.size; have gg := u3.gr gg (by omega); have b1 := u3.blk b1 (by omega); obtain ⟨b1_0, b1_1, b1_2⟩ := tcells b1; clear b2; have b2 := b2'; clear b2'; obtain ⟨b2_0, b2_1, b2_2⟩ := tcells b2))
  have own0 : w3.ownsRow w.heap.size 5 1 (.slice none 0 0) 0 (cellsV (genC 0 fun _ => 46)) := World.ownsRow_nil _ _ _ _
  go_loopw [6] (fun i wr => ∃ (k : Nat) (sl : Value), k ≤ n ∧ i = .int .i64 k ∧ Blk wr B1 (tg 0 0 (.slice none 0 0)) 55 ∧ Blk wr B2 (tg x y sl) 55 ∧ wr.ownsRow w.heap.size 5 1 sl k (cellsV (genC k fun _ => 46)) ∧ Gr w wr) (fun i _ => n - (intOf i).toNat)
  case atStart => exact ⟨0, _, Nat.zero_le _, rfl, b1, b2, own0, gg⟩
  case round =>
    obtain ⟨k, sl, hk, rfl, b1, b2, own, gg⟩ := hrel
    have hB12 : B1 < B2 := by omega
    have lo1 : w.heap.size ≤ B1 := by omega
    obtain ⟨b2_0, b2_1, b2_2⟩ := tcells b2
    by_cases hlt : k < n
    · go_wp2_with (first | (refine r_slice1 53 5 (.const (.int .u8 46)) (byteV 46) rfl (Tryd.bs1 _ _) rfl ?_; intro w5 B5 N5; have g5 := N5.gr; have own5 := g5.row own; have b15 := g5.blk b1; have b25 := g5.blk b2; have gg5 := gg.trans g5; have z5 := g5.size) | (refine r_append (.tmp 18) (.tmp 19) 53 5 _ 1 1 w.heap.size Tryd.bytesI sl k (cellsV (genC k fun _ => 46)) rfl own5 ⟨B5, 0, none⟩ 1 1 [byteV 46] rfl rfl N5.cell1 (cellsV_one [46]) (by omega) (by decide) (by have := gg5.size; omega) rfl ?_; intro v6 w6 own6 g6; have b16 := g6.blk b15 (own_ne own5 b15 (by decide)); have b26 := g6.blk b25 (own_ne own5 b25 (by decide)); have gg6 := g6.gr gg5 (own_gr own5 (Nat.le_refl _))) | (refine r_store_cell 53 55 _ _ B2 2 rfl v6 rfl _ b26 (by show 2 < 3; decide) Tryd.sizeOf53 (own_one own6) rfl ?_; intro w7 u7 b7'))
      have b7 : Blk w7 B2 (tg x y v6) 55 := b7'
      have own7 := u7.row own6 (own_ne own6 b26 (by decide))
      go_roundw
      case rel => exact ⟨k + 1, v6, by omega, by go_num, u7.blk b16 (by omega), b7, by rw [genC_succ, ← cellsV_append]; exact own7, u7.gr gg6 (by omega)⟩
      case measure => simp [intOf]; omega
    · obtain rfl : n = k := by omega
      have hne1 := own_ne own b1 (by decide)
      have hone := own_one own
      have hl : (genC n fun _ => (46 : UInt8)).length = n := genC_length _ _
      clear hlt
      go_wp2_with (first | (refine r_load_row 55 _ _ rfl _ _ _ b2 Tryd.underlying55 rfl Tryd.tinfo rfl ?_) | (refine r_store_row 55 55 _ _ B1 rfl (tg x y sl) _ rfl b1 Tryd.tsize rfl (tg_one hone) rfl ?_; intro w7 u7 b7))
      refine bodyPost_ret (results_row rfl _ _ _ _ _ _ rfl b7 Tryd.underlying55 rfl Tryd.tinfo) rfl ?_
      refine ⟨u7.gr gg lo1, sl, rfl, ?_⟩
      rw [hl]
      exact u7.row own hne1
end Go.Proofs.YtdebiobhmpoiiaaDoor
