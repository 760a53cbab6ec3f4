/-
  Empty trays: in the program and in the model, and the law.
-/
import Derived.Test.YtamdmhclhjkogaaGreatDoorBSp
import Derived.Test.YtamdmhclhjkogaaGreatDoorBSp
import Derived.Test.YtamdmhclhjkogaaGreatDoorBLs
namespace Go.Proofs.YtamdmhclhjkogaaGreatDoor
open Go.RowKit
def etOk (x y : Int) : Bool := isSz x y
def etB (x y : Int) : ByteArray := if etOk x y then txtB x.toNat y.toNat (genC (nn x.toNat y.toNat) fun _ => 46) else ⟨#[]⟩
/-- The first k of n cells free, and zeros else. -/
def freeTo (n k : Nat) : List UInt8 := genC n fun i => if i < k then 46 else 0
set_option maxHeartbeats 2000000 in
set_option maxRecDepth 100000 in
theorem tyEmpty_any (x y : Nat) (w : World) (n36 : nn x y ≤ 36) : Calls Tryz.prog 13 #[.int .i64 x, .int .i64 y] w (RetG 5 x y (genC (nn x y) fun _ => 46) w) := by
  have gg := Gr.refl w
  have HN := hidI (nn_int x y)
  obtain ⟨n, hn⟩ : ∃ n, n = nn x y := ⟨_, rfl⟩
  rw [← hn] at n36 HN ⊢
  have e1 : (x : Int) * (y : Int) = (n : Int) := HN.out.symm
  clear hn HN
  have tb2 := fun w => (show (Instr.build 36 #[(0, .int .i64 x), (1, .int .i64 y)]).run Tryz.prog w = .ok (.agg (tg x y (.slice none 0 0))) w from by kernel_rfl)
  go_enter Tryz.func13, Tryz.ntmps13
  go_wp2_with (first | (refine r_alloc (dst := some 4) 36 _ Tryz.tzero rfl ?_; intro w1 B1 N1; have g1 := N1.gr; have b1 : Blk w1 B1 (tg 0 0 (.slice none 0 0)) 36 := N1.blk; have l1 := N1.lo; have t1 := N1.hi; have z1 := g1.size; have gg := gg.trans g1; clear N1; obtain ⟨b1_0, b1_1, b1_2⟩ := tcells b1) | (refine r_build 36 [(0, .tmp 7), (1, .tmp 8)] [(0, .int .i64 x), (1, .int .i64 y)] _ (tb2 _) rfl rfl ?_) | (refine r_alloc (dst := some 5) 36 _ Tryz.tzero rfl ?_; intro w2 B2 N2; have g2 := N2.gr; have b2 : Blk w2 B2 (tg 0 0 (.slice none 0 0)) 36 := N2.blk; have l2 := N2.lo; have t2 := N2.hi; have z2 := g2.size; have b1 := g2.blk b1; obtain ⟨b1_0, b1_1, b1_2⟩ := tcells b1; have gg := gg.trans g2; clear N2; obtain ⟨b2_0, b2_1, b2_2⟩ := tcells b2) | (refine r_store_row 36 36 _ _ _ rfl (tg _ _ _) _ rfl b2 Tryz.tsize rfl (tg_one rfl) rfl ?_; intro w3 u3 b2'; have z3 := u3.size; have gg := u3.gr gg (by omega); have b1 := u3.blk b1 (by omega); obtain ⟨b1_0, b1_1, b1_2⟩ := tcells b1; clear b2; have b2 := b2'; clear b2'; obtain ⟨b2_0, b2_1, b2_2⟩ := tcells b2))
  have own0 : w3.ownsRow w.heap.size 5 1 (.slice none 0 0) 0 (cellsV (genC 0 fun _ => 46)) := World.ownsRow_nil _ _ _ _
  go_loopw [6] (fun i wr => ∃ (k : Nat) (sl : Value), k ≤ n ∧ i = .int .i64 k ∧ Blk wr B1 (tg 0 0 (.slice none 0 0)) 36 ∧ Blk wr B2 (tg x y sl) 36 ∧ wr.ownsRow w.heap.size 5 1 sl k (cellsV (genC k fun _ => 46)) ∧ Gr w wr) (fun i _ => n - (intOf i).toNat)
  case atStart => exact ⟨0, _, Nat.zero_le _, rfl, b1, b2, own0, gg⟩
  case round =>
    obtain ⟨k, sl, hk, rfl, b1, b2, own, gg⟩ := hrel
    have hB12 : B1 < B2 := by omega
    have lo1 : w.heap.size ≤ B1 := by omega
    obtain ⟨b2_0, b2_1, b2_2⟩ := tcells b2
    by_cases hlt : k < n
    · go_wp2_with (first | (refine r_slice1 34 5 (.const (.int .u8 46)) (byteV 46) rfl (Tryz.bs1 _ _) rfl ?_; intro w5 B5 N5; have g5 := N5.gr; have own5 := g5.row own; have b15 := g5.blk b1; have b25 := g5.blk b2; have gg5 := gg.trans g5; have z5 := g5.size) | (refine r_append (.tmp 18) (.tmp 19) 34 5 _ 1 1 w.heap.size Tryz.bytesI sl k (cellsV (genC k fun _ => 46)) rfl own5 ⟨B5, 0, none⟩ 1 1 [byteV 46] rfl rfl N5.cell1 (cellsV_one [46]) (by omega) (by decide) (by have := gg5.size; omega) rfl ?_; intro v6 w6 own6 g6; have b16 := g6.blk b15 (own_ne own5 b15 (by decide)); have b26 := g6.blk b25 (own_ne own5 b25 (by decide)); have gg6 := g6.gr gg5 (own_gr own5 (Nat.le_refl _))) | (refine r_store_cell 34 36 _ _ B2 2 rfl v6 rfl _ b26 (by show 2 < 3; decide) Tryz.sizeOf34 (own_one own6) rfl ?_; intro w7 u7 b7'))
      have b7 : Blk w7 B2 (tg x y v6) 36 := b7'
      have own7 := u7.row own6 (own_ne own6 b26 (by decide))
      go_roundw
      case rel => exact ⟨k + 1, v6, by omega, by go_num, u7.blk b16 (by omega), b7, by rw [genC_succ, ← cellsV_append]; exact own7, u7.gr gg6 (by omega)⟩
      case measure => simp [intOf]; omega
    · obtain rfl : n = k := by omega
      have hne1 := own_ne own b1 (by decide)
      have hone := own_one own
      have hl : (genC n fun _ => (46 : UInt8)).length = n := genC_length _ _
      clear hlt
      go_wp2_with (first | (refine r_load_row 36 _ _ rfl _ _ _ b2 Tryz.underlying36 rfl Tryz.tinfo rfl ?_) | (refine r_store_row 36 36 _ _ B1 rfl (tg x y sl) _ rfl b1 Tryz.tsize rfl (tg_one hone) rfl ?_; intro w7 u7 b7))
      refine bodyPost_ret (results_row rfl _ _ _ _ _ _ rfl b7 Tryz.underlying36 rfl Tryz.tinfo) rfl ?_
      refine ⟨u7.gr gg lo1, sl, rfl, ?_⟩
      rw [hl]
      exact u7.row own hne1
end Go.Proofs.YtamdmhclhjkogaaGreatDoor
