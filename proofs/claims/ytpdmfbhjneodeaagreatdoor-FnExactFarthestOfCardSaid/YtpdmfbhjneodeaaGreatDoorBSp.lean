/-
  What the model's functions on single cells return: whether a text is one cell, how many cells have a text.
  What the model's functions that return texts of cells return: one cell, and the text of a whole grid.
  What the model's text of a grid is, and the text of a grid that is a tray.
  What the model's functions that change a tray's cells return: one cell put, and all balls taken out.
  What the model's copy of a grid is, and its grid with all balls taken out.
-/
import Derived.Test.YtpdmfbhjneodeaaGreatDoorBTy
import Derived.Test.YtpdmfbhjneodeaaGreatDoorBIm
namespace Go.Proofs.YtpdmfbhjneodeaaGreatDoor
open Go.RowKit
theorem beq_byte {b c : UInt8} (h : b = c) : ((b.toNat : Int) == (c.toNat : Int)) = true := by rw [h]; simp
theorem bne_byte {b c : UInt8} (h : ¬ b = c) : ((b.toNat : Int) == (c.toNat : Int)) = false := by
  rw [beq_eq_false_iff_ne]; intro e; exact h (UInt8.toNat_inj.1 (by omega))
theorem own_new {w : World} {base : Nat} {e : TypeId} {size : Nat} {v : Value} {n : Nat} {xs : List Value} (hr : w.ownsRow base e size v n xs) {B : Nat} (hB : w.heap.size ≤ B) : v.ownBlock ≠ some B := fun h => by
  have := (hr.lt B h).2
  omega
end Go.Proofs.YtpdmfbhjneodeaaGreatDoor
namespace Go.Proofs.YtpdmfbhjneodeaaGreatDoor
open Go.RowKit
def btw (x lo h : Int) : Bool := decide (lo ≤ x) && decide (x ≤ h)
theorem btw_inB (x : Int) (n : Nat) : btw x 0 ((n : Int) - 1) = inB x n := by
  unfold btw inB
  congr 1
  apply decide_eq_decide.2
  omega
set_option maxHeartbeats 400000 in
theorem l1In_any (x lo h : Int) (w : World) : Calls Tryz.prog 79 #[.int .i64 x, .int .i64 lo, .int .i64 h] w fun e w' => e = .returned (.bool (btw x lo h)) ∧ w = w' := by
  by_cases h1 : lo ≤ x
  · have HV := hidI (show btw x lo h = decide (x ≤ h) from by unfold btw; rw [decide_eq_true h1]; rfl)
    go_enter Tryz.func79, Tryz.ntmps79
    go_wp2
    go_ret
    exact ⟨ret_bool HV.out.symm, rfl⟩
  · have HV := hidI (show btw x lo h = false from by unfold btw; rw [decide_eq_false h1]; rfl)
    have h1' : x < lo := by omega
    clear h1
    go_enter Tryz.func79, Tryz.ntmps79
    go_wp2
    go_ret
    exact ⟨ret_bool HV.out.symm, rfl⟩
set_option maxHeartbeats 1000000 in
theorem tyCell_any (W H : Nat) (sl : Value) (x y : Int) (w : World) (hW : W ≤ 7) (hH : H ≤ 7) : Calls Tryz.prog 57 #[.agg (tg W H sl), .int .i64 x, .int .i64 y] w (Ret (.bool (inB x W && inB y H)) w) := by
  have gg := Gr.refl w
  by_cases h1 : inB x W = true
  · have HX := hidI (btw_inB x W)
    have HY := hidI (btw_inB y H)
    have HB := hidI h1
    clear h1
    go_enter Tryz.func57, Tryz.ntmps57
    go_wp2_with (first | (refine r_box 31 _ (tg (W) (H) (sl)) rfl rfl ?_; intro w1 B1 N1; have g1 := N1.gr; have b1 : Blk w1 B1 (tg (W) (H) (sl)) 31 := N1.blk; have l1 := N1.lo; have t1 := N1.hi; have z1 := g1.size; have gg := gg.trans g1; clear N1; obtain ⟨b1_0, b1_1, b1_2⟩ := tcells b1) | (go_at_call 79; refine (l1In_any _ _ _ _).mono ?_; rintro e wSame ⟨rfl, rfl⟩; first | rw [HX.out, HB.out] | rw [HY.out]))
    go_ret
    exact ⟨ret_bool (by rw [HB.out]; rfl), gg⟩
  · have HX := hidI (btw_inB x W)
    have HB := hidI (show inB x W = false from by simpa using h1)
    clear h1
    go_enter Tryz.func57, Tryz.ntmps57
    go_wp2_with (first | (refine r_box 31 _ (tg (W) (H) (sl)) rfl rfl ?_; intro w1 B1 N1; have g1 := N1.gr; have b1 : Blk w1 B1 (tg (W) (H) (sl)) 31 := N1.blk; have l1 := N1.lo; have t1 := N1.hi; have z1 := g1.size; have gg := gg.trans g1; clear N1; obtain ⟨b1_0, b1_1, b1_2⟩ := tcells b1) | (go_at_call 79; refine (l1In_any _ _ _ _).mono ?_; rintro e wSame ⟨rfl, rfl⟩; rw [HX.out, HB.out]))
    go_ret
    exact ⟨ret_bool (by rw [HB.out]; rfl), gg⟩
end Go.Proofs.YtpdmfbhjneodeaaGreatDoor
namespace Go.Proofs.YtpdmfbhjneodeaaGreatDoor
open Go.RowKit
theorem cat_first (W : Nat) (c : List UInt8) : txtB W 0 c ++ rowB W c 0 = txtB W 1 c := by
  unfold txtB rowB
  rw [mkB_append, txtL_zero, txtL_one]
  rfl
theorem cat_next (W : Nat) (c : List UInt8) (k : Nat) (h : 0 < k) : (txtB W k c ++ ⟨#[47]⟩) ++ rowB W c k = txtB W (k + 1) c := by
  unfold txtB rowB
  rw [show (⟨#[47]⟩ : ByteArray) = ⟨[(47 : UInt8)].toArray⟩ from rfl, mkB_append, mkB_append, txtL_succ W c k h]
theorem own_row {w : World} {base : Nat} {e : TypeId} {g n cap W y : Nat} {c : List UInt8} (hr : w.ownsRow base e 1 (.slice (some ⟨g, 0, none⟩) n cap) n (c.map byteV)) (hn : n = c.length) (hle : nn W y + W ≤ c.length) :
    Lib.Bytes w g (nn W y) (rowB W c y) := bytes_row fun i hi => own_cell hr (nn W y + i) (by omega) hn
theorem Tryz.slw (B n cap l h m : Nat) (hl : l < h) (hh : h ≤ cap) (hm : h - l = m) (w : World) : (Instr.sliceAt 29 (.slice (some ⟨B, 0, none⟩) n cap) (some (.int .i64 l)) (some (.int .i64 h)) none).run Tryz.prog w = .ok (.slice (some ⟨B, l, none⟩) m (cap - l)) w := by
  have hu : Tryz.prog.underlying 29 = some (.slice (Tryz.prog.elem 29)) := by kernel_rfl
  rw [run_sliceAt_slice w 29 _ _ _ _ hu]
  have h := Lib.run_slice_window (P := Tryz.prog) w 29 5 Tryz.underlying29 Tryz.sizeOf5 B 0 n cap l h hl hh
  rw [hm, Nat.zero_add] at h
  exact h
set_option maxHeartbeats 2000000 in
set_option maxRecDepth 100000 in
theorem tyText_any (W H base : Nat) (c : List UInt8) (sl : Value) (w : World) (hW1 : 1 ≤ W) (hH1 : 1 ≤ H) (hW : W ≤ 14) (hH : H ≤ 14) (h36 : nn W H ≤ 196) (hlen : c.length = nn W H) (hown : w.ownsRow base 5 1 sl c.length (cellsV c)) :
    Calls Tryz.prog 15 #[.agg (tg W H sl)] w (Ret (.string (txtB W H c)) w) := by
  have gg := Gr.refl w
  have hl1 : 0 < c.length := by rw [hlen]; exact Nat.mul_pos hW1 hH1
  obtain ⟨G, cap, rfl, hG, hcap⟩ := own_shape hown hl1
  have HLEN := hidI hlen
  clear hlen hl1
  go_enter Tryz.func15, Tryz.ntmps15
  go_wp2_with (refine r_box 31 _ (tg (W) (H) (.slice (some ⟨G, 0, none⟩) c.length cap)) rfl rfl ?_; intro w1 B1 N1; have g1 := N1.gr; have b1 : Blk w1 B1 (tg (W) (H) (.slice (some ⟨G, 0, none⟩) c.length cap)) 31 := N1.blk; have l1 := N1.lo; have t1 := N1.hi; have z1 := g1.size; have gg := gg.trans g1; clear N1; obtain ⟨b1_0, b1_1, b1_2⟩ := tcells b1)
  have hown := g1.row hown
  go_loop [3, 4] (fun o i => ∃ k : Nat, k ≤ H ∧ i = .int .i64 k ∧ o = .string (txtB W k c)) (fun _ i => H - (intOf i).toNat)
  case atStart => exact ⟨0, Nat.zero_le _, rfl, rfl⟩
  case round =>
    obtain ⟨k, hk, rfl, rfl⟩ := hrel
    by_cases hlt : k < H
    · have hle := nn_row (W := W) hlt
      have hle' : nn W k + W ≤ c.length := by rw [HLEN.out]; exact hle
      have hby := own_row hown rfl hle'
      obtain ⟨f, hf⟩ : ∃ f, f = nn W k := ⟨_, rfl⟩
      obtain ⟨t, ht⟩ : ∃ t, t = f + W := ⟨_, rfl⟩
      rw [← hf] at hle hle' hby
      have e1 : (k : Int) * (W : Int) = f := by rw [hf, nn_int, Int.mul_comm]
      have e2 : ((k : Int) + 1) * (W : Int) = t := by rw [ht, Int.add_mul, e1]; omega
      have hf36 : f ≤ 196 := by omega
      have ht36 : t ≤ 196 := by omega
      have hsl := Tryz.slw G c.length cap f t W (by omega) (by omega) (by omega)
      have hs1 := txtB_size W k c
      have hs3 := rowB_size W c k
      have hnn := nn_le (x := W + 1) (y := k) (a := 15) (b := 14) (by omega) (by omega)
      have hsz : (txtB W k c).size ≤ 210 := by omega
      have hf0 : k = 0 → f = 0 := fun e => by rw [hf, e]; rfl
      have HBY := hidI hby
      clear hby hf hs1 hnn
      by_cases hk0 : k = 0
      · obtain rfl : f = 0 := hf0 hk0
        subst hk0
        obtain rfl : t = W := by omega
        clear hf0 ht
        have hadd := fun w => run_string_add_sum (P := Tryz.prog) w (txtB t 0 c) (rowB t c 0) (by omega)
        have HCAT := hidI (cat_first t c)
        go_wp2_with (refine r_conv 29 9 _ _ (.string (rowB t c 0)) rfl (Tryz.conv G 0 _ _ _ HBY.out t (rowB_size t c 0)) rfl ?_)
        go_round
        case rel => exact ⟨1, by omega, by go_num, by rw [HCAT.out]⟩
        case measure => simp [intOf]; omega
      · have hk1 : 0 < k := by omega
        clear hf0 ht
        have hs2 : (txtB W k c ++ ⟨#[47]⟩ : ByteArray).size ≤ 211 := by rw [ByteArray.size_append]; show _ + 1 ≤ 211; omega
        have hadd1 := fun w => run_string_add_sum (P := Tryz.prog) w (txtB W k c) ⟨#[47]⟩ (by show (txtB W k c).size + 1 ≤ _; omega)
        have hadd2 := fun w => run_string_add_sum (P := Tryz.prog) w (txtB W k c ++ ⟨#[47]⟩) (rowB W c k) (by omega)
        have HCAT := hidI (cat_next W c k hk1)
        go_wp2_with (refine r_conv 29 9 _ _ (.string (rowB W c k)) rfl (Tryz.conv G f _ _ _ HBY.out W (rowB_size W c k)) rfl ?_)
        go_round
        case rel => exact ⟨k + 1, by omega, by go_num, by rw [HCAT.out]⟩
        case measure => simp [intOf]; omega
    · obtain rfl : k = H := by omega
      go_wp2
      go_ret
      exact ⟨rfl, gg⟩
end Go.Proofs.YtpdmfbhjneodeaaGreatDoor
namespace Go.Proofs.YtpdmfbhjneodeaaGreatDoor
open Go.RowKit
theorem cellsV_set (c : List UInt8) (j : Nat) (b : UInt8) : (cellsV c).set j (byteV b) = cellsV (c.set j b) := by
  unfold cellsV
  rw [List.map_set]
/-- It returns a grid of the model, its cells in new memory. -/
def RetG (T : TypeId) (W H : Int) (c : List UInt8) (w : World) (e : Ending) (w' : World) : Prop :=
  Gr w w' ∧ ∃ sl, e = .returned (.agg (tg W H sl)) ∧ w'.ownsRow w.heap.size T 1 sl c.length (cellsV c)
theorem own_up {w : World} {b0 base : Nat} {e : TypeId} {size : Nat} {v : Value} {n : Nat} {xs : List Value} (hr : w.ownsRow base e size v n xs) (hb : b0 ≤ base) : w.ownsRow b0 e size v n xs := by
  obtain ⟨h1, h2 | ⟨g, cap, cur, rfl, b, c, d⟩⟩ := hr
  · exact ⟨h1, .inl h2⟩
  · exact ⟨h1, .inr ⟨g, cap, cur, rfl, by omega, c, d⟩⟩
theorem tyText_n (W H base n : Nat) (c : List UInt8) (sl : Value) (w : World) (hW1 : 1 ≤ W) (hH1 : 1 ≤ H) (hW : W ≤ 7) (hH : H ≤ 7) (h36 : nn W H ≤ 36) (hlen : c.length = nn W H) (hn : c.length = n) (hown : w.ownsRow base 5 1 sl n (cellsV c)) :
    Calls Tryz.prog 15 #[.agg (tg W H sl)] w (Ret (.string (txtB W H c)) w) := by
  subst hn
  exact tyText_any W H base c sl w hW1 hH1 (by omega) (by omega) (by omega) hlen hown
theorem Tryz.six0 (B n cap x : Nat) (hx : x < n) (w : World) : (Instr.indexAt 29 (.slice (some ⟨B, 0, none⟩) n cap) (.int .i64 x)).run Tryz.prog w = .ok (.pointer (some ⟨B, x, none⟩)) w := by
  have h := Tryz.six B 0 n cap x hx w
  rw [Nat.zero_add] at h
  exact h
end Go.Proofs.YtpdmfbhjneodeaaGreatDoor
namespace Go.Proofs.YtpdmfbhjneodeaaGreatDoor
open Go.RowKit
section
variable {P : Program} {w : World} {ops : Array Oper} {rest : List Oper} {a : Act} {Q : Exit → Act → World → Prop} {dst : Option Tmp} {ty : TypeId} {pos : String} {aft : Array Edge} {gd : Option (Nat × Bool)}
/-- An empty slice, written out. -/
theorem r_slice0 (t e : TypeId) (hr : (Instr.buildSlice t 0 #[]).run P w = .ok (.slice (some ⟨w.heap.size, 0, none⟩) 0 0) (w.alloc (.cells #[] e)))
    (hgd : Region.wanted ⟨dst, .buildSlice t 0 #[], ty, pos, aft, gd⟩ (yielded ops a.tmps) = true)
    (h : ∀ w1 B, Gr w w1 → w1.ownsRow w.heap.size e 1 (.slice (some ⟨B, 0, none⟩) 0 0) 0 [] → wpList P ops Q rest (a.put dst (.slice (some ⟨B, 0, none⟩) 0 0)) w1) :
    wpList P ops Q (⟨dst, .buildSlice t 0 #[], ty, pos, aft, gd⟩ :: rest) a w :=
  wpList_want hgd fun _ hK => by
    unfold Oper.wp execOp
    simp only [List.map_toArray, List.map_nil, Sem.run_bind, hr, Result.andThen_ok, Sem.run_pure, Oper.upon]
    exact hK _ _ (h _ _ ((Gr.refl w).alloc _) ⟨rfl, .inr ⟨w.heap.size, 0, #[], rfl, Nat.le_refl _, heap_alloc_new w _, Nat.le_refl _, Nat.zero_le _, rfl, rfl⟩⟩)
end
theorem own_slice {w : World} {base : Nat} {e : TypeId} {size : Nat} {v : Value} {n : Nat} {xs : List Value} (hr : w.ownsRow base e size v n xs) : ∃ p m k, v = .slice p m k := by
  obtain ⟨_, ⟨rfl, _⟩ | ⟨g, cap, cur, rfl, _⟩⟩ := hr
  · exact ⟨_, _, _, rfl⟩
  · exact ⟨_, _, _, rfl⟩
theorem Tryz.bs0 (w : World) : (Instr.buildSlice 29 0 #[]).run Tryz.prog w = .ok (.slice (some ⟨w.heap.size, 0, none⟩) 0 0) (w.alloc (.cells #[] 5)) := by kernel_rfl
theorem Tryz.tbuild (x y : Int) (p : Option Addr) (n k : Nat) (w : World) : (Instr.build 31 #[(0, .int .i64 x), (1, .int .i64 y), (2, .slice p n k)]).run Tryz.prog w = .ok (.agg (tg x y (.slice p n k))) w := by kernel_rfl
set_option maxHeartbeats 2000000 in
set_option maxRecDepth 100000 in
theorem tyCopy_any (W H base : Nat) (c : List UInt8) (G cap : Nat) (w : World) (h36 : c.length ≤ 36) (hown : w.ownsRow base 5 1 (.slice (some ⟨G, 0, none⟩) c.length cap) c.length (cellsV c)) :
    Calls Tryz.prog 34 #[.agg (tg W H (.slice (some ⟨G, 0, none⟩) c.length cap))] w (RetG 5 W H c w) := by
  have gg := Gr.refl w
  have hGlt := (hown.lt G rfl).2
  go_enter Tryz.func34, Tryz.ntmps34
  go_wp2_with (first | (refine r_box 31 _ (tg (W) (H) (.slice (some ⟨G, 0, none⟩) c.length cap)) rfl rfl ?_; intro w1 B1 N1; have g1 := N1.gr; have b1 : Blk w1 B1 (tg (W) (H) (.slice (some ⟨G, 0, none⟩) c.length cap)) 31 := N1.blk; have l1 := N1.lo; have t1 := N1.hi; have z1 := g1.size; have gg := gg.trans g1; clear N1; obtain ⟨b1_0, b1_1, b1_2⟩ := tcells b1) | (refine r_alloc 31 _ Tryz.tzero rfl ?_; intro w2 B2 N2; have g2 := N2.gr; have b2 : Blk w2 B2 (tg 0 0 (.slice none 0 0)) 31 := N2.blk; have l2 := N2.lo; have t2 := N2.hi; have z2 := g2.size; have b1 := g2.blk b1; obtain ⟨b1_0, b1_1, b1_2⟩ := tcells b1; have gg := gg.trans g2; clear N2; obtain ⟨b2_0, b2_1, b2_2⟩ := tcells b2))
  have hown := g2.row (g1.row hown)
  have gd := (Gr.refl w2).drew
  have b1 := gd.blk b1
  have b2 := gd.blk b2
  have hown := gd.row hown
  have gg := gg.trans gd
  have zd := gd.size
  obtain ⟨b1_0, b1_1, b1_2⟩ := tcells b1
  have tB1 := b1.lt
  have tB2 := b2.lt
  refine K_begin (fun w => w.cell? ⟨B1, 0, none⟩ = some (.int .i64 W) ∧ w.cell? ⟨B1, 1, none⟩ = some (.int .i64 H) ∧ w.cell? ⟨B1, 2, none⟩ = some (.slice (some ⟨G, 0, none⟩) c.length cap)) 9 10 #[false, false, false, false, false, false, false, false, false, false] rfl (by kernel_rfl) (by kernel_rfl) ?_
  generalize w2.drew = wd at *
  have hFF := And.intro b1_0 (And.intro b1_1 b1_2)
  refine K_take 0 #[true, false, false, false, false, false, false, false, false, false] rfl (by kernel_rfl) (fun _ _ _ h => h) rfl (fun w hF => e_val _ _ (Tryz.tf0 B1 _)) (hFF) ?_; simp only [Act.put, List.setIfInBounds_toArray, List.set_cons_succ, List.set_cons_zero]
  refine K_take 1 #[true, true, false, false, false, false, false, false, false, false] rfl (by kernel_rfl) (fun _ _ _ h => h) rfl (fun w hF => e_load 3 (.tmp 3) ⟨B1, 0, none⟩ (.int .i64 W) rfl (Tryz.isAgg3 _) hF.1) (hFF) ?_; simp only [Act.put, List.setIfInBounds_toArray, List.set_cons_succ, List.set_cons_zero]
  refine K_take 2 #[true, true, true, false, false, false, false, false, false, false] rfl (by kernel_rfl) (fun _ _ _ h => h) rfl (fun w hF => e_val _ _ (Tryz.tf1 B1 _)) (hFF) ?_; simp only [Act.put, List.setIfInBounds_toArray, List.set_cons_succ, List.set_cons_zero]
  refine K_take 3 #[true, true, true, true, false, false, false, false, false, false] rfl (by kernel_rfl) (fun _ _ _ h => h) rfl (fun w hF => e_load 3 (.tmp 5) ⟨B1, 1, none⟩ (.int .i64 H) rfl (Tryz.isAgg3 _) hF.2.1) (hFF) ?_; simp only [Act.put, List.setIfInBounds_toArray, List.set_cons_succ, List.set_cons_zero]
  refine K_take 5 #[true, true, true, true, false, true, false, false, false, false] rfl (by kernel_rfl) (fun _ _ _ h => h) rfl (fun w hF => e_val _ _ (Tryz.tf2 B1 _)) (hFF) ?_; simp only [Act.put, List.setIfInBounds_toArray, List.set_cons_succ, List.set_cons_zero]
  refine K_take 6 #[true, true, true, true, false, true, true, false, false, false] rfl (by kernel_rfl) (fun _ _ _ h => h) rfl (fun w hF => e_load 29 (.tmp 8) ⟨B1, 2, none⟩ (.slice (some ⟨G, 0, none⟩) c.length cap) rfl (Tryz.isAgg29 _) hF.2.2) (hFF) ?_; simp only [Act.put, List.setIfInBounds_toArray, List.set_cons_succ, List.set_cons_zero]
  refine K_one 4 #[true, true, true, true, true, true, true, false, false, false] rfl (by kernel_rfl) ?_
  refine r_slice0 29 5 (Tryz.bs0 _) rfl ?_
  intro w5 B5 g5 hown5
  simp only [Act.put, List.setIfInBounds_toArray, List.set_cons_succ, List.set_cons_zero]
  refine ⟨fun _ => ⟨g5.cell b1_0, g5.cell b1_1, g5.cell b1_2⟩, ?_⟩
  have hown := g5.row hown
  have b2 := g5.blk b2
  have b1 := g5.blk b1
  have gg := gg.trans g5
  have z5 := g5.size
  refine K_one 7 #[true, true, true, true, true, true, true, true, false, false] rfl (by kernel_rfl) ?_
  refine r_append (.tmp 7) (.tmp 9) 29 5 _ 1 1 wd.heap.size Tryz.bytesI _ 0 [] rfl hown5 ⟨G, 0, none⟩ c.length cap (cellsV c) rfl (by simp [cellsV]) (fun j u hj => ?_) (cellsV_one c) (by omega) (by decide) (by omega) rfl ?_
  · have hjl : j < c.length := by
      rcases Nat.lt_or_ge j c.length with h | h
      · exact h
      · rw [List.getElem?_eq_none (by simpa [cellsV] using h)] at hj; cases hj
    have h1 := own_cell hown j hjl rfl
    unfold cellsV at hj
    rw [List.getElem?_map, List.getElem?_eq_getElem hjl] at hj
    have e : byteV c[j] = u := by simpa using hj
    have e2 : at0 c j = c[j] := by unfold at0; simp [List.getD, hjl]
    rw [e2] at h1
    subst e
    show w5.cell? ((⟨G, 0, none⟩ : Addr).add j) = _
    have e3 : (⟨G, 0, none⟩ : Addr).add j = ⟨G, j, none⟩ := by
      simp [Addr.add]
      exact fun h => h.symm
    rw [e3]
    exact h1
  intro sl' w6 hown6 g6
  simp only [Act.put, List.setIfInBounds_toArray, List.set_cons_succ, List.set_cons_zero]
  rw [Nat.zero_add, List.nil_append] at hown6
  have b1 := g6.blk b1 (own_below hown5 tB1)
  have b2 := g6.blk b2 (own_below hown5 tB2)
  have gg6 := g6.gr gg (own_gr hown5 (by omega))
  obtain ⟨b1_0, b1_1, b1_2⟩ := tcells b1
  refine ⟨fun _ => ⟨b1_0, b1_1, b1_2⟩, ?_⟩
  obtain ⟨p, n, k, rfl⟩ := own_slice hown6
  refine K_one 8 #[true, true, true, true, true, true, true, true, true, false] rfl (by kernel_rfl) ?_
  refine r_build 31 [(0, .tmp 4), (1, .tmp 6), (2, .tmp 10)] [(0, .int .i64 W), (1, .int .i64 H), (2, .slice p n k)] _ (Tryz.tbuild _ _ _ _ _ _) rfl rfl ?_
  simp only [Act.put, List.setIfInBounds_toArray, List.set_cons_succ, List.set_cons_zero]
  refine ⟨fun _ => ⟨b1_0, b1_1, b1_2⟩, ?_⟩
  refine K_one 9 #[true, true, true, true, true, true, true, true, true, true] rfl (by kernel_rfl) ?_
  refine r_store_row 31 31 _ _ B2 rfl (tg W H (.slice p n k)) _ rfl b2 Tryz.tsize rfl (tg_one rfl) rfl ?_
  intro w7 u7 b7
  simp only [Act.put]
  have lo2 : w.heap.size ≤ B2 := by omega
  have gg7 := u7.gr gg6 lo2
  have hown7 := u7.row hown6 (own_below hown6 tB2)
  refine ⟨fun h => absurd rfl h, ?_⟩
  refine K_done' (by kernel_rfl) ?_
  go_wp2
  refine bodyPost_ret (results_row rfl _ _ _ _ _ _ rfl b7 Tryz.underlying31 rfl Tryz.tinfo) rfl ?_
  exact ⟨gg7, _, rfl, own_up hown7 (by omega)⟩
set_option maxHeartbeats 2000000 in
set_option maxRecDepth 100000 in
theorem tyWalls_any (W H base : Nat) (c : List UInt8) (G cap : Nat) (w : World) (h36 : c.length ≤ 36) (hn : c.length = nn W H) (hl1 : 0 < c.length) (hown : w.ownsRow base 5 1 (.slice (some ⟨G, 0, none⟩) c.length cap) c.length (cellsV c)) :
    Calls Tryz.prog 23 #[.agg (tg W H (.slice (some ⟨G, 0, none⟩) c.length cap))] w (RetG 5 W H (wallTo isBallB c (nn W H)) w) := by
  have gg := Gr.refl w
  have HN := hidI hn
  clear hn
  go_enter Tryz.func23, Tryz.ntmps23
  go_wp2_with (first | (refine r_box 31 _ (tg (W) (H) (.slice (some ⟨G, 0, none⟩) c.length cap)) rfl rfl ?_; intro w1 B1 N1; have g1 := N1.gr; have b1 : Blk w1 B1 (tg (W) (H) (.slice (some ⟨G, 0, none⟩) c.length cap)) 31 := N1.blk; have l1 := N1.lo; have t1 := N1.hi; have z1 := g1.size; have gg := gg.trans g1; clear N1; obtain ⟨b1_0, b1_1, b1_2⟩ := tcells b1) | (refine r_alloc 31 _ Tryz.tzero rfl ?_; intro w2 B2 N2; have g2 := N2.gr; have b2 : Blk w2 B2 (tg 0 0 (.slice none 0 0)) 31 := N2.blk; have l2 := N2.lo; have t2 := N2.hi; have z2 := g2.size; have b1 := g2.blk b1; obtain ⟨b1_0, b1_1, b1_2⟩ := tcells b1; have gg := gg.trans g2; clear N2; obtain ⟨b2_0, b2_1, b2_2⟩ := tcells b2) | (refine r_load_row 31 _ _ rfl _ _ _ b1 Tryz.underlying31 rfl Tryz.tinfo rfl ?_))
  refine (tyCopy_any W H base c G cap _ h36 (g2.row (g1.row hown))).mono ?_
  rintro e w3 ⟨g3, sl, rfl, hown3⟩
  have b2 := g3.blk b2
  have z3 := g3.size
  have gg := gg.trans g3
  obtain ⟨G3, cap3, rfl, hG3, hcap3⟩ := own_shape hown3 hl1
  have hG3lt := (hown3.lt G3 rfl).2
  go_wp2_with (first | (refine r_alloc (dst := some 3) 31 _ Tryz.tzero rfl ?_; intro w4 B4 N4; have g4 := N4.gr; have b4 : Blk w4 B4 (tg 0 0 (.slice none 0 0)) 31 := N4.blk; have l4 := N4.lo; have t4 := N4.hi; have z4 := g4.size; have b2 := g4.blk b2; obtain ⟨b2_0, b2_1, b2_2⟩ := tcells b2; have gg := gg.trans g4; clear N4; obtain ⟨b4_0, b4_1, b4_2⟩ := tcells b4) | (refine r_store_row 31 31 _ _ _ rfl (tg _ _ _) _ rfl b4 Tryz.tsize rfl (tg_one rfl) rfl ?_; intro w5 u5 b4'; have z5 := u5.size; have gg := u5.gr gg (by omega); have b2 := u5.blk b2 (by omega); obtain ⟨b2_0, b2_1, b2_2⟩ := tcells b2; clear b4; have b4 := b4'; clear b4'; obtain ⟨b4_0, b4_1, b4_2⟩ := tcells b4))
  have hown := u5.row (g4.row hown3) (own_new hown3 l4)
  have hown := own_up hown (show w.heap.size ≤ w2.heap.size by omega)
  go_loopw [4, 5, 11] (fun _ _ i wr => ∃ k : Nat, k ≤ c.length ∧ i = .int .i64 k ∧ Blk wr B2 (tg 0 0 (.slice none 0 0)) 31 ∧ Blk wr B4 (tg W H (.slice (some ⟨G3, 0, none⟩) c.length cap3)) 31 ∧
      wr.ownsRow w.heap.size 5 1 (.slice (some ⟨G3, 0, none⟩) c.length cap3) c.length (cellsV (wallTo isBallB c k)) ∧ Gr w wr) (fun _ _ i _ => c.length - (intOf i).toNat)
  case atStart => exact ⟨0, Nat.zero_le _, rfl, b2, b4, hown, gg⟩
  case round =>
    obtain ⟨k, hk, rfl, b2, b4, hown, gg⟩ := hrel
    obtain ⟨b4_0, b4_1, b4_2⟩ := tcells b4
    have hwl := wallTo_len isBallB c k
    have lo3 : w.heap.size ≤ G3 := by omega
    by_cases hlt : k < c.length
    · have hat := wallTo_at isBallB c k k (Nat.le_refl _) hk
      have hc := own_cell hown k (by omega) hwl.symm
      rw [hat] at hc
      by_cases hb : isBallB (at0 c k) = true
      · have HS := hidI (show (wallTo isBallB c k).set k 46 = wallTo isBallB c (k + 1) from by rw [wallTo, if_pos hb])
        have HB := hidI hb
        clear hb
        go_wp2_with (first | (go_at_call 25; refine (tyBall_any _ _).mono ?_; rintro e wSame ⟨rfl, rfl⟩; rw [HB.out]) | (refine r_store_own 5 5 _ _ G3 k c.length cap3 w.heap.size (cellsV (wallTo isBallB c k)) rfl (byteV 46) rfl hown hlt Tryz.sizeOf5 rfl rfl ?_; intro w10 u10 hown10; rw [cellsV_set, HS.out] at hown10; have gg := u10.gr gg lo3))
        go_roundw
        case rel => exact ⟨k + 1, by omega, by go_num, u10.blk b2 (by omega), u10.blk b4 (by omega), hown10, gg⟩
        case measure => simp [intOf]; omega
      · have HS := hidI (show wallTo isBallB c k = wallTo isBallB c (k + 1) from by rw [wallTo, if_neg hb])
        have HB := hidI (show isBallB (at0 c k) = false from by simpa using hb)
        clear hb
        go_wp2_with (go_at_call 25; refine (tyBall_any _ _).mono ?_; rintro e wSame ⟨rfl, rfl⟩; rw [HB.out])
        go_roundw
        case rel => exact ⟨k + 1, by omega, by go_num, b2, b4, by rw [← HS.out]; exact hown, gg⟩
        case measure => simp [intOf]; omega
    · obtain rfl : k = c.length := by omega
      clear hlt
      have lo2 : w.heap.size ≤ B2 := by omega
      go_wp2_with (first | (refine r_load_row 31 _ _ rfl _ _ _ b4 Tryz.underlying31 rfl Tryz.tinfo rfl ?_) | (refine r_store_row 31 31 _ _ B2 rfl (tg W H (.slice (some ⟨G3, 0, none⟩) c.length cap3)) _ rfl b2 Tryz.tsize rfl (tg_one rfl) rfl ?_; intro w7 u7 b7))
      refine bodyPost_ret (results_row rfl _ _ _ _ _ _ rfl b7 Tryz.underlying31 rfl Tryz.tinfo) rfl ?_
      have e := wallTo_len isBallB c (nn W H)
      refine ⟨u7.gr gg lo2, .slice (some ⟨G3, 0, none⟩) c.length cap3, rfl, ?_⟩
      rw [e, ← HN.out]
      exact u7.row hown (fun h => by
        have : G3 = B2 := by simpa [Value.ownBlock] using h
        omega)
end Go.Proofs.YtpdmfbhjneodeaaGreatDoor
