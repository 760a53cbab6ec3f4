/-
  What the model's functions on single cells return: whether a text is one cell, how many cells have a text.
  What the model's functions that return texts of cells return: one cell, and the text of a whole grid.
  What the model's text of a grid is, and the text of a grid that is a tray.
  What the model's functions that change a tray's cells return: one cell put, and all balls taken out.
  What the model's copy of a grid is, and its grid with all balls taken out.
-/
import Derived.Test.YtagoipongdnegaaBTy
import Derived.Test.YtagoipongdnegaaBIm
namespace Go.Proofs.Ytagoipongdnegaa
open Go.RowKit
theorem beq_byte {b c : UInt8} (h : b = c) : ((b.toNat : Int) == (c.toNat : Int)) = true := by rw [h]; simp
theorem bne_byte {b c : UInt8} (h : ¬ b = c) : ((b.toNat : Int) == (c.toNat : Int)) = false := by
  rw [beq_eq_false_iff_ne]; intro e; exact h (UInt8.toNat_inj.1 (by omega))
theorem own_new {w : World} {base : Nat} {e : TypeId} {size : Nat} {v : Value} {n : Nat} {xs : List Value} (hr : w.ownsRow base e size v n xs) {B : Nat} (hB : w.heap.size ≤ B) : v.ownBlock ≠ some B := fun h => by
  have := (hr.lt B h).2
  omega
end Go.Proofs.Ytagoipongdnegaa
namespace Go.Proofs.Ytagoipongdnegaa
open Go.RowKit
def btw (x lo h : Int) : Bool := decide (lo ≤ x) && decide (x ≤ h)
theorem btw_inB (x : Int) (n : Nat) : btw x 0 ((n : Int) - 1) = inB x n := by
  unfold btw inB
  congr 1
  apply decide_eq_decide.2
  omega
set_option maxHeartbeats 400000 in
theorem l1In_any (x lo h : Int) (w : World) : Calls Try.prog 6 #[.int .i64 x, .int .i64 lo, .int .i64 h] w fun e w' => e = .returned (.bool (btw x lo h)) ∧ w = w' := by
  by_cases h1 : lo ≤ x
  · have HV := hidI (show btw x lo h = decide (x ≤ h) from by unfold btw; rw [decide_eq_true h1]; rfl)
    go_enter Try.func6, Try.ntmps6
    go_wp2
    go_ret
    exact ⟨ret_bool HV.out.symm, rfl⟩
  · have HV := hidI (show btw x lo h = false from by unfold btw; rw [decide_eq_false h1]; rfl)
    have h1' : x < lo := by omega
    clear h1
    go_enter Try.func6, Try.ntmps6
    go_wp2
    go_ret
    exact ⟨ret_bool HV.out.symm, rfl⟩
end Go.Proofs.Ytagoipongdnegaa
namespace Go.Proofs.Ytagoipongdnegaa
open Go.RowKit
theorem cat_first (W : Nat) (c : List UInt8) : txtB W 0 c ++ rowB W c 0 = txtB W 1 c := by
  unfold txtB rowB
  rw [mkB_append, txtL_zero, txtL_one]
  rfl
theorem cat_next (W : Nat) (c : List UInt8) (k : Nat) (h : 0 < k) : (txtB W k c ++ ⟨#[47]⟩) ++ rowB W c k = txtB W (k + 1) c := by
  unfold txtB rowB
  rw [show (⟨#[47]⟩ : ByteArray) = ⟨[(47 : UInt8)].toArray⟩ from rfl, mkB_append, mkB_append, txtL_succ W c k h]
theorem own_row {w : World} {base : Nat} {e : TypeId} {g n cap W y : Nat} {c : List UInt8} (hr : w.ownsRow base e 1 (.slice (some ⟨g, 0, none⟩) n cap) n (c.map byteV)) (hn : n = c.length) (hle : nn W y + W ≤ c.length) :
    Lib.Bytes w g (nn W y) (rowB W c y) := bytes_row fun i hi => own_cell hr (nn W y + i) (by omega) hn
theorem Try.slw (B n cap l h m : Nat) (hl : l < h) (hh : h ≤ cap) (hm : h - l = m) (w : World) : (Instr.sliceAt 27 (.slice (some ⟨B, 0, none⟩) n cap) (some (.int .i64 l)) (some (.int .i64 h)) none).run Try.prog w = .ok (.slice (some ⟨B, l, none⟩) m (cap - l)) w := by
  have hu : Try.prog.underlying 27 = some (.slice (Try.prog.elem 27)) := by kernel_rfl
  rw [run_sliceAt_slice w 27 _ _ _ _ hu]
  have h := Lib.run_slice_window (P := Try.prog) w 27 5 Try.underlying27 Try.sizeOf5 B 0 n cap l h hl hh
  rw [hm, Nat.zero_add] at h
  exact h
set_option maxHeartbeats 2000000 in
set_option maxRecDepth 100000 in
theorem tyText_any (W H base : Nat) (c : List UInt8) (sl : Value) (w : World) (hW1 : 1 ≤ W) (hH1 : 1 ≤ H) (hW : W ≤ 14) (hH : H ≤ 14) (h36 : nn W H ≤ 196) (hlen : c.length = nn W H) (hown : w.ownsRow base 5 1 sl c.length (cellsV c)) :
    Calls Try.prog 7 #[.agg (tg W H sl)] w (Ret (.string (txtB W H c)) w) := by
  have gg := Gr.refl w
  have hl1 : 0 < c.length := by rw [hlen]; exact Nat.mul_pos hW1 hH1
  obtain ⟨G, cap, rfl, hG, hcap⟩ := own_shape hown hl1
  have HLEN := hidI hlen
  clear hlen hl1
  go_enter Try.func7, Try.ntmps7
  go_wp2_with (refine r_box 29 _ (tg (W) (H) (.slice (some ⟨G, 0, none⟩) c.length cap)) rfl rfl ?_; intro w1 B1 N1; have g1 := N1.gr; have b1 : Blk w1 B1 (tg (W) (H) (.slice (some ⟨G, 0, none⟩) c.length cap)) 29 := N1.blk; have l1 := N1.lo; have t1 := N1.hi; have z1 := g1.size; have gg := gg.trans g1; clear N1; obtain ⟨b1_0, b1_1, b1_2⟩ := tcells b1)
  have hown := g1.row hown
  go_loop [3, 4] (fun o i => ∃ k : Nat, k ≤ H ∧ i = .int .i64 k ∧ o = .string (txtB W k c)) (fun _ i => H - (intOf i).toNat)
  case atStart => exact ⟨0, Nat.zero_le _, rfl, rfl⟩
  case round =>
    obtain ⟨k, hk, rfl, rfl⟩ := hrel
    by_cases hlt : k < H
    · have hle := nn_row (W := W) hlt
      have hle' : nn W k + W ≤ c.length := by rw [HLEN.out]; exact hle
      have hby := own_row hown rfl hle'
      obtain ⟨f, hf⟩ : ∃ f, f = nn W k := ⟨_, rfl⟩
      obtain ⟨t, ht⟩ : ∃ t, t = f + W := ⟨_, rfl⟩
      rw [← hf] at hle hle' hby
      have e1 : (k : Int) * (W : Int) = f := by rw [hf, nn_int, Int.mul_comm]
      have e2 : ((k : Int) + 1) * (W : Int) = t := by rw [ht, Int.add_mul, e1]; omega
      have hf36 : f ≤ 196 := by omega
      have ht36 : t ≤ 196 := by omega
      have hsl := Try.slw G c.length cap f t W (by omega) (by omega) (by omega)
      have hs1 := txtB_size W k c
      have hs3 := rowB_size W c k
      have hnn := nn_le (x := W + 1) (y := k) (a := 15) (b := 14) (by omega) (by omega)
      have hsz : (txtB W k c).size ≤ 210 := by omega
      have hf0 : k = 0 → f = 0 := fun e => by rw [hf, e]; rfl
      have HBY := hidI hby
      clear hby hf hs1 hnn
      by_cases hk0 : k = 0
      · obtain rfl : f = 0 := hf0 hk0
        subst hk0
        obtain rfl : t = W := by omega
        clear hf0 ht
        have hadd := fun w => run_string_add_sum (P := Try.prog) w (txtB t 0 c) (rowB t c 0) (by omega)
        have HCAT := hidI (cat_first t c)
        go_wp2_with (refine r_conv 27 9 _ _ (.string (rowB t c 0)) rfl (Try.conv G 0 _ _ _ HBY.out t (rowB_size t c 0)) rfl ?_)
        go_round
        case rel => exact ⟨1, by omega, by go_num, by rw [HCAT.out]⟩
        case measure => simp [intOf]; omega
      · have hk1 : 0 < k := by omega
        clear hf0 ht
        have hs2 : (txtB W k c ++ ⟨#[47]⟩ : ByteArray).size ≤ 211 := by rw [ByteArray.size_append]; show _ + 1 ≤ 211; omega
        have hadd1 := fun w => run_string_add_sum (P := Try.prog) w (txtB W k c) ⟨#[47]⟩ (by show (txtB W k c).size + 1 ≤ _; omega)
        have hadd2 := fun w => run_string_add_sum (P := Try.prog) w (txtB W k c ++ ⟨#[47]⟩) (rowB W c k) (by omega)
        have HCAT := hidI (cat_next W c k hk1)
        go_wp2_with (refine r_conv 27 9 _ _ (.string (rowB W c k)) rfl (Try.conv G f _ _ _ HBY.out W (rowB_size W c k)) rfl ?_)
        go_round
        case rel => exact ⟨k + 1, by omega, by go_num, by rw [HCAT.out]⟩
        case measure => simp [intOf]; omega
    · obtain rfl : k = H := by omega
      go_wp2
      go_ret
      exact ⟨rfl, gg⟩
end Go.Proofs.Ytagoipongdnegaa
namespace Go.Proofs.Ytagoipongdnegaa
open Go.RowKit
theorem cellsV_set (c : List UInt8) (j : Nat) (b : UInt8) : (cellsV c).set j (byteV b) = cellsV (c.set j b) := by
  unfold cellsV
  rw [List.map_set]
/-- It returns a grid of the model, its cells in new memory. -/
def RetG (T : TypeId) (W H : Int) (c : List UInt8) (w : World) (e : Ending) (w' : World) : Prop :=
  Gr w w' ∧ ∃ sl, e = .returned (.agg (tg W H sl)) ∧ w'.ownsRow w.heap.size T 1 sl c.length (cellsV c)
theorem own_up {w : World} {b0 base : Nat} {e : TypeId} {size : Nat} {v : Value} {n : Nat} {xs : List Value} (hr : w.ownsRow base e size v n xs) (hb : b0 ≤ base) : w.ownsRow b0 e size v n xs := by
  obtain ⟨h1, h2 | ⟨g, cap, cur, rfl, b, c, d⟩⟩ := hr
  · exact ⟨h1, .inl h2⟩
  · exact ⟨h1, .inr ⟨g, cap, cur, rfl, by omega, c, d⟩⟩
theorem tyText_n (W H base n : Nat) (c : List UInt8) (sl : Value) (w : World) (hW1 : 1 ≤ W) (hH1 : 1 ≤ H) (hW : W ≤ 7) (hH : H ≤ 7) (h36 : nn W H ≤ 36) (hlen : c.length = nn W H) (hn : c.length = n) (hown : w.ownsRow base 5 1 sl n (cellsV c)) :
    Calls Try.prog 7 #[.agg (tg W H sl)] w (Ret (.string (txtB W H c)) w) := by
  subst hn
  exact tyText_any W H base c sl w hW1 hH1 (by omega) (by omega) (by omega) hlen hown
theorem Try.six0 (B n cap x : Nat) (hx : x < n) (w : World) : (Instr.indexAt 27 (.slice (some ⟨B, 0, none⟩) n cap) (.int .i64 x)).run Try.prog w = .ok (.pointer (some ⟨B, x, none⟩)) w := by
  have h := Try.six B 0 n cap x hx w
  rw [Nat.zero_add] at h
  exact h
end Go.Proofs.Ytagoipongdnegaa
namespace Go.Proofs.Ytagoipongdnegaa
open Go.RowKit
section
variable {P : Program} {w : World} {ops : Array Oper} {rest : List Oper} {a : Act} {Q : Exit → Act → World → Prop} {dst : Option Tmp} {ty : TypeId} {pos : String} {aft : Array Edge} {gd : Option (Nat × Bool)}
/-- An empty slice, written out. -/
theorem r_slice0 (t e : TypeId) (hr : (Instr.buildSlice t 0 #[]).run P w = .ok (.slice (some ⟨w.heap.size, 0, none⟩) 0 0) (w.alloc (.cells #[] e)))
    (hgd : Region.wanted ⟨dst, .buildSlice t 0 #[], ty, pos, aft, gd⟩ (yielded ops a.tmps) = true)
    (h : ∀ w1 B, Gr w w1 → w1.ownsRow w.heap.size e 1 (.slice (some ⟨B, 0, none⟩) 0 0) 0 [] → wpList P ops Q rest (a.put dst (.slice (some ⟨B, 0, none⟩) 0 0)) w1) :
    wpList P ops Q (⟨dst, .buildSlice t 0 #[], ty, pos, aft, gd⟩ :: rest) a w :=
  wpList_want hgd fun _ hK => by
    unfold Oper.wp execOp
    simp only [List.map_toArray, List.map_nil, Sem.run_bind, hr, Result.andThen_ok, Sem.run_pure, Oper.upon]
    exact hK _ _ (h _ _ ((Gr.refl w).alloc _) ⟨rfl, .inr ⟨w.heap.size, 0, #[], rfl, Nat.le_refl _, heap_alloc_new w _, Nat.le_refl _, Nat.zero_le _, rfl, rfl⟩⟩)
end
theorem own_slice {w : World} {base : Nat} {e : TypeId} {size : Nat} {v : Value} {n : Nat} {xs : List Value} (hr : w.ownsRow base e size v n xs) : ∃ p m k, v = .slice p m k := by
  obtain ⟨_, ⟨rfl, _⟩ | ⟨g, cap, cur, rfl, _⟩⟩ := hr
  · exact ⟨_, _, _, rfl⟩
  · exact ⟨_, _, _, rfl⟩
end Go.Proofs.Ytagoipongdnegaa
