/-
  What the model's text of a grid is, and the text of a grid that is a tray.
-/
import Derived.Test.YthjkeohnjggmiaaDoorSpec1d
namespace Go.Proofs.YthjkeohnjggmiaaDoor
open Go.RowKit
theorem cat_first (W : Nat) (c : List UInt8) : txtB W 0 c ++ rowB W c 0 = txtB W 1 c := by
  unfold txtB rowB
  rw [mkB_append, txtL_zero, txtL_one]
  rfl
theorem cat_next (W : Nat) (c : List UInt8) (k : Nat) (h : 0 < k) : (txtB W k c ++ ⟨#[47]⟩) ++ rowB W c k = txtB W (k + 1) c := by
  unfold txtB rowB
  rw [show (⟨#[47]⟩ : ByteArray) = ⟨[(47 : UInt8)].toArray⟩ from rfl, mkB_append, mkB_append, txtL_succ W c k h]
theorem own_row {w : World} {base : Nat} {e : TypeId} {g n cap W y : Nat} {c : List UInt8} (hr : w.ownsRow base e 1 (.slice (some ⟨g, 0, none⟩) n cap) n (c.map byteV)) (hn : n = c.length) (hle : nn W y + W ≤ c.length) :
    Lib.Bytes w g (nn W y) (rowB W c y) := bytes_row fun i hi => own_cell hr (nn W y + i) (by omega) hn
theorem Tryd.slw (B n cap l h m : Nat) (hl : l < h) (hh : h ≤ cap) (hm : h - l = m) (w : World) : (Instr.sliceAt 38 (.slice (some ⟨B, 0, none⟩) n cap) (some (.int .i64 l)) (some (.int .i64 h)) none).run Tryd.prog w = .ok (.slice (some ⟨B, l, none⟩) m (cap - l)) w := by
  have hu : Tryd.prog.underlying 38 = some (.slice (Tryd.prog.elem 38)) := by kernel_rfl
  rw [run_sliceAt_slice w 38 _ _ _ _ hu]
  have h := Lib.run_slice_window (P := Tryd.prog) w 38 5 Tryd.underlying38 Tryd.sizeOf5 B 0 n cap l h hl hh
  rw [hm, Nat.zero_add] at h
  exact h
set_option maxHeartbeats 2000000 in
set_option maxRecDepth 100000 in
theorem tyText_any (W H base : Nat) (c : List UInt8) (sl : Value) (w : World) (hW1 : 1 ≤ W) (hH1 : 1 ≤ H) (hW : W ≤ 14) (hH : H ≤ 14) (h36 : nn W H ≤ 196) (hlen : c.length = nn W H) (hown : w.ownsRow base 5 1 sl c.length (cellsV c)) :
    Calls Tryd.prog 48 #[.agg (tg W H sl)] w (Ret (.string (txtB W H c)) w) := by
  have gg := Gr.refl w
  have hl1 : 0 < c.length := by rw [hlen]; exact Nat.mul_pos hW1 hH1
  obtain ⟨G, cap, rfl, hG, hcap⟩ := own_shape hown hl1
  have HLEN := hidI hlen
  clear hlen hl1
  go_enter Tryd.func48, Tryd.ntmps48
  go_wp2_with (refine r_box 40 _ (tg (W) (H) (.slice (some ⟨G, 0, none⟩) c.length cap)) rfl rfl ?_; intro w1 B1 N1; have g1 := N1.gr; have b1 : Blk w1 B1 (tg (W) (H) (.slice (some ⟨G, 0, none⟩) c.length cap)) 40 := N1.blk; have l1 := N1.lo; have t1 := N1.hi; have z1 := g1.size; have gg := gg.trans g1; clear N1; obtain ⟨b1_0, b1_1, b1_2⟩ := tcells b1)
  have hown := g1.row hown
  go_loop [3, 4] (fun o i => ∃ k : Nat, k ≤ H ∧ i = .int .i64 k ∧ o = .string (txtB W k c)) (fun _ i => H - (intOf i).toNat)
  case atStart => exact ⟨0, Nat.zero_le _, rfl, rfl⟩
  case round =>
    obtain ⟨k, hk, rfl, rfl⟩ := hrel
    by_cases hlt : k < H
    · have hle := nn_row (W := W) hlt
      have hle' : nn W k + W ≤ c.length := by rw [HLEN.out]; exact hle
      have hby := own_row hown rfl hle'
      obtain ⟨f, hf⟩ : ∃ f, f = nn W k := ⟨_, rfl⟩
      obtain ⟨t, ht⟩ : ∃ t, t = f + W := ⟨_, rfl⟩
      rw [← hf] at hle hle' hby
      have e1 : (k : Int) * (W : Int) = f := by rw [hf, nn_int, Int.mul_comm]
      have e2 : ((k : Int) + 1) * (W : Int) = t := by rw [ht, Int.add_mul, e1]; omega
      have hf36 : f ≤ 196 := by omega
      have ht36 : t ≤ 196 := by omega
      have hsl := Tryd.slw G c.length cap f t W (by omega) (by omega) (by omega)
      have hs1 := txtB_size W k c
      have hs3 := rowB_size W c k
      have hnn := nn_le (x := W + 1) (y := k) (a := 15) (b := 14) (by omega) (by omega)
      have hsz : (txtB W k c).size ≤ 210 := by omega
      have hf0 : k = 0 → f = 0 := fun e => by rw [hf, e]; rfl
      have HBY := hidI hby
      clear hby hf hs1 hnn
      by_cases hk0 : k = 0
      · obtain rfl : f = 0 := hf0 hk0
        subst hk0
        obtain rfl : t = W := by omega
        clear hf0 ht
        have hadd := fun w => run_string_add_sum (P := Tryd.prog) w (txtB t 0 c) (rowB t c 0) (by omega)
        have HCAT := hidI (cat_first t c)
        go_wp2_with (refine r_conv 38 9 _ _ (.string (rowB t c 0)) rfl (Tryd.conv G 0 _ _ _ HBY.out t (rowB_size t c 0)) rfl ?_)
        go_round
        case rel => exact ⟨1, by omega, by go_num, by rw [HCAT.out]⟩
        case measure => simp [intOf]; omega
      · have hk1 : 0 < k := by omega
        clear hf0 ht
        have hs2 : (txtB W k c ++ ⟨#[47]⟩ : ByteArray).size ≤ 211 := by rw [ByteArray.size_append]; show _ + 1 ≤ 211; omega
        have hadd1 := fun w => run_string_add_sum (P := Tryd.prog) w (txtB W k c) ⟨#[47]⟩ (by show (txtB W k c).size + 1 ≤ _; omega)
        have hadd2 := fun w => run_string_add_sum (P := Tryd.prog) w (txtB W k c ++ ⟨#[47]⟩) (rowB W c k) (by omega)
        have HCAT := hidI (cat_next W c k hk1)
        go_wp2_with (refine r_conv 38 9 _ _ (.string (rowB W c k)) rfl (Tryd.conv G f _ _ _ HBY.out W (rowB_size W c k)) rfl ?_)
        go_round
        case rel => exact ⟨k + 1, by omega, by go_num, by rw [HCAT.out]⟩
        case measure => simp [intOf]; omega
    · obtain rfl : k = H := by omega
      go_wp2
      go_ret
      exact ⟨rfl, gg⟩
end Go.Proofs.YthjkeohnjggmiaaDoor
