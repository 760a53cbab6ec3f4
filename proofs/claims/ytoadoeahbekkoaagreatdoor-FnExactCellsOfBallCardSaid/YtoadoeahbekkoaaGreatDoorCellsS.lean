/-
  The cells that a ball comes to: the model's list.
-/
import Derived.Test.YtoadoeahbekkoaaGreatDoorCellsM
namespace Go.Proofs.YtoadoeahbekkoaaGreatDoor
open Go.RowKit
theorem Inc.zero (S : List (Sta Grid)) (b : UInt8) : Inc S b 0 [] := ⟨List.Pairwise.nil, fun x => ⟨fun h => (by cases h), fun ⟨j, hj, _⟩ => absurd hj (Nat.not_lt_zero _)⟩, Nat.le_refl _⟩
theorem rec_range {w : World} {B : Nat} {s : Sta Grid} {sl nv : Value} {T : TypeId} (h : Blk w B (recS s sl nv) T) : w.rangeAt B 0 (tg s.t.w s.t.h sl).toList := by
  intro j u hj
  have h3 : j < 3 := by
    rcases Nat.lt_or_ge j 3 with h | h
    · exact h
    · rw [List.getElem?_eq_none (by show 3 ≤ j; exact h)] at hj; cases hj
  rw [Nat.zero_add, h.cell j]
  have hj' : j = 0 ∨ j = 1 ∨ j = 2 := by omega
  rcases hj' with rfl | rfl | rfl <;> exact hj
theorem SSt.keepI {base b n : Nat} {w w' : World} {v o : Value} {S : List (Sta Grid)} {bk : Nat → Nat} {sl nx : Nat → Value} {xs : List Value} (h : SSt base w v S bk sl nx) (ho : w.ownsRow b 3 1 o n xs) (g : Grb o.ownBlock w w') : SSt base w' v S bk sl nx :=
  ⟨g.row h.row (own_ne2 h.row ho (by decide)), fun j hj => g.blk (h.blk j hj) (own_ne ho (h.blk j hj) (by decide)), h.lo, h.inj, fun j hj => g.row (h.grd j hj) (own_ne2 (h.grd j hj) ho (by decide))⟩
set_option maxHeartbeats 2000000 in
set_option maxRecDepth 100000 in
theorem sCellsOfBall (s n : ByteArray) (w : World) (hs : s.size ≤ 1048576) : Calls Tryz.prog 6 #[.string s, .string n] w (RetP2 3 (cbL s.data.toList n) (cbOk s.data.toList n) w) := by
  have gg := Gr.refl w
  have HA := reBall_any s n w hs
  unfold RetM at HA
  cases hR : rbS s.data.toList n with
  | none =>
    rw [hR] at HA
    have HN := hidI (show cbL s.data.toList n = [] from by unfold cbL; rw [hR])
    have HO := hidI (show cbOk s.data.toList n = false from by unfold cbOk; rw [hR]; rfl)
    clear hR
    go_enter Tryz.func6, Tryz.ntmps6
    go_wp2_with (go_at_call 18; refine HA.mono ?_; rintro e w1 ⟨g1, rfl⟩)
    have gg := gg.trans g1
    go_loopw [8, 20] (fun ov iv wr => ov = .slice none 0 0 ∧ iv = .int .i64 0 ∧ wr = w1) (fun _ _ _ => 0)
    case atStart => exact ⟨rfl, rfl, rfl⟩
    case round =>
      obtain ⟨rfl, rfl, rfl⟩ := hrel
      go_wp2
      go_ret2
      exact ⟨gg, _, fin_vb HO.out.symm, by rw [HN.out]; exact World.ownsRow_nil _ _ _ _⟩
  | some S =>
    rw [hR] at HA
    obtain ⟨hrc, hnm⟩ := rbS_some hR
    obtain ⟨h0, h300, hS⟩ := rcS_knownC hrc
    unfold nameS at hnm
    rw [Bool.and_eq_true, decide_eq_true_eq] at hnm
    have hn1 := one_of n hnm.1
    obtain ⟨b, hb⟩ : ∃ b, hd n = b := ⟨_, rfl⟩
    have hb0 : b ≠ 0 := by rw [← hb]; exact name_ne hnm.2
    have HN := hidI (show cbL s.data.toList n = cbS S b from by unfold cbL; rw [hR, ← hb])
    have HO := hidI (show cbOk s.data.toList n = true from by unfold cbOk; rw [hR]; rfl)
    rw [hb] at hn1
    have HN1 := hidI hn1
    have HST := hidI (fun j (hj : j < S.length) => show 0 < (sta S j).t.c.length ∧ (sta S j).t.c.length ≤ 36 ∧ ixC (sta S j).t.c b (sta S j).t.c.length = cbX S b j from by
      obtain ⟨a1, a2, a3⟩ := hS j hj
      have h36 : (sta S j).t.c.length ≤ 36 := by have := a1.len; have := a1.n36; omega
      exact ⟨by rw [a1.len]; exact Nat.mul_pos a2 a3, h36, (ixC_more hb0 rfl h36).symm⟩)
    clear hR hrc hnm hS hb hb0 hn1
    go_enter Tryz.func6, Tryz.ntmps6
    go_wp2_with (first | (go_at_call 18; refine HA.mono ?_; rintro e w1 ⟨g1, v, bk, sl, nx, rfl, M, -⟩; obtain ⟨gB, cap, rfl, hlo, hcap⟩ := own_shape M.row h0; have gg := gg.trans g1; have z1 := g1.size))
    have own0 : w1.ownsRow w.heap.size 3 1 (.slice none 0 0) ([] : List Int).length (intsV []) := World.ownsRow_nil _ _ _ _
    go_loopw [8, 20] (fun ov iv wr => ∃ (k : Nat) (O : List Int), k ≤ S.length ∧ iv = .int .i64 k ∧ wr.ownsRow w.heap.size 3 1 ov O.length (intsV O) ∧ Hid (Inc S b k O) ∧ SSt w.heap.size wr (.slice (some ⟨gB, 0, none⟩) S.length cap) S bk sl nx ∧ Gr w wr) (fun _ iv _ => S.length - (intOf iv).toNat)
    case atStart => exact ⟨0, [], Nat.zero_le _, rfl, own0, hidI (Inc.zero S b), M, gg⟩
    case round =>
      clear own0 M gg
      obtain ⟨k, O, hk, rfl, own, HIN, M, gg⟩ := hrel
      have zr := gg.size
      have hOl := HIN.out.le
      by_cases hlt : k < S.length
      · obtain ⟨b0, hb0⟩ : ∃ b0, b0 = bk k := ⟨_, rfl⟩
        have cp := M.ptr hlt
        have hblk := M.blk k hlt
        have hgrd := M.grd k hlt
        obtain ⟨hl0, hl36, hxc⟩ := HST.out k hlt
        obtain ⟨X, hX⟩ : ∃ X, X = cbX S b k := ⟨_, rfl⟩
        obtain ⟨c, hc⟩ : ∃ c, c = (sta S k).t.c := ⟨_, rfl⟩
        have hrg := rec_range hblk
        obtain ⟨W, hW⟩ : ∃ W : Nat, W = (sta S k).t.w := ⟨_, rfl⟩
        obtain ⟨H, hH⟩ : ∃ H : Nat, H = (sta S k).t.h := ⟨_, rfl⟩
        rw [← hc] at hgrd hl0 hl36 hxc
        rw [← hX] at hxc
        rw [← hb0, ← hW, ← hH] at hrg
        rw [← hb0] at cp
        obtain ⟨sk, hsk⟩ : ∃ sk, sk = sl k := ⟨_, rfl⟩
        rw [← hsk] at hgrd hrg
        obtain ⟨G, capg, rfl, -, -⟩ := own_shape hgrd hl0
        have HXC := hidI hxc
        have HX := hidI hX
        clear hc hW hH hblk hX hxc hb0 hsk
        go_wp2_with (first | (refine r_idx 36 _ _ (.slice (some ⟨gB, 0, none⟩) S.length cap) (.int .i64 k) _ rfl rfl (Tryz.psix gB S.length cap k hlt _) rfl ?_) | (refine r_ldc 39 _ ⟨gB, k, none⟩ (ptrV b0) rfl (Tryz.isAgg39 _) cp rfl ?_))
        refine q_whole (by kernel_rfl) (by kernel_rfl) ?_
        refine q_move _ (.pointer (some ⟨b0, 0, none⟩)) rfl rfl ?_; simp only [Act.put, List.setIfInBounds_toArray, List.set_cons_succ, List.set_cons_zero]
        refine q_take (.pointer (some ⟨b0, 0, Option.none⟩)) rfl (fun w' hw' => rfl) ?_; simp only [Act.put, List.setIfInBounds_toArray, List.set_cons_succ, List.set_cons_zero]
        refine q_take (.pointer (some ⟨b0, 0, none⟩)) rfl (fun w' hw' => e_val _ _ (Tryz.rf0 _ _)) ?_; simp only [Act.put, List.setIfInBounds_toArray, List.set_cons_succ, List.set_cons_zero]
        refine q_take (.agg (tg W H (.slice (some ⟨G, 0, Option.none⟩) c.length capg))) rfl (fun w' hw' => e_load_mid 43 (.tmp 26) b0 0 (tg W H (.slice (some ⟨G, 0, Option.none⟩) c.length capg)).toList _ rfl (fun j u hj => hw'.cell (hrg j u hj)) Tryz.underlying43 rfl Tryz.tinfo) ?_; simp only [Act.put, List.setIfInBounds_toArray, List.set_cons_succ, List.set_cons_zero]
        refine q_move _ (.string n) rfl rfl ?_; simp only [Act.put, List.setIfInBounds_toArray, List.set_cons_succ, List.set_cons_zero]
        refine q_take (.int .u8 b.toNat) rfl (fun w' hw' => e_val _ _ (by rw [show (Act.eval _ (.tmp 28)) = Value.string n from rfl, HN1.out]; exact s_idx0 Tryz.underlying9 b _)) ?_; simp only [Act.put, List.setIfInBounds_toArray, List.set_cons_succ, List.set_cons_zero]
        refine q_call 19 [.tmp 27, .tmp 29] _ [.agg (tg W H (.slice (some ⟨G, 0, Option.none⟩) c.length capg)), .int .u8 b.toNat] (.int .i64 X) Tryz.call19 rfl rfl (fun w' hw' => (tiPlace_any W H w.heap.size c b G capg w' hl36 (hw'.row hgrd)).mono fun e w'' h => ⟨by rw [← HXC.out]; exact h.1, hw'.trans h.2⟩) ?_; simp only [Act.put, List.setIfInBounds_toArray, List.set_cons_succ, List.set_cons_zero]
        refine q_assign _ (.int .i64 X) rfl rfl ?_; simp only [Act.put, List.setIfInBounds_toArray, List.set_cons_succ, List.set_cons_zero]
        refine wpQuiet_nil ?_
        intro wq gq
        have own := gq.row own
        have M := M.gr gq
        have gg := gg.trans gq
        have zq := gq.size
        cases hin : cbIn O X with
        | true =>
          have HHAS := hidI (show Calls Tryz.prog 20 #[_, .int .i64 X] wq (Ret (.bool true) wq) from hin ▸ cbHas_any _ O X w.heap.size wq own (by omega))
          have HIN2 := hidI (HIN.out.stay (by rw [← HX.out]; exact cbIn_iff.1 hin))
          clear hin
          go_wp2_with (go_at_call 20; refine HHAS.out.mono ?_; rintro e w6 ⟨rfl, g6⟩; have own := g6.row own; have M := M.gr g6; have gg := gg.trans g6)
          go_roundw
          case rel => exact ⟨k + 1, O, by omega, by go_num, own, HIN2, M, gg⟩
          case measure => simp [intOf]; omega
        | false =>
          have HHAS := hidI (show Calls Tryz.prog 20 #[_, .int .i64 X] wq (Ret (.bool false) wq) from hin ▸ cbHas_any _ O X w.heap.size wq own (by omega))
          have hni : X ∉ O := fun h => by have := cbIn_iff.2 h; rw [hin] at this; cases this
          have HPUT := hidI (fun (v : Value) (w' : World) (ho : w'.ownsRow w.heap.size 3 1 v O.length (intsV O)) => l1Put_any v O X w.heap.size w' ho HIN.out.lt hni (by omega))
          clear hin hni
          go_wp2_with (first | (go_at_call 20; refine HHAS.out.mono ?_; rintro e w6 ⟨rfl, g6⟩; have own := g6.row own; have M := M.gr g6; have gg := gg.trans g6; have z6 := g6.size) | (go_at_call 21; refine (HPUT.out _ _ own).mono ?_; rintro e w7 ⟨g7, u, O', rfl, o1, o2, o3, own7⟩; have M := M.gr g7; have gg := gg.trans g7; have own := own_up own7 (show w.heap.size ≤ w6.heap.size by omega); have HIN2 := hidI (HIN.out.put o1 (by rw [← HX.out]; exact o2) o3)))
          go_roundw
          case rel => exact ⟨k + 1, O', by omega, by go_num, own, HIN2, M, gg⟩
          case measure => simp [intOf]; omega
      · obtain rfl : k = S.length := by omega
        have HFI := hidI HIN.out.done
        clear hlt
        go_wp2
        go_ret2
        exact ⟨gg, _, fin_vb HO.out.symm, by rw [HN.out, ← HFI.out]; exact own⟩
end Go.Proofs.YtoadoeahbekkoaaGreatDoor
