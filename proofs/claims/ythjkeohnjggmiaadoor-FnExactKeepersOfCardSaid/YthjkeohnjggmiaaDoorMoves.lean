/-
  The eight moves of a tray in the program, and the first one of their texts.
-/
import Derived.Test.YthjkeohnjggmiaaDoorText2
import Derived.Test.YthjkeohnjggmiaaDoorImpl1i
import Derived.Sort.Walk0
namespace Go.Proofs.YthjkeohnjggmiaaDoor
open Go.RowKit
/-- What the program's grids are, those of no tray among them. -/
structure Good (g : Grid) : Prop where
  w7 : g.w ≤ 7
  h7 : g.h ≤ 7
  n36 : nn g.w g.h ≤ 36
  both : (1 ≤ g.w ∧ 1 ≤ g.h) ∨ (g.w = 0 ∧ g.h = 0)
  len : g.c.length = nn g.w g.h
def turnG (g : Grid) : Grid := ⟨g.h, g.w, tuS g.w g.h g.c⟩
theorem turnN_succ (k : Nat) (g : Grid) : turnN (k + 1) g = turnG (turnN k g) := rfl
theorem Good.turn {g : Grid} (h : Good g) : Good (turnG g) :=
  ⟨h.h7, h.w7, by show nn g.h g.w ≤ 36; rw [nn_comm]; exact h.n36, by have := h.both; show (1 ≤ g.h ∧ 1 ≤ g.w) ∨ (g.h = 0 ∧ g.w = 0); omega, by show (tuS g.w g.h g.c).length = nn g.h g.w; rw [tuS_length, nn_comm]⟩
theorem Good.mir {g : Grid} (h : Good g) : Good (mirG g) := ⟨h.w7, h.h7, h.n36, h.both, miC_length _ _ _⟩
theorem Good.turnN {g : Grid} (h : Good g) (k : Nat) : Good (turnN k g) := by
  induction k with
  | zero => exact h
  | succ k ih => rw [turnN_succ]; exact ih.turn
/-- The move k: turned, and mirrored first from 4 on. -/
def moveG (k : Nat) (g : Grid) : Grid := turnN (k % 4) (if 4 ≤ k then mirG g else g)
theorem Good.move {g : Grid} (h : Good g) (k : Nat) : Good (moveG k g) := by
  unfold moveG
  split
  · exact h.mir.turnN _
  · exact h.turnN _
theorem rd_good (l : List UInt8) : Good (rdG l) := by
  have h := rd_small l
  exact ⟨h.w7, h.h7, h.n36, rd_both l, h.len⟩
def txtG (g : Grid) : ByteArray := txtB g.w g.h g.c
/-- The lesser one of two texts. -/
def minB (a b : ByteArray) : ByteArray := if Op.bytesLess a.toList b.toList || a.toList == b.toList then a else b
theorem minB_less (a b : ByteArray) : minB a b = if Op.bytesLess b.toList a.toList then b else a := by
  unfold minB
  rw [bytesLess_eq, bytesLess_eq]
  by_cases h1 : b.toList < a.toList
  · have h2 : ¬ a.toList < b.toList := fun h => List.lt_irrefl _ (List.lt_trans h1 h)
    have h3 : ¬ a.toList = b.toList := fun e => by rw [e] at h1; exact List.lt_irrefl _ h1
    have h4 : (a.toList == b.toList) = false := by rw [beq_eq_false_iff_ne]; exact h3
    rw [decide_eq_true h1, decide_eq_false h2, h4]
    rfl
  · rw [decide_eq_false h1]
    by_cases h2 : a.toList < b.toList
    · rw [decide_eq_true h2]; rfl
    · have h3 : a.toList = b.toList := List.le_antisymm (List.not_lt.1 h1) (List.not_lt.1 h2)
      have h4 : (a.toList == b.toList) = true := by rw [beq_iff_eq]; exact h3
      rw [decide_eq_false h2, h4]
      have : a = b := by
        rw [Lib.toList_data, Lib.toList_data] at h3
        exact ByteArray.ext (Array.toList_inj.1 h3)
      subst this
      rfl
/-- The least text of the first k moves, and of the grid itself. -/
def leastTo (g : Grid) : Nat → ByteArray
  | 0 => txtG g
  | k + 1 => minB (leastTo g k) (txtG (moveG k g))
def leB (l : List UInt8) : ByteArray := leastTo (rdG l) 8
set_option maxHeartbeats 2000000 in
set_option maxRecDepth 100000 in
theorem movedBy_any (k : Nat) (g : Grid) (w : World) (hg : Good g) (hk : k < 8) : Calls Tryd.prog 46 #[.agg (gvG g), .int .i64 k] w (Ret (.agg (gvG (moveG k g))) w) := by
  have gg := Gr.refl w
  unfold gvG
  by_cases h4 : 4 ≤ k
  · have hgm := hg.mir
    have HF := hidI (show moveG k g = turnN (k % 4) (mirG g) from by unfold moveG; rw [if_pos h4])
    have hw1 : 1 ≤ g.w ∨ g.h = 0 := by have := hg.both; omega
    have hw7 := hg.w7
    have hh7 := hg.h7
    have n36 := hg.n36
    have hlen := hg.len
    go_enter Tryd.func46, Tryd.ntmps46
    go_wp2_with (first | (refine r_box 46 _ (gv g.w g.h g.c) rfl rfl ?_; intro w1 B1 N1; have g1 := N1.gr; have b1 : Blk w1 B1 (gv g.w g.h g.c) 46 := N1.blk; have l1 := N1.lo; have t1 := N1.hi; have z1 := g1.size; have gg := gg.trans g1; clear N1; obtain ⟨b1_0, b1_1, b1_2⟩ := gcells b1) | (refine r_alloc 46 _ Tryd.gzero rfl ?_; intro w2 B2 N2; have g2 := N2.gr; have b2 : Blk w2 B2 (gv 0 0 []) 46 := N2.blk; have l2 := N2.lo; have t2 := N2.hi; have z2 := g2.size; have b1 := g2.blk b1; have gg := gg.trans g2; clear N2; obtain ⟨b2_0, b2_1, b2_2⟩ := gcells b2) | (refine r_load_row 46 _ _ rfl _ _ _ b1 Tryd.underlying46 rfl (Tryd.ginfo' _ _ _) rfl ?_) | (go_at_call 82; refine (mirrored_any g.w g.h g.c _ hw1 hw7 hh7 n36 hlen).mono ?_; rintro e w3 ⟨rfl, g3⟩; have z3 := g3.size; have b1 := g3.blk b1; have b2 := g3.blk b2; have gg := gg.trans g3) | (refine r_store_row 46 46 _ _ _ rfl (gv g.w g.h (miC g.w g.h g.c)) _ rfl b1 (Tryd.gsize' _ _ _) (by simp only [gv_size]) (gv_one _ _ _) rfl ?_; intro w4 u4 b1'; have z4 := u4.size; have gg := u4.gr gg (by omega); have b2 := u4.blk b2 (by omega); clear b1; have b1 := b1'; clear b1'; obtain ⟨b1_0, b1_1, b1_2⟩ := gcells b1))
    go_loopw [11] (fun i wr => ∃ j : Nat, j ≤ k % 4 ∧ i = .int .i64 j ∧ Blk wr B1 (gvG (turnN j (mirG g))) 46 ∧ Blk wr B2 (gv 0 0 []) 46 ∧ Gr w wr) (fun i _ => k % 4 - (intOf i).toNat)
    case atStart => exact ⟨0, Nat.zero_le _, rfl, b1, b2, gg⟩
    case round =>
      obtain ⟨j, hj, rfl, b1, b2, gg⟩ := hrel
      have hB12 : B1 < B2 := by omega
      have lo1 : w.heap.size ≤ B1 := by omega
      have ht := hgm.turnN j
      have HS := hidI (turnN_succ j (mirG g))
      obtain ⟨t, hte⟩ : ∃ t, t = turnN j (mirG g) := ⟨_, rfl⟩
      rw [← hte] at b1 ht HS
      have HT := hidI hte
      clear hte
      have tw7 := ht.w7
      have th7 := ht.h7
      have t36 := ht.n36
      have tlen := ht.len
      have th1 : 1 ≤ t.h ∨ t.w = 0 := by have := ht.both; omega
      unfold gvG at b1
      by_cases hlt : j < k % 4
      · go_wp2_with (first | (refine r_load_row 46 _ _ rfl _ _ _ b1 Tryd.underlying46 rfl (Tryd.ginfo' _ _ _) rfl ?_) | (go_at_call 83; refine (turned_any t.w t.h t.c _ th1 tw7 th7 t36 tlen).mono ?_; rintro e w5 ⟨rfl, g5⟩; have z5 := g5.size; have b1 := g5.blk b1; have b2 := g5.blk b2; have gg := gg.trans g5) | (refine r_store_row 46 46 _ _ _ rfl (gv t.h t.w (tuS t.w t.h t.c)) _ rfl b1 (Tryd.gsize' _ _ _) (by simp only [gv_size]) (gv_one _ _ _) rfl ?_; intro w6 u6 b1'; have z6 := u6.size; have gg := u6.gr gg (by omega); have b2 := u6.blk b2 (by omega); clear b1; have b1 := b1'; clear b1'; obtain ⟨b1_0, b1_1, b1_2⟩ := gcells b1))
        go_roundw
        case rel => exact ⟨j + 1, by omega, by go_num, by rw [HS.out]; exact b1, b2, gg⟩
        case measure => simp [intOf]; omega
      · obtain rfl : j = k % 4 := by omega
        clear hlt
        go_wp2_with (first | (refine r_load_row 46 _ _ rfl _ _ _ b1 Tryd.underlying46 rfl (Tryd.ginfo' _ _ _) rfl ?_) | (refine r_store_row 46 46 _ _ _ rfl (gv t.w t.h t.c) _ rfl b2 (Tryd.gsize' _ _ _) (by simp only [gv_size]) (gv_one _ _ _) rfl ?_; intro w8 u8 b2'; have z8 := u8.size; have gg := u8.gr gg (by omega); clear b2; have b2 := b2'; clear b2'; obtain ⟨b2_0, b2_1, b2_2⟩ := gcells b2))
        refine bodyPost_ret (results_row rfl _ _ _ _ _ _ rfl b2 Tryd.underlying46 rfl (Tryd.ginfo' _ _ _)) rfl ⟨?_, gg⟩
        rw [HF.out, ← HT.out]
  · have HF := hidI (show moveG k g = turnN (k % 4) g from by unfold moveG; rw [if_neg h4])
    have h4' : k < 4 := by omega
    clear h4
    go_enter Tryd.func46, Tryd.ntmps46
    go_wp2_with (first | (refine r_box 46 _ (gv g.w g.h g.c) rfl rfl ?_; intro w1 B1 N1; have g1 := N1.gr; have b1 : Blk w1 B1 (gv g.w g.h g.c) 46 := N1.blk; have l1 := N1.lo; have t1 := N1.hi; have z1 := g1.size; have gg := gg.trans g1; clear N1; obtain ⟨b1_0, b1_1, b1_2⟩ := gcells b1) | (refine r_alloc 46 _ Tryd.gzero rfl ?_; intro w2 B2 N2; have g2 := N2.gr; have b2 : Blk w2 B2 (gv 0 0 []) 46 := N2.blk; have l2 := N2.lo; have t2 := N2.hi; have z2 := g2.size; have b1 := g2.blk b1; have gg := gg.trans g2; clear N2; obtain ⟨b2_0, b2_1, b2_2⟩ := gcells b2))
    go_loopw [11] (fun i wr => ∃ j : Nat, j ≤ k % 4 ∧ i = .int .i64 j ∧ Blk wr B1 (gvG (turnN j g)) 46 ∧ Blk wr B2 (gv 0 0 []) 46 ∧ Gr w wr) (fun i _ => k % 4 - (intOf i).toNat)
    case atStart => exact ⟨0, Nat.zero_le _, rfl, b1, b2, gg⟩
    case round =>
      obtain ⟨j, hj, rfl, b1, b2, gg⟩ := hrel
      have hB12 : B1 < B2 := by omega
      have lo1 : w.heap.size ≤ B1 := by omega
      have ht := hg.turnN j
      have HS := hidI (turnN_succ j g)
      obtain ⟨t, hte⟩ : ∃ t, t = turnN j g := ⟨_, rfl⟩
      rw [← hte] at b1 ht HS
      have HT := hidI hte
      clear hte
      have tw7 := ht.w7
      have th7 := ht.h7
      have t36 := ht.n36
      have tlen := ht.len
      have th1 : 1 ≤ t.h ∨ t.w = 0 := by have := ht.both; omega
      unfold gvG at b1
      by_cases hlt : j < k % 4
      · go_wp2_with (first | (refine r_load_row 46 _ _ rfl _ _ _ b1 Tryd.underlying46 rfl (Tryd.ginfo' _ _ _) rfl ?_) | (go_at_call 83; refine (turned_any t.w t.h t.c _ th1 tw7 th7 t36 tlen).mono ?_; rintro e w5 ⟨rfl, g5⟩; have z5 := g5.size; have b1 := g5.blk b1; have b2 := g5.blk b2; have gg := gg.trans g5) | (refine r_store_row 46 46 _ _ _ rfl (gv t.h t.w (tuS t.w t.h t.c)) _ rfl b1 (Tryd.gsize' _ _ _) (by simp only [gv_size]) (gv_one _ _ _) rfl ?_; intro w6 u6 b1'; have z6 := u6.size; have gg := u6.gr gg (by omega); have b2 := u6.blk b2 (by omega); clear b1; have b1 := b1'; clear b1'; obtain ⟨b1_0, b1_1, b1_2⟩ := gcells b1))
        go_roundw
        case rel => exact ⟨j + 1, by omega, by go_num, by rw [HS.out]; exact b1, b2, gg⟩
        case measure => simp [intOf]; omega
      · obtain rfl : j = k % 4 := by omega
        clear hlt
        go_wp2_with (first | (refine r_load_row 46 _ _ rfl _ _ _ b1 Tryd.underlying46 rfl (Tryd.ginfo' _ _ _) rfl ?_) | (refine r_store_row 46 46 _ _ _ rfl (gv t.w t.h t.c) _ rfl b2 (Tryd.gsize' _ _ _) (by simp only [gv_size]) (gv_one _ _ _) rfl ?_; intro w8 u8 b2'; have z8 := u8.size; have gg := u8.gr gg (by omega); clear b2; have b2 := b2'; clear b2'; obtain ⟨b2_0, b2_1, b2_2⟩ := gcells b2))
        refine bodyPost_ret (results_row rfl _ _ _ _ _ _ rfl b2 Tryd.underlying46 rfl (Tryd.ginfo' _ _ _)) rfl ⟨?_, gg⟩
        rw [HF.out, ← HT.out]
theorem run_min_str {P : Program} {w : World} (ats : Array TypeId) (ty : TypeId) (a b : ByteArray) : (Builtin.min_ ats ty #[.string a, .string b]).run P w = .ok (.string (minB a b)) w := by
  have e : Builtin.min_ ats ty #[.string a, .string b] = Builtin.min2 (.string a) (.string b) := by
    unfold Builtin.min_
    simp
  rw [e]
  unfold Builtin.min2 minB Op.stringOp
  by_cases h : (Op.bytesLess a.toList b.toList || a.toList == b.toList) = true
  · rw [if_pos h]; simp [h, asBool]
  · rw [if_neg h]; simp at h; simp [h, asBool]
set_option maxHeartbeats 2000000 in
set_option maxRecDepth 100000 in
theorem iLeastTray (s : ByteArray) (w : World) (hm : ML w) (hs : s.size ≤ 1048576) : Calls Tryd.prog 16 #[.string s] w (Ret (.tuple #[.string (leB s.data.toList), .bool (rdOk s.data.toList)]) w) := by
  have gg := Gr.refl w
  have ht := rd_good s.data.toList
  obtain ⟨g, hg⟩ : ∃ g, rdG s.data.toList = g := ⟨_, rfl⟩
  rw [hg] at ht
  have HG := hidI hg
  have hw1 : 1 ≤ g.w ∨ g.h = 0 := by have := ht.both; omega
  have hw7 := ht.w7
  have hh7 := ht.h7
  have n36 := ht.n36
  clear hg
  go_enter Tryd.func16, Tryd.ntmps16
  go_wp2_with (first | (go_at_call 44; refine (readTray_any s _ hm hs).mono ?_; rintro e w1 ⟨rfl, g1⟩; rw [HG.out, gvG]; have z1 := g1.size; have gg := gg.trans g1) | (refine r_alloc 46 _ Tryd.gzero rfl ?_; intro w2 B2 N2; have g2 := N2.gr; have b2 : Blk w2 B2 (gv 0 0 []) 46 := N2.blk; have l2 := N2.lo; have t2 := N2.hi; have z2 := g2.size; have gg := gg.trans g2; clear N2; obtain ⟨b2_0, b2_1, b2_2⟩ := gcells b2) | (refine r_store_row 46 46 _ _ _ rfl (gv g.w g.h g.c) _ rfl b2 (Tryd.gsize' _ _ _) (by simp only [gv_size]) (gv_one _ _ _) rfl ?_; intro w3 u3 b2'; have z3 := u3.size; have gg := u3.gr gg (by omega); clear b2; have b2 := b2'; clear b2'; obtain ⟨b2_0, b2_1, b2_2⟩ := gcells b2) | (refine r_load_row 46 _ _ rfl _ _ _ b2 Tryd.underlying46 rfl (Tryd.ginfo' _ _ _) rfl ?_) | (go_at_call 45; refine (trayText_any g.w g.h g.c _ hw1 hw7 hh7 n36).mono ?_; rintro e w4 ⟨rfl, g4⟩; have z4 := g4.size; have b2 := g4.blk b2; have gg := gg.trans g4))
  go_loopw [6, 7, 15] (fun o _ i wr => ∃ k : Nat, k ≤ 8 ∧ i = .int .i64 k ∧ o = .string (leastTo g k) ∧ Blk wr B2 (gv g.w g.h g.c) 46 ∧ Gr w wr) (fun _ _ i _ => 8 - (intOf i).toNat)
  case atStart => exact ⟨0, by omega, rfl, rfl, b2, gg⟩
  case round =>
    obtain ⟨k, hk, rfl, rfl, b2, gg⟩ := hrel
    by_cases hlt : k < 8
    · have hmv := ht.move k
      obtain ⟨t, hte⟩ : ∃ t, t = moveG k g := ⟨_, rfl⟩
      rw [← hte] at hmv
      have HT := hidI hte
      clear hte
      have tw7 := hmv.w7
      have th7 := hmv.h7
      have t36 := hmv.n36
      have tw1 : 1 ≤ t.w ∨ t.h = 0 := by have := hmv.both; omega
      have hmin := fun w ats ty => run_min_str (P := Tryd.prog) (w := w) ats ty (leastTo g k) (txtB t.w t.h t.c)
      have HS := hidI (show minB (leastTo g k) (txtB t.w t.h t.c) = leastTo g (k + 1) from by rw [HT.out]; rfl)
      go_wp2_with (first | (refine r_load_row 46 _ _ rfl _ _ _ b2 Tryd.underlying46 rfl (Tryd.ginfo' _ _ _) rfl ?_) | (go_at_call 46; refine (movedBy_any k g _ ht hlt).mono ?_; rintro e w5 ⟨rfl, g5⟩; rw [← HT.out, gvG]; have b2 := g5.blk b2; have z5 := g5.size; have gg := gg.trans g5) | (go_at_call 45; refine (trayText_any t.w t.h t.c _ tw1 tw7 th7 t36).mono ?_; rintro e w6 ⟨rfl, g6⟩; have z6 := g6.size; have b2 := g6.blk b2; have gg := gg.trans g6))
      go_roundw
      case rel => exact ⟨k + 1, by omega, by go_num, by rw [HS.out], b2, gg⟩
      case measure => simp [intOf]; omega
    · obtain rfl : k = 8 := by omega
      clear hlt
      go_wp2
      go_ret2
      exact ⟨fin_sb (by unfold leB; rw [HG.out]) rfl, gg⟩
end Go.Proofs.YthjkeohnjggmiaaDoor
