/-
  The eight moves of a tray in the program, and the first one of their texts.
  The eight moves of a tray in the model, the first one of their texts, and the law.
  One tray above another: in the program and in the model, and the law.
-/
import Derived.Test.YtagoipongdnegaaDoorBTxt
import Derived.Test.YtagoipongdnegaaDoorBIm
import Derived.Sort.Walk0
import Derived.Test.YtagoipongdnegaaDoorBLs
import Derived.Deep.MidRow
namespace Go.Proofs.YtagoipongdnegaaDoor
open Go.RowKit
/-- What the program's grids are, those of no tray among them. -/
structure Good (g : Grid) : Prop where
  w7 : g.w ≤ 7
  h7 : g.h ≤ 7
  n36 : nn g.w g.h ≤ 36
  both : (1 ≤ g.w ∧ 1 ≤ g.h) ∨ (g.w = 0 ∧ g.h = 0)
  len : g.c.length = nn g.w g.h
def turnG (g : Grid) : Grid := ⟨g.h, g.w, tuS g.w g.h g.c⟩
theorem turnN_succ (k : Nat) (g : Grid) : turnN (k + 1) g = turnG (turnN k g) := rfl
theorem Good.turn {g : Grid} (h : Good g) : Good (turnG g) :=
  ⟨h.h7, h.w7, by show nn g.h g.w ≤ 36; rw [nn_comm]; exact h.n36, by have := h.both; show (1 ≤ g.h ∧ 1 ≤ g.w) ∨ (g.h = 0 ∧ g.w = 0); omega, by show (tuS g.w g.h g.c).length = nn g.h g.w; rw [tuS_length, nn_comm]⟩
theorem Good.mir {g : Grid} (h : Good g) : Good (mirG g) := ⟨h.w7, h.h7, h.n36, h.both, miC_length _ _ _⟩
theorem Good.turnN {g : Grid} (h : Good g) (k : Nat) : Good (turnN k g) := by
  induction k with
  | zero => exact h
  | succ k ih => rw [turnN_succ]; exact ih.turn
/-- The move k: turned, and mirrored first from 4 on. -/
def moveG (k : Nat) (g : Grid) : Grid := turnN (k % 4) (if 4 ≤ k then mirG g else g)
theorem Good.move {g : Grid} (h : Good g) (k : Nat) : Good (moveG k g) := by
  unfold moveG
  split
  · exact h.mir.turnN _
  · exact h.turnN _
theorem rd_good (l : List UInt8) : Good (rdG l) := by
  have h := rd_small l
  exact ⟨h.w7, h.h7, h.n36, rd_both l, h.len⟩
def txtG (g : Grid) : ByteArray := txtB g.w g.h g.c
/-- The lesser one of two texts. -/
def minB (a b : ByteArray) : ByteArray := if Op.bytesLess a.toList b.toList || a.toList == b.toList then a else b
theorem minB_less (a b : ByteArray) : minB a b = if Op.bytesLess b.toList a.toList then b else a := by
  unfold minB
  rw [bytesLess_eq, bytesLess_eq]
  by_cases h1 : b.toList < a.toList
  · have h2 : ¬ a.toList < b.toList := fun h => List.lt_irrefl _ (List.lt_trans h1 h)
    have h3 : ¬ a.toList = b.toList := fun e => by rw [e] at h1; exact List.lt_irrefl _ h1
    have h4 : (a.toList == b.toList) = false := by rw [beq_eq_false_iff_ne]; exact h3
    rw [decide_eq_true h1, decide_eq_false h2, h4]
    rfl
  · rw [decide_eq_false h1]
    by_cases h2 : a.toList < b.toList
    · rw [decide_eq_true h2]; rfl
    · have h3 : a.toList = b.toList := List.le_antisymm (List.not_lt.1 h1) (List.not_lt.1 h2)
      have h4 : (a.toList == b.toList) = true := by rw [beq_iff_eq]; exact h3
      rw [decide_eq_false h2, h4]
      have : a = b := by
        rw [Lib.toList_data, Lib.toList_data] at h3
        exact ByteArray.ext (Array.toList_inj.1 h3)
      subst this
      rfl
/-- The least text of the first k moves, and of the grid itself. -/
def leastTo (g : Grid) : Nat → ByteArray
  | 0 => txtG g
  | k + 1 => minB (leastTo g k) (txtG (moveG k g))
def leB (l : List UInt8) : ByteArray := leastTo (rdG l) 8
set_option maxHeartbeats 2000000 in
set_option maxRecDepth 100000 in
theorem movedBy_any (k : Nat) (g : Grid) (w : World) (hg : Good g) (hk : k < 8) : Calls Tryd.prog 137 #[.agg (gvG g), .int .i64 k] w (Ret (.agg (gvG (moveG k g))) w) := by
  have gg := Gr.refl w
  unfold gvG
  by_cases h4 : 4 ≤ k
  · have hgm := hg.mir
    have HF := hidI (show moveG k g = turnN (k % 4) (mirG g) from by unfold moveG; rw [if_pos h4])
    have hw1 : 1 ≤ g.w ∨ g.h = 0 := by have := hg.both; omega
    have hw7 := hg.w7
    have hh7 := hg.h7
    have n36 := hg.n36
    have hlen := hg.len
    go_enter Tryd.func137, Tryd.ntmps137
    go_wp2_with (first | (refine r_box 62 _ (gv g.w g.h g.c) rfl rfl ?_; intro w1 B1 N1; have g1 := N1.gr; have b1 : Blk w1 B1 (gv g.w g.h g.c) 62 := N1.blk; have l1 := N1.lo; have t1 := N1.hi; have z1 := g1.size; have gg := gg.trans g1; clear N1; obtain ⟨b1_0, b1_1, b1_2⟩ := gcells b1) | (refine r_alloc 62 _ Tryd.gzero rfl ?_; intro w2 B2 N2; have g2 := N2.gr; have b2 : Blk w2 B2 (gv 0 0 []) 62 := N2.blk; have l2 := N2.lo; have t2 := N2.hi; have z2 := g2.size; have b1 := g2.blk b1; have gg := gg.trans g2; clear N2; obtain ⟨b2_0, b2_1, b2_2⟩ := gcells b2) | (refine r_load_row 62 _ _ rfl _ _ _ b1 Tryd.underlying62 rfl (Tryd.ginfo' _ _ _) rfl ?_) | (go_at_call 125; refine (mirrored_any g.w g.h g.c _ hw1 hw7 hh7 n36 hlen).mono ?_; rintro e w3 ⟨rfl, g3⟩; have z3 := g3.size; have b1 := g3.blk b1; have b2 := g3.blk b2; have gg := gg.trans g3) | (refine r_store_row 62 62 _ _ _ rfl (gv g.w g.h (miC g.w g.h g.c)) _ rfl b1 (Tryd.gsize' _ _ _) (by simp only [gv_size]) (gv_one _ _ _) rfl ?_; intro w4 u4 b1'; have z4 := u4.size; have gg := u4.gr gg (by omega); have b2 := u4.blk b2 (by omega); clear b1; have b1 := b1'; clear b1'; obtain ⟨b1_0, b1_1, b1_2⟩ := gcells b1))
    go_loopw [11] (fun i wr => ∃ j : Nat, j ≤ k % 4 ∧ i = .int .i64 j ∧ Blk wr B1 (gvG (turnN j (mirG g))) 62 ∧ Blk wr B2 (gv 0 0 []) 62 ∧ Gr w wr) (fun i _ => k % 4 - (intOf i).toNat)
    case atStart => exact ⟨0, Nat.zero_le _, rfl, b1, b2, gg⟩
    case round =>
      obtain ⟨j, hj, rfl, b1, b2, gg⟩ := hrel
      have hB12 : B1 < B2 := by omega
      have lo1 : w.heap.size ≤ B1 := by omega
      have ht := hgm.turnN j
      have HS := hidI (turnN_succ j (mirG g))
      obtain ⟨t, hte⟩ : ∃ t, t = turnN j (mirG g) := ⟨_, rfl⟩
      rw [← hte] at b1 ht HS
      have HT := hidI hte
      clear hte
      have tw7 := ht.w7
      have th7 := ht.h7
      have t36 := ht.n36
      have tlen := ht.len
      have th1 : 1 ≤ t.h ∨ t.w = 0 := by have := ht.both; omega
      unfold gvG at b1
      by_cases hlt : j < k % 4
      · go_wp2_with (first | (refine r_load_row 62 _ _ rfl _ _ _ b1 Tryd.underlying62 rfl (Tryd.ginfo' _ _ _) rfl ?_) | (go_at_call 84; refine (turned_any t.w t.h t.c _ th1 tw7 th7 t36 tlen).mono ?_; rintro e w5 ⟨rfl, g5⟩; have z5 := g5.size; have b1 := g5.blk b1; have b2 := g5.blk b2; have gg := gg.trans g5) | (refine r_store_row 62 62 _ _ _ rfl (gv t.h t.w (tuS t.w t.h t.c)) _ rfl b1 (Tryd.gsize' _ _ _) (by simp only [gv_size]) (gv_one _ _ _) rfl ?_; intro w6 u6 b1'; have z6 := u6.size; have gg := u6.gr gg (by omega); have b2 := u6.blk b2 (by omega); clear b1; have b1 := b1'; clear b1'; obtain ⟨b1_0, b1_1, b1_2⟩ := gcells b1))
        go_roundw
        case rel => exact ⟨j + 1, by omega, by go_num, by rw [HS.out]; exact b1, b2, gg⟩
        case measure => simp [intOf]; omega
      · obtain rfl : j = k % 4 := by omega
        clear hlt
        go_wp2_with (first | (refine r_load_row 62 _ _ rfl _ _ _ b1 Tryd.underlying62 rfl (Tryd.ginfo' _ _ _) rfl ?_) | (refine r_store_row 62 62 _ _ _ rfl (gv t.w t.h t.c) _ rfl b2 (Tryd.gsize' _ _ _) (by simp only [gv_size]) (gv_one _ _ _) rfl ?_; intro w8 u8 b2'; have z8 := u8.size; have gg := u8.gr gg (by omega); clear b2; have b2 := b2'; clear b2'; obtain ⟨b2_0, b2_1, b2_2⟩ := gcells b2))
        refine bodyPost_ret (results_row rfl _ _ _ _ _ _ rfl b2 Tryd.underlying62 rfl (Tryd.ginfo' _ _ _)) rfl ⟨?_, gg⟩
        rw [HF.out, ← HT.out]
  · have HF := hidI (show moveG k g = turnN (k % 4) g from by unfold moveG; rw [if_neg h4])
    have h4' : k < 4 := by omega
    clear h4
    go_enter Tryd.func137, Tryd.ntmps137
    go_wp2_with (first | (refine r_box 62 _ (gv g.w g.h g.c) rfl rfl ?_; intro w1 B1 N1; have g1 := N1.gr; have b1 : Blk w1 B1 (gv g.w g.h g.c) 62 := N1.blk; have l1 := N1.lo; have t1 := N1.hi; have z1 := g1.size; have gg := gg.trans g1; clear N1; obtain ⟨b1_0, b1_1, b1_2⟩ := gcells b1) | (refine r_alloc 62 _ Tryd.gzero rfl ?_; intro w2 B2 N2; have g2 := N2.gr; have b2 : Blk w2 B2 (gv 0 0 []) 62 := N2.blk; have l2 := N2.lo; have t2 := N2.hi; have z2 := g2.size; have b1 := g2.blk b1; have gg := gg.trans g2; clear N2; obtain ⟨b2_0, b2_1, b2_2⟩ := gcells b2))
    go_loopw [11] (fun i wr => ∃ j : Nat, j ≤ k % 4 ∧ i = .int .i64 j ∧ Blk wr B1 (gvG (turnN j g)) 62 ∧ Blk wr B2 (gv 0 0 []) 62 ∧ Gr w wr) (fun i _ => k % 4 - (intOf i).toNat)
    case atStart => exact ⟨0, Nat.zero_le _, rfl, b1, b2, gg⟩
    case round =>
      obtain ⟨j, hj, rfl, b1, b2, gg⟩ := hrel
      have hB12 : B1 < B2 := by omega
      have lo1 : w.heap.size ≤ B1 := by omega
      have ht := hg.turnN j
      have HS := hidI (turnN_succ j g)
      obtain ⟨t, hte⟩ : ∃ t, t = turnN j g := ⟨_, rfl⟩
      rw [← hte] at b1 ht HS
      have HT := hidI hte
      clear hte
      have tw7 := ht.w7
      have th7 := ht.h7
      have t36 := ht.n36
      have tlen := ht.len
      have th1 : 1 ≤ t.h ∨ t.w = 0 := by have := ht.both; omega
      unfold gvG at b1
      by_cases hlt : j < k % 4
      · go_wp2_with (first | (refine r_load_row 62 _ _ rfl _ _ _ b1 Tryd.underlying62 rfl (Tryd.ginfo' _ _ _) rfl ?_) | (go_at_call 84; refine (turned_any t.w t.h t.c _ th1 tw7 th7 t36 tlen).mono ?_; rintro e w5 ⟨rfl, g5⟩; have z5 := g5.size; have b1 := g5.blk b1; have b2 := g5.blk b2; have gg := gg.trans g5) | (refine r_store_row 62 62 _ _ _ rfl (gv t.h t.w (tuS t.w t.h t.c)) _ rfl b1 (Tryd.gsize' _ _ _) (by simp only [gv_size]) (gv_one _ _ _) rfl ?_; intro w6 u6 b1'; have z6 := u6.size; have gg := u6.gr gg (by omega); have b2 := u6.blk b2 (by omega); clear b1; have b1 := b1'; clear b1'; obtain ⟨b1_0, b1_1, b1_2⟩ := gcells b1))
        go_roundw
        case rel => exact ⟨j + 1, by omega, by go_num, by rw [HS.out]; exact b1, b2, gg⟩
        case measure => simp [intOf]; omega
      · obtain rfl : j = k % 4 := by omega
        clear hlt
        go_wp2_with (first | (refine r_load_row 62 _ _ rfl _ _ _ b1 Tryd.underlying62 rfl (Tryd.ginfo' _ _ _) rfl ?_) | (refine r_store_row 62 62 _ _ _ rfl (gv t.w t.h t.c) _ rfl b2 (Tryd.gsize' _ _ _) (by simp only [gv_size]) (gv_one _ _ _) rfl ?_; intro w8 u8 b2'; have z8 := u8.size; have gg := u8.gr gg (by omega); clear b2; have b2 := b2'; clear b2'; obtain ⟨b2_0, b2_1, b2_2⟩ := gcells b2))
        refine bodyPost_ret (results_row rfl _ _ _ _ _ _ rfl b2 Tryd.underlying62 rfl (Tryd.ginfo' _ _ _)) rfl ⟨?_, gg⟩
        rw [HF.out, ← HT.out]
theorem run_min_str {P : Program} {w : World} (ats : Array TypeId) (ty : TypeId) (a b : ByteArray) : (Builtin.min_ ats ty #[.string a, .string b]).run P w = .ok (.string (minB a b)) w := by
  have e : Builtin.min_ ats ty #[.string a, .string b] = Builtin.min2 (.string a) (.string b) := by
    unfold Builtin.min_
    simp
  rw [e]
  unfold Builtin.min2 minB Op.stringOp
  by_cases h : (Op.bytesLess a.toList b.toList || a.toList == b.toList) = true
  · rw [if_pos h]; simp [h, asBool]
  · rw [if_neg h]; simp at h; simp [h, asBool]
set_option maxHeartbeats 2000000 in
set_option maxRecDepth 100000 in
theorem iLeastTray (s : ByteArray) (w : World) (hm : ML w) (hs : s.size ≤ 1048576) : Calls Tryd.prog 112 #[.string s] w (Ret (.tuple #[.string (leB s.data.toList), .bool (rdOk s.data.toList)]) w) := by
  have gg := Gr.refl w
  have ht := rd_good s.data.toList
  obtain ⟨g, hg⟩ : ∃ g, rdG s.data.toList = g := ⟨_, rfl⟩
  rw [hg] at ht
  have HG := hidI hg
  have hw1 : 1 ≤ g.w ∨ g.h = 0 := by have := ht.both; omega
  have hw7 := ht.w7
  have hh7 := ht.h7
  have n36 := ht.n36
  clear hg
  go_enter Tryd.func112, Tryd.ntmps112
  go_wp2_with (first | (go_at_call 57; refine (readTray_any s _ hm hs).mono ?_; rintro e w1 ⟨rfl, g1⟩; rw [HG.out, gvG]; have z1 := g1.size; have gg := gg.trans g1) | (refine r_alloc 62 _ Tryd.gzero rfl ?_; intro w2 B2 N2; have g2 := N2.gr; have b2 : Blk w2 B2 (gv 0 0 []) 62 := N2.blk; have l2 := N2.lo; have t2 := N2.hi; have z2 := g2.size; have gg := gg.trans g2; clear N2; obtain ⟨b2_0, b2_1, b2_2⟩ := gcells b2) | (refine r_store_row 62 62 _ _ _ rfl (gv g.w g.h g.c) _ rfl b2 (Tryd.gsize' _ _ _) (by simp only [gv_size]) (gv_one _ _ _) rfl ?_; intro w3 u3 b2'; have z3 := u3.size; have gg := u3.gr gg (by omega); clear b2; have b2 := b2'; clear b2'; obtain ⟨b2_0, b2_1, b2_2⟩ := gcells b2) | (refine r_load_row 62 _ _ rfl _ _ _ b2 Tryd.underlying62 rfl (Tryd.ginfo' _ _ _) rfl ?_) | (go_at_call 83; refine (trayText_any g.w g.h g.c _ hw1 hw7 hh7 n36).mono ?_; rintro e w4 ⟨rfl, g4⟩; have z4 := g4.size; have b2 := g4.blk b2; have gg := gg.trans g4))
  go_loopw [6, 7, 15] (fun o _ i wr => ∃ k : Nat, k ≤ 8 ∧ i = .int .i64 k ∧ o = .string (leastTo g k) ∧ Blk wr B2 (gv g.w g.h g.c) 62 ∧ Gr w wr) (fun _ _ i _ => 8 - (intOf i).toNat)
  case atStart => exact ⟨0, by omega, rfl, rfl, b2, gg⟩
  case round =>
    obtain ⟨k, hk, rfl, rfl, b2, gg⟩ := hrel
    by_cases hlt : k < 8
    · have hmv := ht.move k
      obtain ⟨t, hte⟩ : ∃ t, t = moveG k g := ⟨_, rfl⟩
      rw [← hte] at hmv
      have HT := hidI hte
      clear hte
      have tw7 := hmv.w7
      have th7 := hmv.h7
      have t36 := hmv.n36
      have tw1 : 1 ≤ t.w ∨ t.h = 0 := by have := hmv.both; omega
      have hmin := fun w ats ty => run_min_str (P := Tryd.prog) (w := w) ats ty (leastTo g k) (txtB t.w t.h t.c)
      have HS := hidI (show minB (leastTo g k) (txtB t.w t.h t.c) = leastTo g (k + 1) from by rw [HT.out]; rfl)
      go_wp2_with (first | (refine r_load_row 62 _ _ rfl _ _ _ b2 Tryd.underlying62 rfl (Tryd.ginfo' _ _ _) rfl ?_) | (go_at_call 137; refine (movedBy_any k g _ ht hlt).mono ?_; rintro e w5 ⟨rfl, g5⟩; rw [← HT.out, gvG]; have b2 := g5.blk b2; have z5 := g5.size; have gg := gg.trans g5) | (go_at_call 83; refine (trayText_any t.w t.h t.c _ tw1 tw7 th7 t36).mono ?_; rintro e w6 ⟨rfl, g6⟩; have z6 := g6.size; have b2 := g6.blk b2; have gg := gg.trans g6))
      go_roundw
      case rel => exact ⟨k + 1, by omega, by go_num, by rw [HS.out], b2, gg⟩
      case measure => simp [intOf]; omega
    · obtain rfl : k = 8 := by omega
      clear hlt
      go_wp2
      go_ret2
      exact ⟨fin_sb (by unfold leB; rw [HG.out]) rfl, gg⟩
end Go.Proofs.YtagoipongdnegaaDoor
namespace Go.Proofs.YtagoipongdnegaaDoor
open Go.RowKit
theorem move_succ (k : Nat) (g : Grid) (hk : k < 7) (h3 : k ≠ 3) : turnG (moveG k g) = moveG (k + 1) g := by
  have h : k = 0 ∨ k = 1 ∨ k = 2 ∨ k = 4 ∨ k = 5 ∨ k = 6 := by omega
  rcases h with rfl | rfl | rfl | rfl | rfl | rfl <;> rfl
theorem move_four (g : Grid) (hw : 1 ≤ g.w) (hl : g.c.length = nn g.w g.h) : mirG (turnG (moveG 3 g)) = moveG 4 g := by
  have h4 : turnG (moveG 3 g) = g := by
    obtain ⟨w, h, c⟩ := g
    show Grid.mk w h (tuS h w (tuS w h (tuS h w (tuS w h c)))) = _
    rw [tuS_four hw hl]
  rw [h4]
  rfl
/-- The cells of a list of the model's grids. -/
def gridsV (L : List (Grid × Value)) : List Value := L.flatMap fun p => [.int .i64 p.1.w, .int .i64 p.1.h, p.2]
theorem gridsV_snoc (L : List (Grid × Value)) (g : Grid) (s : Value) : gridsV (L ++ [(g, s)]) = gridsV L ++ [.int .i64 g.w, .int .i64 g.h, s] := by
  unfold gridsV; simp
theorem gridsV_length (L : List (Grid × Value)) : (gridsV L).length = L.length * 3 := by
  induction L with
  | nil => rfl
  | cons p L ih =>
    have : gridsV (p :: L) = [.int .i64 p.1.w, .int .i64 p.1.h, p.2] ++ gridsV L := rfl
    rw [this, List.length_append, ih, List.length_cons]
    show 3 + L.length * 3 = (L.length + 1) * 3
    omega
theorem gridsV_at (L : List (Grid × Value)) (i : Nat) (p : Grid × Value) (h : L[i]? = some p) : (gridsV L)[3 * i]? = some (.int .i64 p.1.w) ∧ (gridsV L)[3 * i + 1]? = some (.int .i64 p.1.h) ∧ (gridsV L)[3 * i + 2]? = some p.2 := by
  induction L generalizing i with
  | nil => cases h
  | cons q L ih =>
    have e : gridsV (q :: L) = .int .i64 q.1.w :: .int .i64 q.1.h :: q.2 :: gridsV L := rfl
    rw [e]
    cases i with
    | zero =>
      obtain rfl : q = p := by simpa using h
      exact ⟨rfl, rfl, rfl⟩
    | succ i =>
      have h' : L[i]? = some p := by simpa using h
      have := ih i h'
      rw [show 3 * (i + 1) = 3 * i + 3 by omega]
      simpa using this
theorem own_ne2 {w : World} {b1 b2 : Nat} {e1 e2 : TypeId} {s1 s2 : Nat} {v1 v2 : Value} {n1 n2 : Nat} {x1 x2 : List Value} (h1 : w.ownsRow b1 e1 s1 v1 n1 x1) (h2 : w.ownsRow b2 e2 s2 v2 n2 x2) (he : e1 ≠ e2) : v1.ownBlock = none ∨ v1.ownBlock ≠ v2.ownBlock := by
  obtain ⟨_, ⟨rfl, _⟩ | ⟨g, cap, cur, rfl, _, hg, _⟩⟩ := h1
  · exact .inl rfl
  · obtain ⟨_, ⟨rfl, _⟩ | ⟨g', cap', cur', rfl, _, hg', _⟩⟩ := h2
    · exact .inr fun h => by cases h
    · refine .inr fun h => ?_
      obtain rfl : g = g' := by simpa [Value.ownBlock] using h
      rw [hg] at hg'
      cases hg'
      exact he rfl
section
variable {P : Program} {w : World} {ops : Array Oper} {rest : List Oper} {a : Act} {Q : Exit → Act → World → Prop} {dst : Option Tmp} {ty : TypeId} {pos : String} {aft : Array Edge} {gd : Option (Nat × Bool)}
/-- A slice of one element of several cells, written out. -/
theorem r_slice1s (t e : TypeId) (x : Operand) (u : Value) (cs : Array Value) (hx : a.eval x = u)
    (hr : (Instr.buildSlice t 1 #[(0, u)]).run P w = .ok (.slice (some ⟨w.heap.size, 0, none⟩) 1 1) (w.alloc (.cells cs e)))
    (hgd : Region.wanted ⟨dst, .buildSlice t 1 #[(0, x)], ty, pos, aft, gd⟩ (yielded ops a.tmps) = true)
    (h : ∀ w1 B, New w w1 B cs e → wpList P ops Q rest (a.put dst (.slice (some ⟨B, 0, none⟩) 1 1)) w1) :
    wpList P ops Q (⟨dst, .buildSlice t 1 #[(0, x)], ty, pos, aft, gd⟩ :: rest) a w :=
  wpList_want hgd fun _ hK => by
    unfold Oper.wp execOp
    simp only [List.map_toArray, List.map_cons, List.map_nil, hx, Sem.run_bind, hr, Result.andThen_ok, Sem.run_pure, Oper.upon]
    exact hK _ _ (h _ _ (New.mk' w _ e))
theorem new3 {w w1 : World} {B : Nat} {x y z : Value} {e : TypeId} (h : New w w1 B #[x, y, z] e) : ∀ (j : Nat) v, [x, y, z][j]? = some v → w1.cell? ((⟨B, 0, none⟩ : Addr).add j) = some v := by
  intro j v hj
  have e3 : (⟨B, 0, none⟩ : Addr).add j = ⟨B, j, none⟩ := by
    simp [Addr.add]
    exact fun h => h.symm
  rw [e3, Blk.cell h.blk j]
  simpa using hj
/-- A struct loaded out of a row. -/
theorem r_load_mid (T : TypeId) (x : Operand) (b o : Nat) (cs : List Value) (d : TypeDesc) (hx : a.eval x = .pointer (some ⟨b, o, none⟩)) (hc : w.rangeAt b o cs)
    (hu : P.underlying T = some d) (hd : d.isRow = true) (hi : (P.info? T).map (·.size) = some cs.length)
    (hgd : Region.wanted ⟨dst, .load T x, ty, pos, aft, gd⟩ (yielded ops a.tmps) = true) (h : wpList P ops Q rest (a.put dst (.agg cs.toArray)) w) : wpList P ops Q (⟨dst, .load T x, ty, pos, aft, gd⟩ :: rest) a w :=
  wpList_want hgd fun _ hK => by
    unfold Oper.wp execOp Instr.loadAt
    simp only [hx, Instr.sureAddr, Sem.run_bind, Sem.run_pure, Result.andThen_ok, run_loadVar_mid w b o T cs d hc hu hd hi, Oper.upon]
    exact hK _ _ h
end
theorem Gr.range {w w' : World} (h : Gr w w') {b o : Nat} {cs : List Value} (hr : w.rangeAt b o cs) : w'.rangeAt b o cs := fun j v hj => h.cell (hr j v hj)
/-- The eight moves as the model has them: each grid's cells in a row. -/
structure Eights (T : TypeId) (g : Grid) (L : List (Grid × Value)) (w : World) : Prop where
  at' : ∀ i p, L[i]? = some p → p.1 = moveG i g ∧ w.ownsRow 0 T 1 p.2 p.1.c.length (cellsV p.1.c)
theorem Eights.gr {T : TypeId} {g : Grid} {L : List (Grid × Value)} {w w' : World} (h : Eights T g L w) (hg : Gr w w') : Eights T g L w' :=
  ⟨fun i p hp => ⟨(h.at' i p hp).1, hg.row (h.at' i p hp).2⟩⟩
theorem Eights.grb {T e : TypeId} {g : Grid} {L : List (Grid × Value)} {w w' : World} {b s n : Nat} {v : Value} {xs : List Value} (h : Eights T g L w) (ho : w.ownsRow b e s v n xs) (he : T ≠ e) (hg : Grb v.ownBlock w w') : Eights T g L w' :=
  ⟨fun i p hp => ⟨(h.at' i p hp).1, hg.row (h.at' i p hp).2 (own_ne2 (h.at' i p hp).2 ho he)⟩⟩
theorem Eights.upd {T T' : TypeId} {g : Grid} {L : List (Grid × Value)} {w w' : World} {B : Nat} {cs : Array Value} (h : Eights T g L w) (hb : Blk w B cs T') (hT : T' ≠ T) (hu : Upd B w w') : Eights T g L w' :=
  ⟨fun i p hp => ⟨(h.at' i p hp).1, hu.row (h.at' i p hp).2 (own_ne (h.at' i p hp).2 hb hT)⟩⟩
theorem Eights.snoc {T : TypeId} {g : Grid} {L : List (Grid × Value)} {w : World} {t : Grid} {s : Value} (h : Eights T g L w) (ht : t = moveG L.length g) (ho : w.ownsRow 0 T 1 s t.c.length (cellsV t.c)) : Eights T g (L ++ [(t, s)]) w :=
  ⟨fun i p hp => by
    rcases Nat.lt_trichotomy i L.length with hi | hi | hi
    · rw [List.getElem?_append_left hi] at hp
      exact h.at' i p hp
    · subst hi
      rw [List.getElem?_append_right (Nat.le_refl _), Nat.sub_self] at hp
      obtain rfl : (t, s) = p := by simpa using hp
      exact ⟨ht, ho⟩
    · rw [List.getElem?_eq_none (by simp; omega)] at hp
      cases hp⟩
theorem Tryd.bss1 (x y : Int) (p : Option Addr) (n k : Nat) (w : World) : (Instr.buildSlice 135 1 #[(0, .agg (tg x y (.slice p n k)))]).run Tryd.prog w = .ok (.slice (some ⟨w.heap.size, 0, none⟩) 1 1) (w.alloc (.cells (tg x y (.slice p n k)) 45)) := by kernel_rfl
theorem Tryd.gridsI : ElemInfo Tryd.prog 135 45 (.agg (tg 0 0 (.slice none 0 0))) 3 40 := ⟨Tryd.underlying135, by kernel_rfl, rfl, by decide⟩
set_option maxHeartbeats 4000000 in
set_option maxRecDepth 100000 in
theorem tyEight_any (g : Grid) (sl : Value) (base : Nat) (w : World) (ht : Tray g) (hown : w.ownsRow base 5 1 sl g.c.length (cellsV g.c)) :
    Calls Tryd.prog 136 #[.agg (tg g.w g.h sl)] w fun e w' => Gr w w' ∧ ∃ v L, e = .returned v ∧ L.length = 8 ∧ w'.ownsRow 0 45 3 v 8 (gridsV L) ∧ Eights 5 g L w' := by
  have gg := Gr.refl w
  have hone := own_one hown
  go_enter Tryd.func136, Tryd.ntmps136
  go_wp2_with (refine r_box 45 _ (tg (g.w) (g.h) (sl)) rfl rfl ?_; intro w1 B1 N1; have g1 := N1.gr; have b1 : Blk w1 B1 (tg (g.w) (g.h) (sl)) 45 := N1.blk; have l1 := N1.lo; have t1 := N1.hi; have z1 := g1.size; have gg := gg.trans g1; clear N1; obtain ⟨b1_0, b1_1, b1_2⟩ := tcells b1)
  have hown := own_up (g1.row hown) (Nat.zero_le base)
  have own0 : w1.ownsRow w1.heap.size 45 3 (.slice none 0 0) 0 (gridsV []) := World.ownsRow_nil _ _ _ _
  have hgood : Good g := ⟨ht.w7, ht.h7, ht.n36, .inl ⟨ht.w1, ht.h1⟩, ht.len⟩
  go_loopw [3, 4] (fun ov i wr => ∃ (k : Nat) (L : List (Grid × Value)) (t : Grid) (st : Value), k ≤ 8 ∧ i = .int .i64 k ∧ L.length = k ∧ wr.ownsRow w1.heap.size 45 3 ov k (gridsV L) ∧ Eights 5 g L wr ∧
      Blk wr B1 (tg t.w t.h st) 45 ∧ wr.ownsRow 0 5 1 st t.c.length (cellsV t.c) ∧ Hid (k < 8 → t = moveG k g) ∧ Hid (Good t ∧ 1 ≤ t.w ∧ 1 ≤ t.h) ∧ w1.heap.size ≤ wr.heap.size ∧ Gr w wr) (fun _ i _ => 8 - (intOf i).toNat)
  case atStart => exact ⟨0, [], g, sl, by omega, rfl, rfl, own0, ⟨fun i p hp => by cases hp⟩, b1, hown, fun _ => rfl, ⟨hgood, ht.w1, ht.h1⟩, Nat.le_refl _, gg⟩
  case round =>
    obtain ⟨k, L, t, st, hk, rfl, hL, own, hE, b1, hst, HT, HG, zz, gg⟩ := hrel
    have lo1 : w.heap.size ≤ B1 := by omega
    have tB1 := t1
    by_cases hlt : k < 8
    · obtain ⟨hgt, tw1, th1⟩ := HG.out
      have htm : t = moveG L.length g := by rw [hL]; exact HT.out hlt
      have tw7 := hgt.w7
      have th7 := hgt.h7
      have t36 := hgt.n36
      have tlen := hgt.len
      have tl1 : 0 < t.c.length := by rw [tlen]; exact Nat.mul_pos tw1 th1
      obtain ⟨G, cap, rfl, hG0, hcap⟩ := own_shape hst tl1
      have HTM := hidI htm
      have HTL := hidI tlen
      clear htm tlen
      by_cases h3 : k = 3
      · have e3 : ((k : Int) == 3) = true := by rw [h3]; rfl
        have H3 := hidI h3
        clear h3
        go_wp2_with (first | (refine r_load_row 45 _ _ rfl _ _ _ b1 Tryd.underlying45 rfl Tryd.tinfo rfl ?_) | (refine r_slice1s 135 45 (.tmp 10) (.agg (tg t.w t.h (.slice (some ⟨G, 0, none⟩) t.c.length cap))) (tg t.w t.h (.slice (some ⟨G, 0, none⟩) t.c.length cap)) rfl (Tryd.bss1 t.w t.h (some ⟨G, 0, none⟩) t.c.length cap _) rfl ?_; intro w5 B5 N5; have g5 := N5.gr; have own5 := g5.row own; have b15 := g5.blk b1; have hst5 := g5.row hst; have hE5 := hE.gr g5; have gg5 := gg.trans g5; have z5 := g5.size) | (refine r_append (.tmp 9) (.tmp 11) 135 45 _ 3 40 w1.heap.size Tryd.gridsI _ k (gridsV L) rfl own5 ⟨B5, 0, none⟩ 1 1 [.int .i64 t.w, .int .i64 t.h, .slice (some ⟨G, 0, none⟩) t.c.length cap] rfl rfl (new3 N5) (by intro u hu; simp at hu; rcases hu with rfl | rfl | rfl <;> rfl) (by omega) (by decide) (by omega) rfl ?_; intro v6 w6 own6 g6; have b16 := g6.blk b15 (own_below own5 tB1); have b1 := b16; have hst6 := g6.row hst5 (own_ne2 hst5 own5 (by decide)); have hE6 := hE5.grb own5 (by decide) g6; have gg6 := g6.gr gg5 (own_gr own5 (by omega)); have z6 := g6.size))
        refine (tyTurn_any t.w t.h 0 t.c G cap _ tw1 th1 tw7 th7 t36 HTL.out hst6).mono ?_
        rintro e w7 ⟨g7, s7, rfl, own7'⟩
        have own7 : w7.ownsRow w6.heap.size 5 1 s7 (turnG t).c.length (cellsV (turnG t).c) := own7'
        have hone7 := own_one own7
        have b1 := g7.blk b16
        have own := g7.row own6
        have hE := (hE6.snoc HTM.out hst6).gr g7
        have gg := gg6.trans g7
        have z7 := g7.size
        have hG2 := hgt.turn
        go_wp2_with (refine r_store_row 45 45 _ _ _ rfl (tg _ _ _) _ rfl b1 Tryd.tsize rfl (tg_one hone7) rfl ?_; intro w8 u8 b1'; have z8 := u8.size; have gg := u8.gr gg (by omega); clear b1; have b1 := b1'; clear b1'; obtain ⟨b1_0, b1_1, b1_2⟩ := tcells b1)
        have hs7 := u8.row own7 (own_ne own7 (show Blk w7 B1 _ 45 from g7.blk b16) (by decide))
        have own := u8.row own (own_below own tB1)
        have hE := hE.upd (show Blk w7 B1 _ 45 from g7.blk b16) (by decide) u8
        have tl2 : 0 < (turnG t).c.length := by rw [hG2.len]; exact Nat.mul_pos th1 tw1
        obtain ⟨G7, cap7, rfl, hG7, hcap7⟩ := own_shape hs7 tl2
        have hs7' := own_up hs7 (Nat.zero_le _)
        go_wp2_with (refine r_load_row 45 _ _ rfl _ _ _ b1 Tryd.underlying45 rfl Tryd.tinfo rfl ?_)
        refine (tyMirror_any t.h t.w 0 (turnG t).c G7 cap7 _ th1 tw1 th7 tw7 hG2.n36 hG2.len hs7').mono ?_
        rintro e w9 ⟨g9, s9, rfl, own9'⟩
        have own9 : w9.ownsRow w8.heap.size 5 1 s9 (mirG (turnG t)).c.length (cellsV (mirG (turnG t)).c) := own9'
        have hone9 := own_one own9
        have b1 := g9.blk b1
        have hb9 := b1
        have own := g9.row own
        have hE := hE.gr g9
        have gg := gg.trans g9
        have z9 := g9.size
        go_wp2_with (refine r_store_row 45 45 _ _ _ rfl (tg _ _ _) _ rfl b1 Tryd.tsize rfl (tg_one hone9) rfl ?_; intro w10 u10 b1'; have z10 := u10.size; have gg := u10.gr gg (by omega); clear b1; have b1 := b1'; clear b1'; obtain ⟨b1_0, b1_1, b1_2⟩ := tcells b1)
        have hs9 := u10.row own9 (own_ne own9 hb9 (by decide))
        have own := u10.row own (own_below own tB1)
        have hE := hE.upd hb9 (by decide) u10
        go_roundw
        case rel => exact ⟨k + 1, L ++ [(t, .slice (some ⟨G, 0, none⟩) t.c.length cap)], mirG (turnG t), s9, by omega, by go_num, by simp [hL], by rw [gridsV_snoc]; exact own, hE, b1, own_up hs9 (Nat.zero_le _), fun _ => by (rw [HTM.out, hL, H3.out]; exact move_four g ht.w1 ht.len), ⟨hG2.mir, th1, tw1⟩, by omega, gg⟩
        case measure => simp [intOf]; omega
      · have e3 : ((k : Int) == 3) = false := by rw [beq_eq_false_iff_ne]; omega
        have H3 := hidI h3
        clear h3
        go_wp2_with (first | (refine r_load_row 45 _ _ rfl _ _ _ b1 Tryd.underlying45 rfl Tryd.tinfo rfl ?_) | (refine r_slice1s 135 45 (.tmp 10) (.agg (tg t.w t.h (.slice (some ⟨G, 0, none⟩) t.c.length cap))) (tg t.w t.h (.slice (some ⟨G, 0, none⟩) t.c.length cap)) rfl (Tryd.bss1 t.w t.h (some ⟨G, 0, none⟩) t.c.length cap _) rfl ?_; intro w5 B5 N5; have g5 := N5.gr; have own5 := g5.row own; have b15 := g5.blk b1; have hst5 := g5.row hst; have hE5 := hE.gr g5; have gg5 := gg.trans g5; have z5 := g5.size) | (refine r_append (.tmp 9) (.tmp 11) 135 45 _ 3 40 w1.heap.size Tryd.gridsI _ k (gridsV L) rfl own5 ⟨B5, 0, none⟩ 1 1 [.int .i64 t.w, .int .i64 t.h, .slice (some ⟨G, 0, none⟩) t.c.length cap] rfl rfl (new3 N5) (by intro u hu; simp at hu; rcases hu with rfl | rfl | rfl <;> rfl) (by omega) (by decide) (by omega) rfl ?_; intro v6 w6 own6 g6; have b16 := g6.blk b15 (own_below own5 tB1); have b1 := b16; have hst6 := g6.row hst5 (own_ne2 hst5 own5 (by decide)); have hE6 := hE5.grb own5 (by decide) g6; have gg6 := g6.gr gg5 (own_gr own5 (by omega)); have z6 := g6.size))
        refine (tyTurn_any t.w t.h 0 t.c G cap _ tw1 th1 tw7 th7 t36 HTL.out hst6).mono ?_
        rintro e w7 ⟨g7, s7, rfl, own7'⟩
        have own7 : w7.ownsRow w6.heap.size 5 1 s7 (turnG t).c.length (cellsV (turnG t).c) := own7'
        have hone7 := own_one own7
        have b1 := g7.blk b16
        have own := g7.row own6
        have hE := (hE6.snoc HTM.out hst6).gr g7
        have gg := gg6.trans g7
        have z7 := g7.size
        have hG2 := hgt.turn
        go_wp2_with (refine r_store_row 45 45 _ _ _ rfl (tg _ _ _) _ rfl b1 Tryd.tsize rfl (tg_one hone7) rfl ?_; intro w8 u8 b1'; have z8 := u8.size; have gg := u8.gr gg (by omega); clear b1; have b1 := b1'; clear b1'; obtain ⟨b1_0, b1_1, b1_2⟩ := tcells b1)
        have hs7 := u8.row own7 (own_ne own7 (show Blk w7 B1 _ 45 from g7.blk b16) (by decide))
        have own := u8.row own (own_below own tB1)
        have hE := hE.upd (show Blk w7 B1 _ 45 from g7.blk b16) (by decide) u8
        go_roundw
        case rel => exact ⟨k + 1, L ++ [(t, .slice (some ⟨G, 0, none⟩) t.c.length cap)], turnG t, s7, by omega, by go_num, by simp [hL], by rw [gridsV_snoc]; exact own, hE, b1, own_up hs7 (Nat.zero_le _), fun h => by (rw [HTM.out, hL]; exact move_succ k g (by omega) H3.out), ⟨hG2, th1, tw1⟩, by omega, gg⟩
        case measure => simp [intOf]; omega
    · obtain rfl : k = 8 := by omega
      clear hlt
      go_wp2
      go_ret
      exact ⟨gg, _, L, rfl, hL, own_up own (Nat.zero_le _), hE⟩
theorem Tryd.gidx (R n cap k : Nat) (hk : k < n) (w : World) : (Instr.indexAt 135 (.slice (some ⟨R, 0, none⟩) n cap) (.int .i64 k)).run Tryd.prog w = .ok (.pointer (some ⟨R, k * 3, none⟩)) w := by
  have hu : Tryd.prog.underlying 135 = some (.slice (Tryd.prog.elem 135)) := by kernel_rfl
  have he : Tryd.prog.elem 135 = 45 := by kernel_rfl
  rw [run_indexAt_slice w 135 ⟨R, 0, none⟩ n cap .i64 k hu, if_pos (by omega), he]
  simp [Result.andThen, Addr.add]
  omega
theorem grid_range {w : World} {base : Nat} {e : TypeId} {R n cap k : Nat} {L : List (Grid × Value)} {p : Grid × Value} (hr : w.ownsRow base e 3 (.slice (some ⟨R, 0, none⟩) n cap) n (gridsV L)) (hn : L.length = n) (hp : L[k]? = some p) :
    w.rangeAt R (k * 3) [.int .i64 p.1.w, .int .i64 p.1.h, p.2] := by
  have hk : k < n := by
    rcases Nat.lt_or_ge k L.length with h | h
    · omega
    · rw [List.getElem?_eq_none h] at hp; cases hp
  obtain ⟨h0, h1, h2⟩ := gridsV_at L k p hp
  intro j v hj
  have hj3 : j = 0 ∨ j = 1 ∨ j = 2 := by
    rcases Nat.lt_or_ge j 3 with h | h
    · omega
    · rw [List.getElem?_eq_none (by simpa using h)] at hj; cases hj
  rcases hj3 with rfl | rfl | rfl
  · rw [hr.cellAt (k * 3 + 0) (by omega), show k * 3 + 0 = 3 * k by omega, h0]; exact hj
  · rw [hr.cellAt (k * 3 + 1) (by omega), show k * 3 + 1 = 3 * k + 1 by omega, h1]; exact hj
  · rw [hr.cellAt (k * 3 + 2) (by omega), show k * 3 + 2 = 3 * k + 2 by omega, h2]; exact hj
theorem Tray.good {g : Grid} (h : Tray g) : Good g := ⟨h.w7, h.h7, h.n36, .inl ⟨h.w1, h.h1⟩, h.len⟩
theorem turn_pos (g : Grid) (hw : 1 ≤ g.w) (hh : 1 ≤ g.h) (k : Nat) : 1 ≤ (turnN k g).w ∧ 1 ≤ (turnN k g).h := by
  induction k with
  | zero => exact ⟨hw, hh⟩
  | succ k ih => rw [turnN_succ]; exact ⟨ih.2, ih.1⟩
theorem move_pos (g : Grid) (hw : 1 ≤ g.w) (hh : 1 ≤ g.h) (k : Nat) : 1 ≤ (moveG k g).w ∧ 1 ≤ (moveG k g).h := by
  unfold moveG
  split
  · exact turn_pos (mirG g) hw hh _
  · exact turn_pos g hw hh _
set_option maxHeartbeats 4000000 in
set_option maxRecDepth 100000 in
theorem tyLeast_any (g : Grid) (sl : Value) (base : Nat) (w : World) (ht : Tray g) (hown : w.ownsRow base 5 1 sl g.c.length (cellsV g.c)) :
    Calls Tryd.prog 111 #[.agg (tg g.w g.h sl)] w (Ret (.string (leastTo g 8)) w) := by
  have gg := Gr.refl w
  have hw1 := ht.w1
  have hh1 := ht.h1
  have hw7 := ht.w7
  have hh7 := ht.h7
  have n36 := ht.n36
  have hlen := ht.len
  have hgood := ht.good
  go_enter Tryd.func111, Tryd.ntmps111
  go_wp2_with (first | (refine r_box 45 _ (tg (g.w) (g.h) (sl)) rfl rfl ?_; intro w1 B1 N1; have g1 := N1.gr; have b1 : Blk w1 B1 (tg (g.w) (g.h) (sl)) 45 := N1.blk; have l1 := N1.lo; have t1 := N1.hi; have z1 := g1.size; have gg := gg.trans g1; clear N1; obtain ⟨b1_0, b1_1, b1_2⟩ := tcells b1) | (refine r_load_row 45 _ _ rfl _ _ _ b1 Tryd.underlying45 rfl Tryd.tinfo rfl ?_) | (go_at_call 77; refine (tyText_n g.w g.h base g.c.length g.c sl _ hw1 hh1 hw7 hh7 n36 hlen rfl (g1.row hown)).mono ?_; rintro e w2 ⟨rfl, g2⟩; have z2 := g2.size; have b1 := g2.blk b1; have gg := gg.trans g2))
  refine (tyEight_any g sl base _ ht (g2.row (g1.row hown))).mono ?_
  rintro e w3 ⟨g3, v3, L, rfl, hL, own, hE⟩
  have gg := gg.trans g3
  obtain ⟨R, cap, rfl, -, -⟩ := own_shape own (by decide)
  go_wp2_with fail
  go_loopw [3, 5, 6, 12] (fun o _ _ i wr => ∃ k : Nat, k ≤ 8 ∧ i = .int .i64 k ∧ o = .string (leastTo g k) ∧ Gr w3 wr) (fun _ _ _ i _ => 8 - (intOf i).toNat)
  case atStart => exact ⟨0, by omega, rfl, rfl, Gr.refl w3⟩
  case round =>
    obtain ⟨k, hk, rfl, rfl, gr⟩ := hrel
    have gg := gg.trans gr
    have zg := gg.size
    by_cases hlt : k < 8
    · obtain ⟨p, hp⟩ : ∃ p, L[k]? = some p := ⟨L[k], List.getElem?_eq_getElem (by omega)⟩
      obtain ⟨hpm, hpo⟩ := hE.at' k p hp
      have hrange := gr.range (grid_range own hL hp)
      have hpo := gr.row hpo
      have hgm := hgood.move k
      have hps := move_pos g hw1 hh1 k
      obtain ⟨t, st⟩ := p
      have hpm' : t = moveG k g := hpm
      rw [← hpm'] at hgm hps
      obtain ⟨tw1, th1⟩ := hps
      have tw7 := hgm.w7
      have th7 := hgm.h7
      have t36 := hgm.n36
      have tlen := hgm.len
      have hone := own_one hpo
      have HM := hidI hpm'
      have HR := hidI hrange
      clear hpm hpm' hrange hgm
      have hll := minB_less (leastTo g k) (txtB t.w t.h t.c)
      have hls : leastTo g (k + 1) = minB (leastTo g k) (txtB t.w t.h t.c) := by rw [HM.out]; rfl
      rw [hll] at hls
      by_cases hb : Op.bytesLess (txtB t.w t.h t.c).toList (leastTo g k).toList = true
      · rw [if_pos hb] at hls
        have HS := hidI hls
        clear hls hll
        go_wp2_with (first | (refine r_val (.pointer (some ⟨R, k * 3, none⟩)) (e_val _ _ (Tryd.gidx R 8 cap k hlt _)) rfl ?_) | (refine r_load_mid 45 _ R (k * 3) [.int .i64 t.w, .int .i64 t.h, st] _ rfl HR.out Tryd.underlying45 rfl Tryd.tinfo rfl ?_) | (refine r_alloc 45 _ Tryd.tzero rfl ?_; intro w5 B5 N5; have g5 := N5.gr; have b5 : Blk w5 B5 (tg 0 0 (.slice none 0 0)) 45 := N5.blk; have l5 := N5.lo; have t5 := N5.hi; have z5 := g5.size; have gg := gg.trans g5; clear N5; obtain ⟨b5_0, b5_1, b5_2⟩ := tcells b5) | (refine r_store_row 45 45 _ _ _ rfl (tg _ _ _) _ rfl b5 Tryd.tsize rfl (tg_one hone) rfl ?_; intro w6 u6 b5'; have z6 := u6.size; have gg := u6.gr gg (by omega); clear b5; have b5 := b5'; clear b5'; obtain ⟨b5_0, b5_1, b5_2⟩ := tcells b5) | (refine r_load_row 45 _ _ rfl _ _ _ b5 Tryd.underlying45 rfl Tryd.tinfo rfl ?_) | (go_at_call 77; refine (tyText_n t.w t.h 0 t.c.length t.c st _ tw1 th1 tw7 th7 t36 tlen rfl (u6.row (g5.row hpo) (own_new hpo l5))).mono ?_; rintro e w9 ⟨rfl, g9⟩; have gr' := (u6.gr (gr.trans g5) (by have := gr.size; omega)).trans g9))
        go_roundw
        case rel => exact ⟨k + 1, by omega, by go_num, by rw [HS.out], gr'⟩
        case measure => simp [intOf]; omega
      · rw [if_neg hb] at hls
        have hb' : Op.bytesLess (txtB t.w t.h t.c).toList (leastTo g k).toList = false := by simpa using hb
        have HS := hidI hls
        clear hls hll hb
        go_wp2_with (first | (refine r_val (.pointer (some ⟨R, k * 3, none⟩)) (e_val _ _ (Tryd.gidx R 8 cap k hlt _)) rfl ?_) | (refine r_load_mid 45 _ R (k * 3) [.int .i64 t.w, .int .i64 t.h, st] _ rfl HR.out Tryd.underlying45 rfl Tryd.tinfo rfl ?_) | (refine r_alloc 45 _ Tryd.tzero rfl ?_; intro w5 B5 N5; have g5 := N5.gr; have b5 : Blk w5 B5 (tg 0 0 (.slice none 0 0)) 45 := N5.blk; have l5 := N5.lo; have t5 := N5.hi; have z5 := g5.size; have gg := gg.trans g5; clear N5; obtain ⟨b5_0, b5_1, b5_2⟩ := tcells b5) | (refine r_store_row 45 45 _ _ _ rfl (tg _ _ _) _ rfl b5 Tryd.tsize rfl (tg_one hone) rfl ?_; intro w6 u6 b5'; have z6 := u6.size; have gg := u6.gr gg (by omega); clear b5; have b5 := b5'; clear b5'; obtain ⟨b5_0, b5_1, b5_2⟩ := tcells b5) | (refine r_load_row 45 _ _ rfl _ _ _ b5 Tryd.underlying45 rfl Tryd.tinfo rfl ?_) | (go_at_call 77; refine (tyText_n t.w t.h 0 t.c.length t.c st _ tw1 th1 tw7 th7 t36 tlen rfl (u6.row (g5.row hpo) (own_new hpo l5))).mono ?_; rintro e w9 ⟨rfl, g9⟩; have gr' := (u6.gr (gr.trans g5) (by have := gr.size; omega)).trans g9))
        go_roundw
        case rel => exact ⟨k + 1, by omega, by go_num, by rw [HS.out], gr'⟩
        case measure => simp [intOf]; omega
    · obtain rfl : k = 8 := by omega
      clear hlt
      go_wp2
      go_ret
      exact ⟨rfl, gg⟩
end Go.Proofs.YtagoipongdnegaaDoor
namespace Go.Proofs.YtagoipongdnegaaDoor
open Go.RowKit
def jtB (a b : ByteArray) : ByteArray := (a ++ ⟨#[47]⟩) ++ b
theorem jtB_data (a b : ByteArray) : (jtB a b).data.toList = a.data.toList ++ 47 :: b.data.toList := by
  unfold jtB
  rw [ByteArray.data_append, ByteArray.data_append]
  simp
theorem jtB_size (a b : ByteArray) : (jtB a b).size = a.size + 1 + b.size := by
  unfold jtB
  rw [ByteArray.size_append, ByteArray.size_append]
  rfl
def jtOk (a b : ByteArray) : Bool := rdOk a.data.toList && rdOk b.data.toList && rdOk (jtB a b).data.toList
def jtS (a b : ByteArray) : ByteArray := if jtOk a b then jtB a b else ⟨#[]⟩
theorem jt_bad {a b : ByteArray} (h : jtOk a b = false) : jtS a b = ⟨#[]⟩ := by unfold jtS; rw [h]; rfl
theorem jt_if {a b : ByteArray} (h1 : rdOk a.data.toList = true) (h2 : rdOk b.data.toList = true) : ifB (jtB a b) = jtS a b ∧ rdOk (jtB a b).data.toList = jtOk a b := by
  have e : jtOk a b = rdOk (jtB a b).data.toList := by unfold jtOk; rw [h1, h2]; rfl
  unfold ifB jtS
  rw [e]
  exact ⟨rfl, rfl⟩
theorem join_text {l m : List UInt8} {g k : Grid} (h1 : parse l = some g) (h2 : parse m = some k) (hw : g.w = k.w) : txtL g.w (g.c ++ k.c) (g.h + k.h) = l ++ 47 :: m := by
  obtain ⟨a1, b1, c1⟩ := parse_some h1
  obtain ⟨a2, b2, c2⟩ := parse_some h2
  have hp := pieces_slash l m
  have hr : ∀ r ∈ pieces l ++ pieces m, r.length = g.w := by
    intro r hr
    rcases List.mem_append.1 hr with h | h
    · exact a1.rows r h
    · rw [hw]; exact a2.rows r h
  have e := rows_flatten hr
  rw [List.flatten_append, List.length_append, ← c1, ← c2, ← b1, ← b2] at e
  unfold txtL
  rw [e, ← hp, join_pieces]
theorem join_none {l m : List UInt8} {g k : Grid} (h1 : parse l = some g) (h2 : parse m = some k) (hw : g.w ≠ k.w) : rdOk (l ++ 47 :: m) = false := by
  obtain ⟨a1, b1, c1⟩ := parse_some h1
  obtain ⟨a2, b2, c2⟩ := parse_some h2
  refine (rd_none fun w h => ?_).2
  rw [pieces_slash] at h
  have n1 := pieces_ne l
  have n2 := pieces_ne m
  obtain ⟨r1, hr1⟩ := List.exists_mem_of_ne_nil _ n1
  obtain ⟨r2, hr2⟩ := List.exists_mem_of_ne_nil _ n2
  have e1 := h.rows r1 (List.mem_append_left _ hr1)
  have e2 := h.rows r2 (List.mem_append_right _ hr2)
  rw [a1.rows r1 hr1] at e1
  rw [a2.rows r2 hr2] at e2
  omega
theorem rd_size {s : ByteArray} (h : rdOk s.data.toList = true) : s.size ≤ 42 := by
  rcases rd_cases s.data.toList with ⟨_, _, hk⟩ | ⟨g, hp, _, _⟩
  · rw [hk] at h; cases h
  · have := parse_len hp
    rwa [Array.length_toList] at this
theorem own_news {w : World} {base : Nat} {e : TypeId} {g n cap : Nat} {c : List UInt8} (hr : w.ownsRow base e 1 (.slice (some ⟨g, 0, none⟩) n cap) n (cellsV c)) (hn : n = c.length) :
    ∀ (j : Nat) u, (cellsV c)[j]? = some u → w.cell? ((⟨g, 0, none⟩ : Addr).add j) = some u := by
  intro j u hj
  have hjl : j < c.length := by
    rcases Nat.lt_or_ge j c.length with h | h
    · exact h
    · rw [List.getElem?_eq_none (by simpa [cellsV] using h)] at hj; cases hj
  have h1 := own_cell hr j hjl hn
  unfold cellsV at hj
  rw [List.getElem?_map, List.getElem?_eq_getElem hjl] at hj
  have e : byteV c[j] = u := by simpa using hj
  have e2 : at0 c j = c[j] := by unfold at0; simp [List.getD, hjl]
  rw [e2] at h1
  subst e
  have e3 : (⟨g, 0, none⟩ : Addr).add j = ⟨g, j, none⟩ := by
    simp [Addr.add]
    exact fun h => h.symm
  rw [e3]
  exact h1
theorem own_apart' {w1 w2 : World} {b1 b2 : Nat} {e1 e2 : TypeId} {s1 s2 : Nat} {v1 v2 : Value} {n1 n2 : Nat} {x1 x2 : List Value} (h1 : w1.ownsRow b1 e1 s1 v1 n1 x1) (h2 : w2.ownsRow b2 e2 s2 v2 n2 x2) (hb : w1.heap.size ≤ b2) : v1.ownBlock = none ∨ v1.ownBlock ≠ v2.ownBlock := by
  cases h : v1.ownBlock with
  | none => exact .inl rfl
  | some k =>
    refine .inr fun e => ?_
    have a := (h1.lt k h).2
    have b := (h2.lt k e.symm).1
    omega
section
variable {P : Program} {w : World} {ops : Array Oper} {rest : List Oper} {a : Act} {Q : Exit → Act → World → Prop} {dst : Option Tmp} {ty : TypeId} {pos : String} {aft : Array Edge} {gd : Option (Nat × Bool)}
/-- A call under a contract. -/
theorem r_call (f : FuncId) (xs : List Operand) (ts : Array TypeId) (vs : List Value) (v : Value) (Post : World → Prop) (hcf : ∀ args w, (callFunc f args).run P w = .ok (.enter f args) w) (hvs : xs.map a.eval = vs)
    (hgd : Region.wanted ⟨dst, .call { callee := .value (.func f), args := xs.toArray, argTypes := ts }, ty, pos, aft, gd⟩ (yielded ops a.tmps) = true)
    (hc : Calls P f vs.toArray w fun e w' => e = .returned v ∧ Post w')
    (h : ∀ w', Post w' → wpList P ops Q rest (a.put dst v) w') : wpList P ops Q (⟨dst, .call { callee := .value (.func f), args := xs.toArray, argTypes := ts }, ty, pos, aft, gd⟩ :: rest) a w :=
  wpList_want hgd fun _ hK => by
    have e : (execOp a.eval ⟨dst, .call { callee := .value (.func f), args := xs.toArray, argTypes := ts }, ty, pos, aft, gd⟩).run P w = .ok (.enter f vs.toArray) w := by
      unfold execOp resolve
      simp only [List.map_toArray, hvs, Act.eval, Deferred.ofValue, Sem.run_bind, Sem.run_pure, Result.andThen_ok, invoke, Array.append_empty, Array.empty_append]
      exact hcf _ _
    unfold Oper.wp
    rw [e]
    exact hc.mono fun e w'' ⟨he, hp⟩ => by
      subst he
      exact hK _ _ (h _ hp)
end
end Go.Proofs.YtagoipongdnegaaDoor
