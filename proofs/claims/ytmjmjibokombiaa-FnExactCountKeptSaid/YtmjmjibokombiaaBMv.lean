/-
  The eight moves of a tray in the program, and the first one of their texts.
  The eight moves of a tray in the model, the first one of their texts, and the law.
  One tray above another: in the program and in the model, and the law.
-/
import Derived.Test.YtmjmjibokombiaaBTxt
import Derived.Test.YtmjmjibokombiaaBIm
import Derived.Sort.Walk0
import Derived.Test.YtmjmjibokombiaaBLs
import Derived.Deep.MidRow
namespace Go.Proofs.Ytmjmjibokombiaa
open Go.RowKit
/-- What the program's grids are, those of no tray among them. -/
structure Good (g : Grid) : Prop where
  w7 : g.w ≤ 7
  h7 : g.h ≤ 7
  n36 : nn g.w g.h ≤ 36
  both : (1 ≤ g.w ∧ 1 ≤ g.h) ∨ (g.w = 0 ∧ g.h = 0)
  len : g.c.length = nn g.w g.h
def turnG (g : Grid) : Grid := ⟨g.h, g.w, tuS g.w g.h g.c⟩
theorem turnN_succ (k : Nat) (g : Grid) : turnN (k + 1) g = turnG (turnN k g) := rfl
theorem Good.turn {g : Grid} (h : Good g) : Good (turnG g) :=
  ⟨h.h7, h.w7, by show nn g.h g.w ≤ 36; rw [nn_comm]; exact h.n36, by have := h.both; show (1 ≤ g.h ∧ 1 ≤ g.w) ∨ (g.h = 0 ∧ g.w = 0); omega, by show (tuS g.w g.h g.c).length = nn g.h g.w; rw [tuS_length, nn_comm]⟩
theorem Good.mir {g : Grid} (h : Good g) : Good (mirG g) := ⟨h.w7, h.h7, h.n36, h.both, miC_length _ _ _⟩
theorem Good.turnN {g : Grid} (h : Good g) (k : Nat) : Good (turnN k g) := by
  induction k with
  | zero => exact h
  | succ k ih => rw [turnN_succ]; exact ih.turn
/-- The move k: turned, and mirrored first from 4 on. -/
def moveG (k : Nat) (g : Grid) : Grid := turnN (k % 4) (if 4 ≤ k then mirG g else g)
theorem Good.move {g : Grid} (h : Good g) (k : Nat) : Good (moveG k g) := by
  unfold moveG
  split
  · exact h.mir.turnN _
  · exact h.turnN _
theorem rd_good (l : List UInt8) : Good (rdG l) := by
  have h := rd_small l
  exact ⟨h.w7, h.h7, h.n36, rd_both l, h.len⟩
def txtG (g : Grid) : ByteArray := txtB g.w g.h g.c
/-- The lesser one of two texts. -/
def minB (a b : ByteArray) : ByteArray := if Op.bytesLess a.toList b.toList || a.toList == b.toList then a else b
theorem minB_less (a b : ByteArray) : minB a b = if Op.bytesLess b.toList a.toList then b else a := by
  unfold minB
  rw [bytesLess_eq, bytesLess_eq]
  by_cases h1 : b.toList < a.toList
  · have h2 : ¬ a.toList < b.toList := fun h => List.lt_irrefl _ (List.lt_trans h1 h)
    have h3 : ¬ a.toList = b.toList := fun e => by rw [e] at h1; exact List.lt_irrefl _ h1
    have h4 : (a.toList == b.toList) = false := by rw [beq_eq_false_iff_ne]; exact h3
    rw [decide_eq_true h1, decide_eq_false h2, h4]
    rfl
  · rw [decide_eq_false h1]
    by_cases h2 : a.toList < b.toList
    · rw [decide_eq_true h2]; rfl
    · have h3 : a.toList = b.toList := List.le_antisymm (List.not_lt.1 h1) (List.not_lt.1 h2)
      have h4 : (a.toList == b.toList) = true := by rw [beq_iff_eq]; exact h3
      rw [decide_eq_false h2, h4]
      have : a = b := by
        rw [Lib.toList_data, Lib.toList_data] at h3
        exact ByteArray.ext (Array.toList_inj.1 h3)
      subst this
      rfl
/-- The least text of the first k moves, and of the grid itself. -/
def leastTo (g : Grid) : Nat → ByteArray
  | 0 => txtG g
  | k + 1 => minB (leastTo g k) (txtG (moveG k g))
def leB (l : List UInt8) : ByteArray := leastTo (rdG l) 8
set_option maxHeartbeats 2000000 in
set_option maxRecDepth 100000 in
theorem movedBy_any (k : Nat) (g : Grid) (w : World) (hg : Good g) (hk : k < 8) : Calls Try.prog 30 #[.agg (gvG g), .int .i64 k] w (Ret (.agg (gvG (moveG k g))) w) := by
  have gg := Gr.refl w
  unfold gvG
  by_cases h4 : 4 ≤ k
  · have hgm := hg.mir
    have HF := hidI (show moveG k g = turnN (k % 4) (mirG g) from by unfold moveG; rw [if_pos h4])
    have hw1 : 1 ≤ g.w ∨ g.h = 0 := by have := hg.both; omega
    have hw7 := hg.w7
    have hh7 := hg.h7
    have n36 := hg.n36
    have hlen := hg.len
    go_enter Try.func30, Try.ntmps30
    go_wp2_with (first | (refine r_box 55 _ (gv g.w g.h g.c) rfl rfl ?_; intro w1 B1 N1; have g1 := N1.gr; have b1 : Blk w1 B1 (gv g.w g.h g.c) 55 := N1.blk; have l1 := N1.lo; have t1 := N1.hi; have z1 := g1.size; have gg := gg.trans g1; clear N1; obtain ⟨b1_0, b1_1, b1_2⟩ := gcells b1) | (refine r_alloc 55 _ Try.gzero rfl ?_; intro w2 B2 N2; have g2 := N2.gr; have b2 : Blk w2 B2 (gv 0 0 []) 55 := N2.blk; have l2 := N2.lo; have t2 := N2.hi; have z2 := g2.size; have b1 := g2.blk b1; have gg := gg.trans g2; clear N2; obtain ⟨b2_0, b2_1, b2_2⟩ := gcells b2) | (refine r_load_row 55 _ _ rfl _ _ _ b1 Try.underlying55 rfl (Try.ginfo' _ _ _) rfl ?_) | (go_at_call 31; refine (mirrored_any g.w g.h g.c _ hw1 hw7 hh7 n36 hlen).mono ?_; rintro e w3 ⟨rfl, g3⟩; have z3 := g3.size; have b1 := g3.blk b1; have b2 := g3.blk b2; have gg := gg.trans g3) | (refine r_store_row 55 55 _ _ _ rfl (gv g.w g.h (miC g.w g.h g.c)) _ rfl b1 (Try.gsize' _ _ _) (by simp only [gv_size]) (gv_one _ _ _) rfl ?_; intro w4 u4 b1'; have z4 := u4.size; have gg := u4.gr gg (by omega); have b2 := u4.blk b2 (by omega); clear b1; have b1 := b1'; clear b1'; obtain ⟨b1_0, b1_1, b1_2⟩ := gcells b1))
    go_loopw [11] (fun i wr => ∃ j : Nat, j ≤ k % 4 ∧ i = .int .i64 j ∧ Blk wr B1 (gvG (turnN j (mirG g))) 55 ∧ Blk wr B2 (gv 0 0 []) 55 ∧ Gr w wr) (fun i _ => k % 4 - (intOf i).toNat)
    case atStart => exact ⟨0, Nat.zero_le _, rfl, b1, b2, gg⟩
    case round =>
      obtain ⟨j, hj, rfl, b1, b2, gg⟩ := hrel
      have hB12 : B1 < B2 := by omega
      have lo1 : w.heap.size ≤ B1 := by omega
      have ht := hgm.turnN j
      have HS := hidI (turnN_succ j (mirG g))
      obtain ⟨t, hte⟩ : ∃ t, t = turnN j (mirG g) := ⟨_, rfl⟩
      rw [← hte] at b1 ht HS
      have HT := hidI hte
      clear hte
      have tw7 := ht.w7
      have th7 := ht.h7
      have t36 := ht.n36
      have tlen := ht.len
      have th1 : 1 ≤ t.h ∨ t.w = 0 := by have := ht.both; omega
      unfold gvG at b1
      by_cases hlt : j < k % 4
      · go_wp2_with (first | (refine r_load_row 55 _ _ rfl _ _ _ b1 Try.underlying55 rfl (Try.ginfo' _ _ _) rfl ?_) | (go_at_call 32; refine (turned_any t.w t.h t.c _ th1 tw7 th7 t36 tlen).mono ?_; rintro e w5 ⟨rfl, g5⟩; have z5 := g5.size; have b1 := g5.blk b1; have b2 := g5.blk b2; have gg := gg.trans g5) | (refine r_store_row 55 55 _ _ _ rfl (gv t.h t.w (tuS t.w t.h t.c)) _ rfl b1 (Try.gsize' _ _ _) (by simp only [gv_size]) (gv_one _ _ _) rfl ?_; intro w6 u6 b1'; have z6 := u6.size; have gg := u6.gr gg (by omega); have b2 := u6.blk b2 (by omega); clear b1; have b1 := b1'; clear b1'; obtain ⟨b1_0, b1_1, b1_2⟩ := gcells b1))
        go_roundw
        case rel => exact ⟨j + 1, by omega, by go_num, by rw [HS.out]; exact b1, b2, gg⟩
        case measure => simp [intOf]; omega
      · obtain rfl : j = k % 4 := by omega
        clear hlt
        go_wp2_with (first | (refine r_load_row 55 _ _ rfl _ _ _ b1 Try.underlying55 rfl (Try.ginfo' _ _ _) rfl ?_) | (refine r_store_row 55 55 _ _ _ rfl (gv t.w t.h t.c) _ rfl b2 (Try.gsize' _ _ _) (by simp only [gv_size]) (gv_one _ _ _) rfl ?_; intro w8 u8 b2'; have z8 := u8.size; have gg := u8.gr gg (by omega); clear b2; have b2 := b2'; clear b2'; obtain ⟨b2_0, b2_1, b2_2⟩ := gcells b2))
        refine bodyPost_ret (results_row rfl _ _ _ _ _ _ rfl b2 Try.underlying55 rfl (Try.ginfo' _ _ _)) rfl ⟨?_, gg⟩
        rw [HF.out, ← HT.out]
  · have HF := hidI (show moveG k g = turnN (k % 4) g from by unfold moveG; rw [if_neg h4])
    have h4' : k < 4 := by omega
    clear h4
    go_enter Try.func30, Try.ntmps30
    go_wp2_with (first | (refine r_box 55 _ (gv g.w g.h g.c) rfl rfl ?_; intro w1 B1 N1; have g1 := N1.gr; have b1 : Blk w1 B1 (gv g.w g.h g.c) 55 := N1.blk; have l1 := N1.lo; have t1 := N1.hi; have z1 := g1.size; have gg := gg.trans g1; clear N1; obtain ⟨b1_0, b1_1, b1_2⟩ := gcells b1) | (refine r_alloc 55 _ Try.gzero rfl ?_; intro w2 B2 N2; have g2 := N2.gr; have b2 : Blk w2 B2 (gv 0 0 []) 55 := N2.blk; have l2 := N2.lo; have t2 := N2.hi; have z2 := g2.size; have b1 := g2.blk b1; have gg := gg.trans g2; clear N2; obtain ⟨b2_0, b2_1, b2_2⟩ := gcells b2))
    go_loopw [11] (fun i wr => ∃ j : Nat, j ≤ k % 4 ∧ i = .int .i64 j ∧ Blk wr B1 (gvG (turnN j g)) 55 ∧ Blk wr B2 (gv 0 0 []) 55 ∧ Gr w wr) (fun i _ => k % 4 - (intOf i).toNat)
    case atStart => exact ⟨0, Nat.zero_le _, rfl, b1, b2, gg⟩
    case round =>
      obtain ⟨j, hj, rfl, b1, b2, gg⟩ := hrel
      have hB12 : B1 < B2 := by omega
      have lo1 : w.heap.size ≤ B1 := by omega
      have ht := hg.turnN j
      have HS := hidI (turnN_succ j g)
      obtain ⟨t, hte⟩ : ∃ t, t = turnN j g := ⟨_, rfl⟩
      rw [← hte] at b1 ht HS
      have HT := hidI hte
      clear hte
      have tw7 := ht.w7
      have th7 := ht.h7
      have t36 := ht.n36
      have tlen := ht.len
      have th1 : 1 ≤ t.h ∨ t.w = 0 := by have := ht.both; omega
      unfold gvG at b1
      by_cases hlt : j < k % 4
      · go_wp2_with (first | (refine r_load_row 55 _ _ rfl _ _ _ b1 Try.underlying55 rfl (Try.ginfo' _ _ _) rfl ?_) | (go_at_call 32; refine (turned_any t.w t.h t.c _ th1 tw7 th7 t36 tlen).mono ?_; rintro e w5 ⟨rfl, g5⟩; have z5 := g5.size; have b1 := g5.blk b1; have b2 := g5.blk b2; have gg := gg.trans g5) | (refine r_store_row 55 55 _ _ _ rfl (gv t.h t.w (tuS t.w t.h t.c)) _ rfl b1 (Try.gsize' _ _ _) (by simp only [gv_size]) (gv_one _ _ _) rfl ?_; intro w6 u6 b1'; have z6 := u6.size; have gg := u6.gr gg (by omega); have b2 := u6.blk b2 (by omega); clear b1; have b1 := b1'; clear b1'; obtain ⟨b1_0, b1_1, b1_2⟩ := gcells b1))
        go_roundw
        case rel => exact ⟨j + 1, by omega, by go_num, by rw [HS.out]; exact b1, b2, gg⟩
        case measure => simp [intOf]; omega
      · obtain rfl : j = k % 4 := by omega
        clear hlt
        go_wp2_with (first | (refine r_load_row 55 _ _ rfl _ _ _ b1 Try.underlying55 rfl (Try.ginfo' _ _ _) rfl ?_) | (refine r_store_row 55 55 _ _ _ rfl (gv t.w t.h t.c) _ rfl b2 (Try.gsize' _ _ _) (by simp only [gv_size]) (gv_one _ _ _) rfl ?_; intro w8 u8 b2'; have z8 := u8.size; have gg := u8.gr gg (by omega); clear b2; have b2 := b2'; clear b2'; obtain ⟨b2_0, b2_1, b2_2⟩ := gcells b2))
        refine bodyPost_ret (results_row rfl _ _ _ _ _ _ rfl b2 Try.underlying55 rfl (Try.ginfo' _ _ _)) rfl ⟨?_, gg⟩
        rw [HF.out, ← HT.out]
end Go.Proofs.Ytmjmjibokombiaa
namespace Go.Proofs.Ytmjmjibokombiaa
open Go.RowKit
theorem move_succ (k : Nat) (g : Grid) (hk : k < 7) (h3 : k ≠ 3) : turnG (moveG k g) = moveG (k + 1) g := by
  have h : k = 0 ∨ k = 1 ∨ k = 2 ∨ k = 4 ∨ k = 5 ∨ k = 6 := by omega
  rcases h with rfl | rfl | rfl | rfl | rfl | rfl <;> rfl
theorem move_four (g : Grid) (hw : 1 ≤ g.w) (hl : g.c.length = nn g.w g.h) : mirG (turnG (moveG 3 g)) = moveG 4 g := by
  have h4 : turnG (moveG 3 g) = g := by
    obtain ⟨w, h, c⟩ := g
    show Grid.mk w h (tuS h w (tuS w h (tuS h w (tuS w h c)))) = _
    rw [tuS_four hw hl]
  rw [h4]
  rfl
/-- The cells of a list of the model's grids. -/
def gridsV (L : List (Grid × Value)) : List Value := L.flatMap fun p => [.int .i64 p.1.w, .int .i64 p.1.h, p.2]
theorem gridsV_snoc (L : List (Grid × Value)) (g : Grid) (s : Value) : gridsV (L ++ [(g, s)]) = gridsV L ++ [.int .i64 g.w, .int .i64 g.h, s] := by
  unfold gridsV; simp
theorem gridsV_length (L : List (Grid × Value)) : (gridsV L).length = L.length * 3 := by
  induction L with
  | nil => rfl
  | cons p L ih =>
    have : gridsV (p :: L) = [.int .i64 p.1.w, .int .i64 p.1.h, p.2] ++ gridsV L := rfl
    rw [this, List.length_append, ih, List.length_cons]
    show 3 + L.length * 3 = (L.length + 1) * 3
    omega
theorem gridsV_at (L : List (Grid × Value)) (i : Nat) (p : Grid × Value) (h : L[i]? = some p) : (gridsV L)[3 * i]? = some (.int .i64 p.1.w) ∧ (gridsV L)[3 * i + 1]? = some (.int .i64 p.1.h) ∧ (gridsV L)[3 * i + 2]? = some p.2 := by
  induction L generalizing i with
  | nil => cases h
  | cons q L ih =>
    have e : gridsV (q :: L) = .int .i64 q.1.w :: .int .i64 q.1.h :: q.2 :: gridsV L := rfl
    rw [e]
    cases i with
    | zero =>
      obtain rfl : q = p := by simpa using h
      exact ⟨rfl, rfl, rfl⟩
    | succ i =>
      have h' : L[i]? = some p := by simpa using h
      have := ih i h'
      rw [show 3 * (i + 1) = 3 * i + 3 by omega]
      simpa using this
theorem own_ne2 {w : World} {b1 b2 : Nat} {e1 e2 : TypeId} {s1 s2 : Nat} {v1 v2 : Value} {n1 n2 : Nat} {x1 x2 : List Value} (h1 : w.ownsRow b1 e1 s1 v1 n1 x1) (h2 : w.ownsRow b2 e2 s2 v2 n2 x2) (he : e1 ≠ e2) : v1.ownBlock = none ∨ v1.ownBlock ≠ v2.ownBlock := by
  obtain ⟨_, ⟨rfl, _⟩ | ⟨g, cap, cur, rfl, _, hg, _⟩⟩ := h1
  · exact .inl rfl
  · obtain ⟨_, ⟨rfl, _⟩ | ⟨g', cap', cur', rfl, _, hg', _⟩⟩ := h2
    · exact .inr fun h => by cases h
    · refine .inr fun h => ?_
      obtain rfl : g = g' := by simpa [Value.ownBlock] using h
      rw [hg] at hg'
      cases hg'
      exact he rfl
section
variable {P : Program} {w : World} {ops : Array Oper} {rest : List Oper} {a : Act} {Q : Exit → Act → World → Prop} {dst : Option Tmp} {ty : TypeId} {pos : String} {aft : Array Edge} {gd : Option (Nat × Bool)}
/-- A slice of one element of several cells, written out. -/
theorem r_slice1s (t e : TypeId) (x : Operand) (u : Value) (cs : Array Value) (hx : a.eval x = u)
    (hr : (Instr.buildSlice t 1 #[(0, u)]).run P w = .ok (.slice (some ⟨w.heap.size, 0, none⟩) 1 1) (w.alloc (.cells cs e)))
    (hgd : Region.wanted ⟨dst, .buildSlice t 1 #[(0, x)], ty, pos, aft, gd⟩ (yielded ops a.tmps) = true)
    (h : ∀ w1 B, New w w1 B cs e → wpList P ops Q rest (a.put dst (.slice (some ⟨B, 0, none⟩) 1 1)) w1) :
    wpList P ops Q (⟨dst, .buildSlice t 1 #[(0, x)], ty, pos, aft, gd⟩ :: rest) a w :=
  wpList_want hgd fun _ hK => by
    unfold Oper.wp execOp
    simp only [List.map_toArray, List.map_cons, List.map_nil, hx, Sem.run_bind, hr, Result.andThen_ok, Sem.run_pure, Oper.upon]
    exact hK _ _ (h _ _ (New.mk' w _ e))
theorem new3 {w w1 : World} {B : Nat} {x y z : Value} {e : TypeId} (h : New w w1 B #[x, y, z] e) : ∀ (j : Nat) v, [x, y, z][j]? = some v → w1.cell? ((⟨B, 0, none⟩ : Addr).add j) = some v := by
  intro j v hj
  have e3 : (⟨B, 0, none⟩ : Addr).add j = ⟨B, j, none⟩ := by
    simp [Addr.add]
    exact fun h => h.symm
  rw [e3, Blk.cell h.blk j]
  simpa using hj
/-- A struct loaded out of a row. -/
theorem r_load_mid (T : TypeId) (x : Operand) (b o : Nat) (cs : List Value) (d : TypeDesc) (hx : a.eval x = .pointer (some ⟨b, o, none⟩)) (hc : w.rangeAt b o cs)
    (hu : P.underlying T = some d) (hd : d.isRow = true) (hi : (P.info? T).map (·.size) = some cs.length)
    (hgd : Region.wanted ⟨dst, .load T x, ty, pos, aft, gd⟩ (yielded ops a.tmps) = true) (h : wpList P ops Q rest (a.put dst (.agg cs.toArray)) w) : wpList P ops Q (⟨dst, .load T x, ty, pos, aft, gd⟩ :: rest) a w :=
  wpList_want hgd fun _ hK => by
    unfold Oper.wp execOp Instr.loadAt
    simp only [hx, Instr.sureAddr, Sem.run_bind, Sem.run_pure, Result.andThen_ok, run_loadVar_mid w b o T cs d hc hu hd hi, Oper.upon]
    exact hK _ _ h
end
theorem Gr.range {w w' : World} (h : Gr w w') {b o : Nat} {cs : List Value} (hr : w.rangeAt b o cs) : w'.rangeAt b o cs := fun j v hj => h.cell (hr j v hj)
/-- The eight moves as the model has them: each grid's cells in a row. -/
structure Eights (T : TypeId) (g : Grid) (L : List (Grid × Value)) (w : World) : Prop where
  at' : ∀ i p, L[i]? = some p → p.1 = moveG i g ∧ w.ownsRow 0 T 1 p.2 p.1.c.length (cellsV p.1.c)
theorem Eights.gr {T : TypeId} {g : Grid} {L : List (Grid × Value)} {w w' : World} (h : Eights T g L w) (hg : Gr w w') : Eights T g L w' :=
  ⟨fun i p hp => ⟨(h.at' i p hp).1, hg.row (h.at' i p hp).2⟩⟩
theorem Eights.grb {T e : TypeId} {g : Grid} {L : List (Grid × Value)} {w w' : World} {b s n : Nat} {v : Value} {xs : List Value} (h : Eights T g L w) (ho : w.ownsRow b e s v n xs) (he : T ≠ e) (hg : Grb v.ownBlock w w') : Eights T g L w' :=
  ⟨fun i p hp => ⟨(h.at' i p hp).1, hg.row (h.at' i p hp).2 (own_ne2 (h.at' i p hp).2 ho he)⟩⟩
theorem Eights.upd {T T' : TypeId} {g : Grid} {L : List (Grid × Value)} {w w' : World} {B : Nat} {cs : Array Value} (h : Eights T g L w) (hb : Blk w B cs T') (hT : T' ≠ T) (hu : Upd B w w') : Eights T g L w' :=
  ⟨fun i p hp => ⟨(h.at' i p hp).1, hu.row (h.at' i p hp).2 (own_ne (h.at' i p hp).2 hb hT)⟩⟩
theorem Eights.snoc {T : TypeId} {g : Grid} {L : List (Grid × Value)} {w : World} {t : Grid} {s : Value} (h : Eights T g L w) (ht : t = moveG L.length g) (ho : w.ownsRow 0 T 1 s t.c.length (cellsV t.c)) : Eights T g (L ++ [(t, s)]) w :=
  ⟨fun i p hp => by
    rcases Nat.lt_trichotomy i L.length with hi | hi | hi
    · rw [List.getElem?_append_left hi] at hp
      exact h.at' i p hp
    · subst hi
      rw [List.getElem?_append_right (Nat.le_refl _), Nat.sub_self] at hp
      obtain rfl : (t, s) = p := by simpa using hp
      exact ⟨ht, ho⟩
    · rw [List.getElem?_eq_none (by simp; omega)] at hp
      cases hp⟩
end Go.Proofs.Ytmjmjibokombiaa
namespace Go.Proofs.Ytmjmjibokombiaa
open Go.RowKit
def jtB (a b : ByteArray) : ByteArray := (a ++ ⟨#[47]⟩) ++ b
theorem jtB_data (a b : ByteArray) : (jtB a b).data.toList = a.data.toList ++ 47 :: b.data.toList := by
  unfold jtB
  rw [ByteArray.data_append, ByteArray.data_append]
  simp
theorem jtB_size (a b : ByteArray) : (jtB a b).size = a.size + 1 + b.size := by
  unfold jtB
  rw [ByteArray.size_append, ByteArray.size_append]
  rfl
def jtOk (a b : ByteArray) : Bool := rdOk a.data.toList && rdOk b.data.toList && rdOk (jtB a b).data.toList
def jtS (a b : ByteArray) : ByteArray := if jtOk a b then jtB a b else ⟨#[]⟩
theorem jt_bad {a b : ByteArray} (h : jtOk a b = false) : jtS a b = ⟨#[]⟩ := by unfold jtS; rw [h]; rfl
theorem jt_if {a b : ByteArray} (h1 : rdOk a.data.toList = true) (h2 : rdOk b.data.toList = true) : ifB (jtB a b) = jtS a b ∧ rdOk (jtB a b).data.toList = jtOk a b := by
  have e : jtOk a b = rdOk (jtB a b).data.toList := by unfold jtOk; rw [h1, h2]; rfl
  unfold ifB jtS
  rw [e]
  exact ⟨rfl, rfl⟩
theorem join_text {l m : List UInt8} {g k : Grid} (h1 : parse l = some g) (h2 : parse m = some k) (hw : g.w = k.w) : txtL g.w (g.c ++ k.c) (g.h + k.h) = l ++ 47 :: m := by
  obtain ⟨a1, b1, c1⟩ := parse_some h1
  obtain ⟨a2, b2, c2⟩ := parse_some h2
  have hp := pieces_slash l m
  have hr : ∀ r ∈ pieces l ++ pieces m, r.length = g.w := by
    intro r hr
    rcases List.mem_append.1 hr with h | h
    · exact a1.rows r h
    · rw [hw]; exact a2.rows r h
  have e := rows_flatten hr
  rw [List.flatten_append, List.length_append, ← c1, ← c2, ← b1, ← b2] at e
  unfold txtL
  rw [e, ← hp, join_pieces]
theorem join_none {l m : List UInt8} {g k : Grid} (h1 : parse l = some g) (h2 : parse m = some k) (hw : g.w ≠ k.w) : rdOk (l ++ 47 :: m) = false := by
  obtain ⟨a1, b1, c1⟩ := parse_some h1
  obtain ⟨a2, b2, c2⟩ := parse_some h2
  refine (rd_none fun w h => ?_).2
  rw [pieces_slash] at h
  have n1 := pieces_ne l
  have n2 := pieces_ne m
  obtain ⟨r1, hr1⟩ := List.exists_mem_of_ne_nil _ n1
  obtain ⟨r2, hr2⟩ := List.exists_mem_of_ne_nil _ n2
  have e1 := h.rows r1 (List.mem_append_left _ hr1)
  have e2 := h.rows r2 (List.mem_append_right _ hr2)
  rw [a1.rows r1 hr1] at e1
  rw [a2.rows r2 hr2] at e2
  omega
theorem rd_size {s : ByteArray} (h : rdOk s.data.toList = true) : s.size ≤ 42 := by
  rcases rd_cases s.data.toList with ⟨_, _, hk⟩ | ⟨g, hp, _, _⟩
  · rw [hk] at h; cases h
  · have := parse_len hp
    rwa [Array.length_toList] at this
theorem own_news {w : World} {base : Nat} {e : TypeId} {g n cap : Nat} {c : List UInt8} (hr : w.ownsRow base e 1 (.slice (some ⟨g, 0, none⟩) n cap) n (cellsV c)) (hn : n = c.length) :
    ∀ (j : Nat) u, (cellsV c)[j]? = some u → w.cell? ((⟨g, 0, none⟩ : Addr).add j) = some u := by
  intro j u hj
  have hjl : j < c.length := by
    rcases Nat.lt_or_ge j c.length with h | h
    · exact h
    · rw [List.getElem?_eq_none (by simpa [cellsV] using h)] at hj; cases hj
  have h1 := own_cell hr j hjl hn
  unfold cellsV at hj
  rw [List.getElem?_map, List.getElem?_eq_getElem hjl] at hj
  have e : byteV c[j] = u := by simpa using hj
  have e2 : at0 c j = c[j] := by unfold at0; simp [List.getD, hjl]
  rw [e2] at h1
  subst e
  have e3 : (⟨g, 0, none⟩ : Addr).add j = ⟨g, j, none⟩ := by
    simp [Addr.add]
    exact fun h => h.symm
  rw [e3]
  exact h1
theorem own_apart' {w1 w2 : World} {b1 b2 : Nat} {e1 e2 : TypeId} {s1 s2 : Nat} {v1 v2 : Value} {n1 n2 : Nat} {x1 x2 : List Value} (h1 : w1.ownsRow b1 e1 s1 v1 n1 x1) (h2 : w2.ownsRow b2 e2 s2 v2 n2 x2) (hb : w1.heap.size ≤ b2) : v1.ownBlock = none ∨ v1.ownBlock ≠ v2.ownBlock := by
  cases h : v1.ownBlock with
  | none => exact .inl rfl
  | some k =>
    refine .inr fun e => ?_
    have a := (h1.lt k h).2
    have b := (h2.lt k e.symm).1
    omega
section
variable {P : Program} {w : World} {ops : Array Oper} {rest : List Oper} {a : Act} {Q : Exit → Act → World → Prop} {dst : Option Tmp} {ty : TypeId} {pos : String} {aft : Array Edge} {gd : Option (Nat × Bool)}
/-- A call under a contract. -/
theorem r_call (f : FuncId) (xs : List Operand) (ts : Array TypeId) (vs : List Value) (v : Value) (Post : World → Prop) (hcf : ∀ args w, (callFunc f args).run P w = .ok (.enter f args) w) (hvs : xs.map a.eval = vs)
    (hgd : Region.wanted ⟨dst, .call { callee := .value (.func f), args := xs.toArray, argTypes := ts }, ty, pos, aft, gd⟩ (yielded ops a.tmps) = true)
    (hc : Calls P f vs.toArray w fun e w' => e = .returned v ∧ Post w')
    (h : ∀ w', Post w' → wpList P ops Q rest (a.put dst v) w') : wpList P ops Q (⟨dst, .call { callee := .value (.func f), args := xs.toArray, argTypes := ts }, ty, pos, aft, gd⟩ :: rest) a w :=
  wpList_want hgd fun _ hK => by
    have e : (execOp a.eval ⟨dst, .call { callee := .value (.func f), args := xs.toArray, argTypes := ts }, ty, pos, aft, gd⟩).run P w = .ok (.enter f vs.toArray) w := by
      unfold execOp resolve
      simp only [List.map_toArray, hvs, Act.eval, Deferred.ofValue, Sem.run_bind, Sem.run_pure, Result.andThen_ok, invoke, Array.append_empty, Array.empty_append]
      exact hcf _ _
    unfold Oper.wp
    rw [e]
    exact hc.mono fun e w'' ⟨he, hp⟩ => by
      subst he
      exact hK _ _ (h _ hp)
end
end Go.Proofs.Ytmjmjibokombiaa
