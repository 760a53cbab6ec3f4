/-
  What the program's functions that change a tray's cells return: one cell put, and all balls taken out.
-/
import Derived.Test.YtedgocedomlhfaaDoorImpl1g
import Derived.Test.YtedgocedomlhfaaDoorFnA
namespace Go.Proofs.YtedgocedomlhfaaDoor
open Go.RowKit
/-- What the program's grids are, those of no tray among them. -/
structure Small (g : Grid) : Prop where
  w7 : g.w ≤ 7
  h7 : g.h ≤ 7
  n36 : nn g.w g.h ≤ 36
  w1 : 1 ≤ g.w ∨ g.h = 0
  len : g.c.length = nn g.w g.h
theorem Tray.small {g : Grid} (h : Tray g) : Small g := ⟨h.w7, h.h7, h.n36, .inl h.w1, h.len⟩
theorem rd_small (l : List UInt8) : Small (rdG l) := by
  rcases rd_cases l with ⟨_, hg, _⟩ | ⟨g, hp, hg, _⟩
  · rw [hg]; exact ⟨by decide, by decide, by decide, .inr rfl, rfl⟩
  · rw [hg]; exact (parse_tray hp).small
/-- The text if it is a tray. -/
def ifB (s : ByteArray) : ByteArray := if rdOk s.data.toList then s else ⟨#[]⟩
theorem txtB_le (W H : Nat) (c : List UInt8) (hW : W ≤ 7) (hH : H ≤ 7) : (txtB W H c).size ≤ 56 := by
  have := txtB_size W H c
  have := nn_le (x := W + 1) (y := H) (a := 8) (b := 7) (by omega) hH
  omega
theorem at0_set (c : List UInt8) (i : Nat) (b : UInt8) (j : Nat) (hi : i < c.length) : at0 (c.set i b) j = if i = j then b else at0 c j := by
  unfold at0
  by_cases e : i = j
  · subst e; simp [List.getD, hi]
  · rw [if_neg e]; simp only [List.getD]; rw [List.getElem?_set_ne e]
def paOk (l : List UInt8) (x y : Int) (c : ByteArray) : Bool := rdOk l && (inB x (rdG l).w && inB y (rdG l).h) && oneB c
def paT (l : List UInt8) (x y : Int) (c : ByteArray) : ByteArray := txtB (rdG l).w (rdG l).h ((rdG l).c.set (nn (rdG l).w y.toNat + x.toNat) (hd c))
def paS (l : List UInt8) (x y : Int) (c : ByteArray) : ByteArray := if paOk l x y c then ifB (paT l x y c) else ⟨#[]⟩
def paR (l : List UInt8) (x y : Int) (c : ByteArray) : Bool := paOk l x y c && rdOk (paT l x y c).data.toList
/-- The first k cells, with those for which p holds made free. -/
def wallTo (p : UInt8 → Bool) (c : List UInt8) : Nat → List UInt8
  | 0 => c
  | k + 1 => if p (at0 c k) then (wallTo p c k).set k 46 else wallTo p c k
theorem wallTo_len (p : UInt8 → Bool) (c : List UInt8) (k : Nat) : (wallTo p c k).length = c.length := by
  induction k with
  | zero => rfl
  | succ k ih => unfold wallTo; split <;> simp [ih]
theorem wallTo_at (p : UInt8 → Bool) (c : List UInt8) (k i : Nat) (h : k ≤ i) (hk : k ≤ c.length) : at0 (wallTo p c k) i = at0 c i := by
  induction k with
  | zero => rfl
  | succ k ih =>
    unfold wallTo
    split
    · rw [at0_set _ _ _ _ (by rw [wallTo_len]; omega), if_neg (by omega)]; exact ih (by omega) (by omega)
    · exact ih (by omega) (by omega)
theorem wallTo_congr {p q : UInt8 → Bool} {c : List UInt8} (k : Nat) (h : ∀ i, i < k → p (at0 c i) = q (at0 c i)) : wallTo p c k = wallTo q c k := by
  induction k with
  | zero => rfl
  | succ k ih => unfold wallTo; rw [h k (by omega), ih (fun i hi => h i (by omega))]
theorem ball_cell {b : UInt8} (h : isCellB b = true) : ballB b = isBallB b := by
  unfold isCellB at h
  unfold ballB
  by_cases h1 : b = 35
  · subst h1; rfl
  · by_cases h2 : b = 46
    · subst h2; rfl
    · simp [h1, h2] at h
      simp [h1, h2, h]
def woB (l : List UInt8) : ByteArray := txtB (rdG l).w (rdG l).h (wallTo isBallB (rdG l).c (nn (rdG l).w (rdG l).h))
theorem wo_impl (l : List UInt8) : wallTo ballB (rdG l).c (nn (rdG l).w (rdG l).h) = wallTo isBallB (rdG l).c (nn (rdG l).w (rdG l).h) := by
  rcases rd_cases l with ⟨_, hg, _⟩ | ⟨g, hp, hg, _⟩
  · rw [hg]; rfl
  · rw [hg]
    have ht := parse_tray hp
    exact wallTo_congr _ fun i hi => ball_cell (ht.cells i (by rw [ht.len]; exact hi))
set_option maxHeartbeats 1000000 in
theorem checked_any (s : ByteArray) (w : World) (hm : ML w) (hs : s.size ≤ 1048576) : Calls Tryd.prog 41 #[.string s] w (Ret (.tuple #[.string (ifB s), .bool (rdOk s.data.toList)]) w) := by
  have gg := Gr.refl w
  by_cases h : rdOk s.data.toList = true
  · have HK := hidI h
    clear h
    go_enter Tryd.func41, Tryd.ntmps41
    go_wp2_with (go_at_call 63; refine (iIsTray s _ hm hs).mono ?_; rintro e w1 ⟨rfl, g1⟩; rw [HK.out]; have z1 := g1.size; have gg := gg.trans g1)
    go_ret2
    exact ⟨fin_sb (by unfold ifB; rw [HK.out]; rfl) HK.out.symm, gg⟩
  · have HK := hidI (show rdOk s.data.toList = false from by simpa using h)
    clear h
    go_enter Tryd.func41, Tryd.ntmps41
    go_wp2_with (go_at_call 63; refine (iIsTray s _ hm hs).mono ?_; rintro e w1 ⟨rfl, g1⟩; rw [HK.out]; have z1 := g1.size; have gg := gg.trans g1)
    go_ret2
    exact ⟨fin_sb (by unfold ifB; rw [HK.out]; rfl) HK.out.symm, gg⟩
theorem Tryd.six (B off n cap x : Nat) (hx : x < n) (w : World) : (Instr.indexAt 39 (.slice (some ⟨B, off, none⟩) n cap) (.int .i64 x)).run Tryd.prog w = .ok (.pointer (some ⟨B, off + x, none⟩)) w := by
  have hu : Tryd.prog.underlying 39 = some (.slice (Tryd.prog.elem 39)) := by kernel_rfl
  have he : Tryd.prog.elem 39 = 5 := by kernel_rfl
  rw [run_indexAt_slice w 39 ⟨B, off, none⟩ n cap .i64 x hu, if_pos (by omega), he]
  simp [Tryd.sizeOf5, Result.andThen, Addr.add]
set_option maxHeartbeats 2000000 in
set_option maxRecDepth 100000 in
theorem iPutAt (s : ByteArray) (x y : Int) (c : ByteArray) (w : World) (hm : ML w) (hs : s.size ≤ 1048576) : Calls Tryd.prog 15 #[.string s, .int .i64 x, .int .i64 y, .string c] w (Ret (.tuple #[.string (paS s.data.toList x y c), .bool (paR s.data.toList x y c)]) w) := by
  have gg := Gr.refl w
  have bad : paOk s.data.toList x y c = false → paS s.data.toList x y c = ⟨#[]⟩ ∧ paR s.data.toList x y c = false := fun h => by
    unfold paS paR; rw [h]; exact ⟨rfl, rfl⟩
  have BAD := hidI bad
  clear bad
  rcases rd_cases s.data.toList with ⟨hp, hg, hk⟩ | ⟨g, hp, hg, hk⟩
  · have HK := hidI hk
    have HV := hidI (BAD.out (by unfold paOk; rw [hk]; rfl))
    clear hp hg hk
    go_enter Tryd.func15, Tryd.ntmps15
    go_wp2_with (first | (go_at_call 35; refine (readTray_any s _ hm hs).mono ?_; rintro e w1 ⟨rfl, g1⟩; rw [HK.out]; have z1 := g1.size; have gg := gg.trans g1) | (refine r_alloc 47 _ Tryd.gzero rfl ?_; intro w2 B2 N2; have g2 := N2.gr; have b2 : Blk w2 B2 (gv 0 0 []) 47 := N2.blk; have l2 := N2.lo; have t2 := N2.hi; have z2 := g2.size; have gg := gg.trans g2; clear N2; obtain ⟨b2_0, b2_1, b2_2⟩ := gcells b2) | (refine r_store_row 47 47 _ _ _ rfl (gv _ _ _) _ rfl b2 (Tryd.gsize' _ _ _) (by simp only [gv_size]) (gv_one _ _ _) rfl ?_; intro w3 u3 b2'; have z3 := u3.size; have gg := u3.gr gg (by omega); clear b2; have b2 := b2'; clear b2'; obtain ⟨b2_0, b2_1, b2_2⟩ := gcells b2))
    go_ret2
    exact ⟨fin_sb HV.out.1.symm HV.out.2.symm, gg⟩
  · have HK := hidI hk
    have HG := hidI hg
    have ht := parse_tray hp
    by_cases h1 : (inB x g.w && inB y g.h) = true
    · have HO := hidI h1
      rw [Bool.and_eq_true, inB_true, inB_true] at h1
      obtain ⟨⟨x0, x1⟩, y0, y1⟩ := h1
      by_cases h2 : oneB c = true
      · obtain ⟨x, rfl⟩ : ∃ n : Nat, x = n := ⟨x.toNat, by omega⟩
        obtain ⟨y, rfl⟩ : ∃ n : Nat, y = n := ⟨y.toNat, by omega⟩
        have hsz : c.size = 1 := by
          unfold oneB at h2; rw [Bool.and_eq_true, decide_eq_true_eq] at h2; exact h2.1
        have hc := one_of c hsz
        obtain ⟨b, hb⟩ : ∃ b, hd c = b := ⟨_, rfl⟩
        rw [hb] at hc
        subst hc
        have HC1 := hidI h2
        have hok : paOk s.data.toList x y ⟨#[b]⟩ = true := by unfold paOk; rw [hk, hg, HO.out, h2]; rfl
        have hT : paT s.data.toList x y ⟨#[b]⟩ = txtB g.w g.h (g.c.set (nn g.w y + x) b) := by unfold paT; rw [hg]; rfl
        have HV := hidI (show paS s.data.toList x y ⟨#[b]⟩ = ifB (txtB g.w g.h (g.c.set (nn g.w y + x) b)) ∧ paR s.data.toList x y ⟨#[b]⟩ = rdOk (txtB g.w g.h (g.c.set (nn g.w y + x) b)).data.toList from by
          unfold paS paR; rw [hok, hT]; exact ⟨rfl, rfl⟩)
        have hw1 := ht.w1
        have hw7 := ht.w7
        have hh7 := ht.h7
        have n36 := ht.n36
        have hlen := ht.len
        have hxw : x < g.w := by omega
        have hyh : y < g.h := by omega
        have hle := nn_row (W := g.w) hyh
        have hset := gv_set g.w g.h g.c (nn g.w y + x) b (by omega) (by omega)
        rw [← Nat.add_assoc] at hset
        have HSET := hidI hset
        have htl := txtB_le g.w g.h (g.c.set (nn g.w y + x) b) hw7 hh7
        clear hp hg hk ht x0 y0 x1 y1 hb hsz h2 hok hT hlen hset
        go_enter Tryd.func15, Tryd.ntmps15
        go_wp2_with (first | (go_at_call 35; refine (readTray_any s _ hm hs).mono ?_; rintro e w1 ⟨rfl, g1⟩; rw [HK.out, HG.out, gvG]; have z1 := g1.size; have gg := gg.trans g1) | (refine r_alloc 47 _ Tryd.gzero rfl ?_; intro w2 B2 N2; have g2 := N2.gr; have b2 : Blk w2 B2 (gv 0 0 []) 47 := N2.blk; have l2 := N2.lo; have t2 := N2.hi; have z2 := g2.size; have gg := gg.trans g2; clear N2; obtain ⟨b2_0, b2_1, b2_2⟩ := gcells b2) | (refine r_store_row 47 47 _ _ _ rfl (gv g.w g.h g.c) _ rfl b2 (Tryd.gsize' _ _ _) (by simp only [gv_size]) (gv_one _ _ _) rfl ?_; intro w3 u3 b2'; have z3 := u3.size; have gg := u3.gr gg (by omega); clear b2; have b2 := b2'; clear b2'; obtain ⟨b2_0, b2_1, b2_2⟩ := gcells b2) | (refine r_load_row 47 _ _ rfl _ _ _ b2 Tryd.underlying47 rfl (Tryd.ginfo' _ _ _) rfl ?_) | (go_at_call 36; refine (hasPlace_any g.w g.h g.c x y _).mono ?_; rintro e w4 ⟨rfl, g4⟩; rw [HO.out]; have z4 := g4.size; have b2 := g4.blk b2; obtain ⟨b2_0, b2_1, b2_2⟩ := gcells b2; have gg := gg.trans g4) | (go_at_call 40; refine (isCell_any _ _).mono ?_; rintro e wSame ⟨rfl, rfl⟩; rw [HC1.out]))
        refine q_begin 6 (by kernel_rfl) (by kernel_rfl) ?_
        simp only [List.take_succ_cons, List.take_zero, List.drop_succ_cons, List.drop_zero]
        refine q_move _ (.int .i64 y) rfl rfl ?_; simp only [Act.put, List.setIfInBounds_toArray, List.set_cons_succ, List.set_cons_zero]
        refine q_call 37 [.tmp 10, .tmp 31] _ [.pointer (some ⟨B2, 0, none⟩), .int .i64 y] (.slice (some ⟨B2, 2 + nn g.w y, none⟩) g.w g.w) Tryd.call37 rfl rfl (fun w' hw' => ((rowOf_any B2 g.w g.h y g.c w' (hw'.blk b2) hw1 hw7 hyh n36 hh7).mono fun e w'' h => ⟨h.1, by obtain ⟨n, hn⟩ := h.2; rw [hn]; exact Gr.drewN hw' n⟩)) ?_; simp only [Act.put, List.setIfInBounds_toArray, List.set_cons_succ, List.set_cons_zero]
        refine q_move _ (.int .i64 x) rfl rfl ?_; simp only [Act.put, List.setIfInBounds_toArray, List.set_cons_succ, List.set_cons_zero]
        refine q_move _ (.string ⟨#[b]⟩) rfl rfl ?_; simp only [Act.put, List.setIfInBounds_toArray, List.set_cons_succ, List.set_cons_zero]
        refine q_take (.int .u8 b.toNat) rfl (fun w' hw' => e_val _ _ (s_idx0 Tryd.underlying9 b _)) ?_; simp only [Act.put, List.setIfInBounds_toArray, List.set_cons_succ, List.set_cons_zero]
        refine q_take (.pointer (some ⟨B2, 2 + nn g.w y + x, none⟩)) rfl (fun w' hw' => e_val _ _ (Tryd.six B2 (2 + nn g.w y) g.w g.w x hxw _)) ?_; simp only [Act.put, List.setIfInBounds_toArray, List.set_cons_succ, List.set_cons_zero]
        refine wpQuiet_nil ?_
        intro w9 g9
        have b2 := g9.blk b2
        have gg := gg.trans g9
        have z9 := g9.size
        have hm9 := gg.ml hm
        have lo2 : w.heap.size ≤ B2 := by omega
        go_wp2_with (first | (refine r_store_cell 5 47 _ _ B2 (2 + nn g.w y + x) rfl (byteV b) rfl _ b2 (by rw [gv_size]; omega) Tryd.sizeOf5 rfl rfl ?_; intro w10 u10 b10; rw [HSET.out] at b10; have gg := u10.gr gg lo2; clear b2; have b2 := b10; clear b10) | (refine r_load_row 47 _ _ rfl _ _ _ b2 Tryd.underlying47 rfl (Tryd.ginfo' _ _ _) rfl ?_) | (go_at_call 42; refine (trayText_any g.w g.h (g.c.set (nn g.w y + x) b) _ (.inl hw1) hw7 hh7 n36).mono ?_; rintro e w11 ⟨rfl, g11⟩; have z11 := g11.size; have gg := gg.trans g11) | (go_at_call 41; refine (checked_any _ _ (gg.ml hm) (by omega)).mono ?_; rintro e w12 ⟨rfl, g12⟩; have z12 := g12.size; have gg := gg.trans g12))
        go_ret2
        exact ⟨fin_sb HV.out.1.symm HV.out.2.symm, gg⟩
      · have HC1 := hidI (show oneB c = false from by simpa using h2)
        have HV := hidI (BAD.out (by unfold paOk; rw [HC1.out, Bool.and_false]))
        clear hp hg hk h2 x0 y0 x1 y1 ht
        go_enter Tryd.func15, Tryd.ntmps15
        go_wp2_with (first | (go_at_call 35; refine (readTray_any s _ hm hs).mono ?_; rintro e w1 ⟨rfl, g1⟩; rw [HK.out, HG.out, gvG]; have z1 := g1.size; have gg := gg.trans g1) | (refine r_alloc 47 _ Tryd.gzero rfl ?_; intro w2 B2 N2; have g2 := N2.gr; have b2 : Blk w2 B2 (gv 0 0 []) 47 := N2.blk; have l2 := N2.lo; have t2 := N2.hi; have z2 := g2.size; have gg := gg.trans g2; clear N2; obtain ⟨b2_0, b2_1, b2_2⟩ := gcells b2) | (refine r_store_row 47 47 _ _ _ rfl (gv g.w g.h g.c) _ rfl b2 (Tryd.gsize' _ _ _) (by simp only [gv_size]) (gv_one _ _ _) rfl ?_; intro w3 u3 b2'; have z3 := u3.size; have gg := u3.gr gg (by omega); clear b2; have b2 := b2'; clear b2'; obtain ⟨b2_0, b2_1, b2_2⟩ := gcells b2) | (refine r_load_row 47 _ _ rfl _ _ _ b2 Tryd.underlying47 rfl (Tryd.ginfo' _ _ _) rfl ?_) | (go_at_call 36; refine (hasPlace_any g.w g.h g.c x y _).mono ?_; rintro e w4 ⟨rfl, g4⟩; rw [HO.out]; have z4 := g4.size; have b2 := g4.blk b2; obtain ⟨b2_0, b2_1, b2_2⟩ := gcells b2; have gg := gg.trans g4) | (go_at_call 40; refine (isCell_any _ _).mono ?_; rintro e wSame ⟨rfl, rfl⟩; rw [HC1.out]))
        go_ret2
        exact ⟨fin_sb HV.out.1.symm HV.out.2.symm, gg⟩
    · have HO := hidI (show (inB x g.w && inB y g.h) = false from by simpa using h1)
      have HV := hidI (BAD.out (by unfold paOk; rw [hg, HO.out, Bool.and_false]; rfl))
      clear hp hg hk h1 ht
      go_enter Tryd.func15, Tryd.ntmps15
      go_wp2_with (first | (go_at_call 35; refine (readTray_any s _ hm hs).mono ?_; rintro e w1 ⟨rfl, g1⟩; rw [HK.out, HG.out, gvG]; have z1 := g1.size; have gg := gg.trans g1) | (refine r_alloc 47 _ Tryd.gzero rfl ?_; intro w2 B2 N2; have g2 := N2.gr; have b2 : Blk w2 B2 (gv 0 0 []) 47 := N2.blk; have l2 := N2.lo; have t2 := N2.hi; have z2 := g2.size; have gg := gg.trans g2; clear N2; obtain ⟨b2_0, b2_1, b2_2⟩ := gcells b2) | (refine r_store_row 47 47 _ _ _ rfl (gv g.w g.h g.c) _ rfl b2 (Tryd.gsize' _ _ _) (by simp only [gv_size]) (gv_one _ _ _) rfl ?_; intro w3 u3 b2'; have z3 := u3.size; have gg := u3.gr gg (by omega); clear b2; have b2 := b2'; clear b2'; obtain ⟨b2_0, b2_1, b2_2⟩ := gcells b2) | (refine r_load_row 47 _ _ rfl _ _ _ b2 Tryd.underlying47 rfl (Tryd.ginfo' _ _ _) rfl ?_) | (go_at_call 36; refine (hasPlace_any g.w g.h g.c x y _).mono ?_; rintro e w4 ⟨rfl, g4⟩; rw [HO.out]; have z4 := g4.size; have b2 := g4.blk b2; obtain ⟨b2_0, b2_1, b2_2⟩ := gcells b2; have gg := gg.trans g4))
      go_ret2
      exact ⟨fin_sb HV.out.1.symm HV.out.2.symm, gg⟩
set_option maxHeartbeats 2000000 in
set_option maxRecDepth 100000 in
theorem iWallsOf (s : ByteArray) (w : World) (hm : ML w) (hs : s.size ≤ 1048576) : Calls Tryd.prog 32 #[.string s] w (Ret (.tuple #[.string (woB s.data.toList), .bool (rdOk s.data.toList)]) w) := by
  have gg := Gr.refl w
  have ht := rd_small s.data.toList
  have HWO := hidI (show txtB (rdG s.data.toList).w (rdG s.data.toList).h (wallTo ballB (rdG s.data.toList).c (nn (rdG s.data.toList).w (rdG s.data.toList).h)) = woB s.data.toList from by unfold woB; rw [wo_impl])
  obtain ⟨g, hg⟩ : ∃ g, rdG s.data.toList = g := ⟨_, rfl⟩
  rw [hg] at ht HWO
  have HG := hidI hg
  have hw1 := ht.w1
  have hw7 := ht.w7
  have hh7 := ht.h7
  have n36 := ht.n36
  have hlen := ht.len
  clear hg ht
  go_enter Tryd.func32, Tryd.ntmps32
  go_wp2_with (first | (go_at_call 35; refine (readTray_any s _ hm hs).mono ?_; rintro e w1 ⟨rfl, g1⟩; rw [HG.out, gvG]; have z1 := g1.size; have gg := gg.trans g1) | (refine r_alloc 47 _ Tryd.gzero rfl ?_; intro w2 B2 N2; have g2 := N2.gr; have b2 : Blk w2 B2 (gv 0 0 []) 47 := N2.blk; have l2 := N2.lo; have t2 := N2.hi; have z2 := g2.size; have gg := gg.trans g2; clear N2; obtain ⟨b2_0, b2_1, b2_2⟩ := gcells b2) | (refine r_store_row 47 47 _ _ _ rfl (gv g.w g.h g.c) _ rfl b2 (Tryd.gsize' _ _ _) (by simp only [gv_size]) (gv_one _ _ _) rfl ?_; intro w3 u3 b2'; have z3 := u3.size; have gg := u3.gr gg (by omega); clear b2; have b2 := b2'; clear b2'; obtain ⟨b2_0, b2_1, b2_2⟩ := gcells b2) | (refine r_load_row 47 _ _ rfl _ _ _ b2 Tryd.underlying47 rfl (Tryd.ginfo' _ _ _) rfl ?_) | (go_at_call 45; refine (countAll_any g.w g.h g.c _ hw7 hh7).mono ?_; rintro e w4 ⟨rfl, g4⟩; have z4 := g4.size; have b2 := g4.blk b2; obtain ⟨b2_0, b2_1, b2_2⟩ := gcells b2; have gg := gg.trans g4))
  go_loopw [6, 14] (fun _ i wr => ∃ k : Nat, k ≤ nn g.w g.h ∧ i = .int .i64 k ∧ Blk wr B2 (gv g.w g.h (wallTo ballB g.c k)) 47 ∧ Gr w wr) (fun _ i _ => nn g.w g.h - (intOf i).toNat)
  case atStart => exact ⟨0, Nat.zero_le _, rfl, b2, gg⟩
  case round =>
    obtain ⟨k, hk, rfl, b2, gg⟩ := hrel
    have lo2 : w.heap.size ≤ B2 := by omega
    by_cases hlt : k < nn g.w g.h
    · have hix := Tryd.gix B2 k (by omega)
      have hwl := wallTo_len ballB g.c k
      have hat := wallTo_at ballB g.c k k (Nat.le_refl _) (by omega)
      have hc := (gcells b2).2.2 k (by omega)
      rw [hat] at hc
      have hset := gv_set g.w g.h (wallTo ballB g.c k) k 46 (by omega) (by omega)
      have HSET := hidI hset
      have HWL := hidI hwl
      clear hset hwl hat
      by_cases hb : ballB (at0 g.c k) = true
      · have HS := hidI (show (wallTo ballB g.c k).set k 46 = wallTo ballB g.c (k + 1) from by rw [wallTo, if_pos hb])
        have HB := hidI hb
        clear hb
        go_wp2_with (first | (go_at_call 46; refine (isBall_any _ _).mono ?_; rintro e wSame ⟨rfl, rfl⟩; rw [HB.out]) | (refine r_store_cell 5 47 _ _ B2 (2 + k) rfl (byteV 46) rfl _ b2 (by rw [gv_size]; omega) Tryd.sizeOf5 rfl rfl ?_; intro w10 u10 b10; rw [HSET.out, HS.out] at b10; have gg := u10.gr gg lo2; clear b2; have b2 := b10; clear b10))
        go_roundw
        case rel => exact ⟨k + 1, by omega, by go_num, b2, gg⟩
        case measure => simp [intOf]; omega
      · have HS := hidI (show wallTo ballB g.c k = wallTo ballB g.c (k + 1) from by rw [wallTo, if_neg hb])
        have HB := hidI (show ballB (at0 g.c k) = false from by simpa using hb)
        clear hb
        go_wp2_with (go_at_call 46; refine (isBall_any _ _).mono ?_; rintro e wSame ⟨rfl, rfl⟩; rw [HB.out])
        go_roundw
        case rel => exact ⟨k + 1, by omega, by go_num, by rw [← HS.out]; exact b2, gg⟩
        case measure => simp [intOf]; omega
    · obtain rfl : k = nn g.w g.h := by omega
      clear hlt
      go_wp2_with (first | (refine r_load_row 47 _ _ rfl _ _ _ b2 Tryd.underlying47 rfl (Tryd.ginfo' _ _ _) rfl ?_) | (go_at_call 42; refine (trayText_any g.w g.h (wallTo ballB g.c (nn g.w g.h)) _ hw1 hw7 hh7 n36).mono ?_; rintro e w11 ⟨rfl, g11⟩; have z11 := g11.size; have gg := gg.trans g11))
      go_ret2
      exact ⟨fin_sb HWO.out rfl, gg⟩
end Go.Proofs.YtedgocedomlhfaaDoor
