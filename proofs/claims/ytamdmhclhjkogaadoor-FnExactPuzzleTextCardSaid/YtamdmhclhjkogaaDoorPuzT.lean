/-
  Puzzles turned: in the program and in the model, and the law.
-/
import Derived.Test.YtamdmhclhjkogaaDoorPuzM
namespace Go.Proofs.YtamdmhclhjkogaaDoor
open Go.RowKit
/-- The number of a cell in the turned tray. -/
def tcN (W H k : Nat) : Nat := k % W * H + H - 1 - k / W
theorem tcN_lt {W H k : Nat} (h : k < nn W H) : k % W < W ∧ k / W < H := by
  have h0 : 0 < W := by
    rcases Nat.eq_zero_or_pos W with e | e
    · subst e; unfold nn at h; omega
    · exact e
  exact ⟨Nat.mod_lt _ h0, by unfold nn at h; exact (Nat.div_lt_iff_lt_mul h0).2 (by rw [Nat.mul_comm]; exact h)⟩
def tzV : Option (Grid × UInt8 × Nat) → Array Value
  | none => pv ByteArray.empty ByteArray.empty 0
  | some (g, b, k) => pv (txtB g.h g.w (tuS g.w g.h g.c)) ⟨#[b]⟩ (tcN g.w g.h k)
theorem tzV_pv (o : Option (Grid × UInt8 × Nat)) : ∃ s n z, tzV o = pv s n z := by
  cases o with
  | none => exact ⟨_, _, _, rfl⟩
  | some x => obtain ⟨g, b, k⟩ := x; exact ⟨_, _, _, rfl⟩
section
variable {P : Program} {w : World} {a : Act} {dst : Option Tmp} {ty : TypeId} {pos : String} {aft : Array Edge} {gd : Option (Nat × Bool)}
theorem e_convP {src dt : TypeId} (x : Operand) (v u : Value) (hx : a.eval x = v) (hr : (convert src dt v).run P w = .ok u w) :
    (execOp a.eval ⟨dst, .convert src dt x, ty, pos, aft, gd⟩).run P w = .ok (.value u) w := by
  unfold execOp
  simp only [hx, Sem.run_bind, hr, Result.andThen_ok, Sem.run_pure]
theorem e_addP {T yt : TypeId} (x y : Operand) (s t u : ByteArray) (hx : a.eval x = .string s) (hy : a.eval y = .string t) (hr : (Op.stringOp .add s t).run P w = .ok (.string u) w) :
    (execOp a.eval ⟨dst, .binOp .add T x y yt, ty, pos, aft, gd⟩).run P w = .ok (.value (.string u)) w := by
  unfold execOp
  simp only [hx, hy, eqGuard_add, Sem.run_bind, Sem.run_pure, Result.andThen_ok]
  show ((Op.stringOp .add s t).run P w).andThen _ = _
  rw [hr]
  rfl
theorem e_subP {T yt : TypeId} (x y : Operand) (m n r : Int) (hx : a.eval x = .int .i64 m) (hy : a.eval y = .int .i64 n) (hr : m - n = r) (h : -9223372036854775808 ≤ r ∧ r ≤ 9223372036854775807) :
    (execOp a.eval ⟨dst, .binOp .sub T x y yt, ty, pos, aft, gd⟩).run P w = .ok (.value (.int .i64 r)) w := by
  unfold execOp
  simp only [hx, hy, eqGuard_sub, Sem.run_bind, Sem.run_pure, Result.andThen_ok, run_sub T m n r hr h]
end
set_option maxHeartbeats 1000000 in
set_option maxRecDepth 100000 in
theorem turnedCell_any (W H k : Nat) (c : List UInt8) (w : World) (hW1 : 0 < W) (hW : W ≤ 7) (hH : H ≤ 7) (hk : k < nn W H) : Calls Tryd.prog 45 #[.agg (gv W H c), .int .i64 k] w (Ret (.int .i64 (tcN W H k : Nat)) w) := by
  have gg := Gr.refl w
  obtain ⟨h1, h2⟩ := tcN_lt hk
  obtain ⟨x, hx⟩ : ∃ x, x = k % W := ⟨_, rfl⟩
  obtain ⟨y, hy⟩ : ∃ y, y = k / W := ⟨_, rfl⟩
  obtain ⟨m, hm⟩ : ∃ m, m = x * H := ⟨_, rfl⟩
  have hm49 : m ≤ 49 := by
    rw [hm]
    exact Nat.mul_le_mul (show x ≤ 7 by omega) hH
  have HXE := hidI hx
  have HYE := hidI hy
  have HM := hidI (show (x : Int) * (H : Int) = (m : Int) from by rw [hm]; simp)
  have HV := hidI (show ((m : Int) + H - 1 - y) = ((tcN W H k : Nat) : Int) from by
    unfold tcN
    rw [← hx, ← hy, ← hm]
    omega)
  rw [← hx] at h1
  rw [← hy] at h2
  have hkb : k ≤ 9223372036854775807 := by have := nn_le hW hH; omega
  clear hk hx hy hm
  go_enter Tryd.func45, Tryd.ntmps45
  go_wp2_with (refine r_box 51 _ (gv W H c) rfl rfl ?_; intro w2 B2 N2; have g2 := N2.gr; have b2 : Blk w2 B2 (gv W H c) 51 := N2.blk; have l2 := N2.lo; have t2 := N2.hi; have z2 := g2.size; have gg := gg.trans g2; clear N2; obtain ⟨b2_0, b2_1, b2_2⟩ := gcells b2)
  refine q_whole (by kernel_rfl) (by kernel_rfl) ?_
  refine q_move _ (.int .i64 k) rfl rfl ?_; simp only [Act.put, List.setIfInBounds_toArray, List.set_cons_succ, List.set_cons_zero]
  refine q_take (.pointer (some ⟨B2, 0, none⟩)) rfl (fun w' hw' => e_val _ _ (Tryd.gf0 B2 _)) ?_; simp only [Act.put, List.setIfInBounds_toArray, List.set_cons_succ, List.set_cons_zero]
  refine q_take (.int .i64 W) rfl (fun w' hw' => e_load 3 (.tmp 8) ⟨B2, 0, none⟩ _ rfl (Tryd.isAgg3 _) (hw'.cell b2_0)) ?_; simp only [Act.put, List.setIfInBounds_toArray, List.set_cons_succ, List.set_cons_zero]
  refine q_rem _ _ _ _ (k) (W) rfl rfl (hW1) rfl ?_; simp only [Act.put, List.setIfInBounds_toArray, List.set_cons_succ, List.set_cons_zero]
  refine q_move _ (.int .i64 k) rfl rfl ?_; simp only [Act.put, List.setIfInBounds_toArray, List.set_cons_succ, List.set_cons_zero]
  refine q_take (.pointer (some ⟨B2, 0, none⟩)) rfl (fun w' hw' => e_val _ _ (Tryd.gf0 B2 _)) ?_; simp only [Act.put, List.setIfInBounds_toArray, List.set_cons_succ, List.set_cons_zero]
  refine q_take (.int .i64 W) rfl (fun w' hw' => e_load 3 (.tmp 12) ⟨B2, 0, none⟩ _ rfl (Tryd.isAgg3 _) (hw'.cell b2_0)) ?_; simp only [Act.put, List.setIfInBounds_toArray, List.set_cons_succ, List.set_cons_zero]
  refine q_quo _ _ _ _ (k) (W) rfl rfl (hW1) (hkb) rfl ?_; simp only [Act.put, List.setIfInBounds_toArray, List.set_cons_succ, List.set_cons_zero]
  refine q_assign _ (.int .i64 (k % W : Nat)) rfl rfl ?_; simp only [Act.put, List.setIfInBounds_toArray, List.set_cons_succ, List.set_cons_zero]
  refine q_assign _ (.int .i64 (k / W : Nat)) rfl rfl ?_; simp only [Act.put, List.setIfInBounds_toArray, List.set_cons_succ, List.set_cons_zero]
  rw [← HXE.out, ← HYE.out]
  refine wpQuiet_nil ?_; intro w3 g3; have z3 := g3.size; have b2 := g3.blk b2; obtain ⟨b2_0, b2_1, b2_2⟩ := gcells b2; have gg := gg.trans g3
  go_wp2_with (refine r_val (.int .i64 (m : Int)) (e_mul _ _ (x : Int) (H : Int) m rfl rfl HM.out (by omega)) rfl ?_)
  go_ret
  exact ⟨ret_int HV.out, gg⟩
theorem Tryd.convN (b : UInt8) (hb : isNameB b = true) (w : World) : (convert 5 9 (.int .u8 b.toNat)).run Tryd.prog w = .ok (.string ⟨#[b]⟩) w := by
  obtain ⟨h1, h2⟩ := cb_name_bounds.1 hb
  have e : b = UInt8.ofNat b.toNat := by simp
  have hx : b.toNat = 97 ∨ b.toNat = 98 ∨ b.toNat = 99 ∨ b.toNat = 100 ∨ b.toNat = 101 ∨ b.toNat = 102 := by omega
  have hy : b = 97 ∨ b = 98 ∨ b = 99 ∨ b = 100 ∨ b = 101 ∨ b = 102 := by
    rcases hx with h | h | h | h | h | h <;> rw [h] at e <;> simp [e]
  rcases hy with rfl | rfl | rfl | rfl | rfl | rfl
  · show (convert 5 9 (.int .u8 97)).run Tryd.prog w = .ok (.string ⟨#[97]⟩) w
    kernel_rfl
  · show (convert 5 9 (.int .u8 98)).run Tryd.prog w = .ok (.string ⟨#[98]⟩) w
    kernel_rfl
  · show (convert 5 9 (.int .u8 99)).run Tryd.prog w = .ok (.string ⟨#[99]⟩) w
    kernel_rfl
  · show (convert 5 9 (.int .u8 100)).run Tryd.prog w = .ok (.string ⟨#[100]⟩) w
    kernel_rfl
  · show (convert 5 9 (.int .u8 101)).run Tryd.prog w = .ok (.string ⟨#[101]⟩) w
    kernel_rfl
  · show (convert 5 9 (.int .u8 102)).run Tryd.prog w = .ok (.string ⟨#[102]⟩) w
    kernel_rfl
set_option maxHeartbeats 1000000 in
set_option maxRecDepth 100000 in
theorem puzzle_any (g : Grid) (b : UInt8) (k : Nat) (w : World) (hb : isNameB b = true) (h1 : 1 ≤ g.w ∨ g.h = 0) (w7 : g.w ≤ 7) (h7 : g.h ≤ 7) (n36 : nn g.w g.h ≤ 36) : Calls Tryd.prog 46 #[.agg (qv g b k)] w (Ret (.agg (pv (txtB g.w g.h g.c) ⟨#[b]⟩ k)) w) := by
  have gg := Gr.refl w
  have HTX := hidI (fun w' => show Calls Tryd.prog 82 #[.agg (gv g.w g.h g.c)] w' (Ret (.string (txtB g.w g.h g.c)) w') from trayText_any g.w g.h g.c w' h1 w7 h7 n36)
  have HB := hidI hb
  obtain ⟨t, ht⟩ : ∃ t, t = txtB g.w g.h g.c := ⟨_, rfl⟩
  rw [← ht] at HTX ⊢
  clear ht hb h1 n36
  go_enter Tryd.func46, Tryd.ntmps46
  go_wp2_with (first | (refine r_box 53 _ (qv g b k) rfl rfl ?_; intro w1 B1 N1; have g1 := N1.gr; have b1 : Blk w1 B1 (qv g b k) 53 := N1.blk; have l1 := N1.lo; have t1 := N1.hi; have z1 := g1.size; have gg := gg.trans g1; clear N1) | (refine r_alloc (dst := some 2) 26 _ Tryd.ipzero rfl ?_; intro w2 B2 N2; have g2 := N2.gr; have b2 : Blk w2 B2 (pv ByteArray.empty ByteArray.empty 0) 26 := N2.blk; have l2 := N2.lo; have t2 := N2.hi; have z2 := g2.size; have b1 := g2.blk b1; have gg := gg.trans g2; clear N2; obtain ⟨b2_0, b2_1, b2_2⟩ := pcells b2))
  refine F_begin (fun w => (Blk w B1 (qv g b k) 53)) 9 10 #[false, false, false, false, false, false, false, false, false, false] rfl (by kernel_rfl) (by kernel_rfl) ?_
  have gd := (Gr.refl w2).drew
  have b1 := gd.blk b1
  have b2 := gd.blk b2
  have gg := gg.trans gd
  have zd := gd.size
  generalize w2.drew = wd at *
  refine F_free (v := .pointer (some ⟨B1, 0, none⟩)) 0 #[true, false, false, false, false, false, false, false, false, false] rfl (by kernel_rfl) (fun _ _ _ h => h) rfl (fun _ => e_val _ _ (Tryd.qf0 _ _)) (b1) ?_; simp only [Act.put, List.setIfInBounds_toArray, List.set_cons_succ, List.set_cons_zero]
  refine F_take (v := .agg (gv g.w g.h g.c)) 1 #[true, true, false, false, false, false, false, false, false, false] rfl (by kernel_rfl) (fun _ _ _ h => h) rfl (fun w hF => e_load_mid 51 (.tmp 3) B1 0 (gvG g).toList _ rfl (qcells hF).1 Tryd.underlying51 rfl (by rw [gvl]; exact Tryd.ginfo)) (b1) ?_; simp only [Act.put, List.setIfInBounds_toArray, List.set_cons_succ, List.set_cons_zero]
  refine F_free (v := .pointer (some ⟨B1, 38, none⟩)) 3 #[true, true, false, true, false, false, false, false, false, false] rfl (by kernel_rfl) (fun _ _ _ h => h) rfl (fun _ => e_val _ _ (Tryd.qf1 _ _)) (b1) ?_; simp only [Act.put, List.setIfInBounds_toArray, List.set_cons_succ, List.set_cons_zero]
  refine F_take (v := .int .u8 b.toNat) 4 #[true, true, false, true, true, false, false, false, false, false] rfl (by kernel_rfl) (fun _ _ _ h => h) rfl (fun w hF => e_load 5 (.tmp 6) _ _ rfl (Tryd.isAgg5 _) (qcells hF).2.1) (b1) ?_; simp only [Act.put, List.setIfInBounds_toArray, List.set_cons_succ, List.set_cons_zero]
  refine F_free (v := .string ⟨#[b]⟩) 5 #[true, true, false, true, true, true, false, false, false, false] rfl (by kernel_rfl) (fun _ _ _ h => h) rfl (fun _ => e_convP (.tmp 7) (.int .u8 b.toNat) (.string ⟨#[b]⟩) rfl (Tryd.convN b HB.out _)) (b1) ?_; simp only [Act.put, List.setIfInBounds_toArray, List.set_cons_succ, List.set_cons_zero]
  refine F_free (v := .pointer (some ⟨B1, 39, none⟩)) 6 #[true, true, false, true, true, true, true, false, false, false] rfl (by kernel_rfl) (fun _ _ _ h => h) rfl (fun _ => e_val _ _ (Tryd.qf2 _ _)) (b1) ?_; simp only [Act.put, List.setIfInBounds_toArray, List.set_cons_succ, List.set_cons_zero]
  refine F_take (v := .int .i64 k) 7 #[true, true, false, true, true, true, true, true, false, false] rfl (by kernel_rfl) (fun _ _ _ h => h) rfl (fun w hF => e_load 3 (.tmp 9) _ _ rfl (Tryd.isAgg3 _) (qcells hF).2.2) (b1) ?_; simp only [Act.put, List.setIfInBounds_toArray, List.set_cons_succ, List.set_cons_zero]
  refine F_one 2 #[true, true, true, true, true, true, true, true, false, false] rfl (by kernel_rfl) ?_
  refine r_call 82 [.tmp 4] _ [.agg (gv g.w g.h g.c)] (.string t) (fun w' => Gr wd w') Tryd.call82 rfl rfl (HTX.out wd) ?_
  intro w3 g3
  have b1 := g3.blk b1
  have b2 := g3.blk b2
  have gg := gg.trans g3
  have z3 := g3.size
  refine ⟨fun _ => b1, ?_⟩
  simp only [Act.put, List.setIfInBounds_toArray, List.set_cons_succ, List.set_cons_zero]
  refine F_free (v := .agg (pv t ⟨#[b]⟩ k)) 8 #[true, true, true, true, true, true, true, true, true, false] rfl (by kernel_rfl) (fun _ _ _ h => h) rfl (fun _ => e_buildP 26 [(0, .tmp 5), (1, .tmp 8), (2, .tmp 10)] [(0, .string t), (1, .string ⟨#[b]⟩), (2, .int .i64 k)] _ (Tryd.ipbuild _ _ _ _) rfl) (b1) ?_; simp only [Act.put, List.setIfInBounds_toArray, List.set_cons_succ, List.set_cons_zero]
  refine F_one 9 #[true, true, true, true, true, true, true, true, true, true] rfl (by kernel_rfl) ?_
  (refine r_store_row 26 26 _ _ _ rfl (pv (t) (⟨#[b]⟩) (k)) _ rfl b2 Tryd.ipsize rfl (pv_one _ _ _) rfl ?_; intro w4 u4 b2'; have z4 := u4.size; have gg := u4.gr gg (by omega); clear b2; have b2 := b2'; clear b2'; obtain ⟨b2_0, b2_1, b2_2⟩ := pcells b2)
  refine ⟨fun h => (by cases h), ?_⟩
  simp only [Act.put]
  refine F_done (by kernel_rfl) ?_
  go_wp2
  refine bodyPost_ret (results_row rfl _ _ _ _ _ _ rfl b2 Tryd.underlying26 rfl Tryd.ipinfo) rfl ?_
  exact ⟨rfl, gg⟩
theorem gvG_turn (g : Grid) : gv g.h g.w (tuS g.w g.h g.c) = gvG ⟨g.h, g.w, tuS g.w g.h g.c⟩ := rfl
set_option maxHeartbeats 2000000 in
set_option maxRecDepth 100000 in
theorem iTurnPuzzle (s n : ByteArray) (z : Int) (w : World) (hm : ML w) (hs : s.size ≤ 1048576) : Calls Tryd.prog 18 #[.agg (pv s n z)] w (Ret (.tuple #[.agg (tzV (pzS s.data.toList n z)), .bool (pzS s.data.toList n z).isSome]) w) := by
  have gg := Gr.refl w
  cases hp : pzS s.data.toList n z with
  | none =>
    have HA := hidI (fun w (hm : ML w) => hp ▸ readPuzzle_any s n z w hm hs)
    clear hp
    go_enter Tryd.func18, Tryd.ntmps18
    go_wp2_with (first | (refine r_box 26 _ (pv (s) (n) (z)) rfl rfl ?_; intro w1 B1 N1; have g1 := N1.gr; have b1 : Blk w1 B1 (pv (s) (n) (z)) 26 := N1.blk; have l1 := N1.lo; have t1 := N1.hi; have z1 := g1.size; have gg := gg.trans g1; clear N1; obtain ⟨b1_0, b1_1, b1_2⟩ := pcells b1) | (refine r_load_row 26 _ _ rfl _ _ _ b1 Tryd.underlying26 rfl Tryd.ipinfo rfl ?_) | (refine r_alloc (dst := some 2) 26 _ Tryd.ipzero rfl ?_; intro w2 B2 N2; have g2 := N2.gr; have b2 : Blk w2 B2 (pv ByteArray.empty ByteArray.empty 0) 26 := N2.blk; have l2 := N2.lo; have t2 := N2.hi; have z2 := g2.size; have b1 := g2.blk b1; have gg := gg.trans g2; clear N2; obtain ⟨b2_0, b2_1, b2_2⟩ := pcells b2) | (go_at_call 40; refine (HA.out _ (gg.ml hm)).mono ?_; rintro e w3 ⟨rfl, g3⟩; have z3 := g3.size; have b2 := g3.blk b2; have gg := gg.trans g3) | (refine r_alloc (dst := some 4) 53 _ Tryd.qzero rfl ?_; intro w4 B4 N4; have g4 := N4.gr; have b4 : Blk w4 B4 (qv g00 0 0) 53 := N4.blk; have l4 := N4.lo; have t4 := N4.hi; have z4 := g4.size; have b2 := g4.blk b2; have gg := gg.trans g4; clear N4) | (refine r_store_row 53 53 _ _ _ rfl (qv (g00) (0) (0)) _ rfl b4 (Tryd.qsize _ _ _) (by simp only [qv_size]) (qv_one _ _ _) rfl ?_; intro w5 u5 b4'; have z5 := u5.size; have gg := u5.gr gg (by omega); have b2 := u5.blk b2 (by omega); clear b4; have b4 := b4'; clear b4') | (refine r_build 26 [] [] _ (Tryd.ipbuild0 _) rfl rfl ?_) | (refine r_store_row 26 26 _ _ _ rfl (pv (_) (_) (_)) _ rfl b2 Tryd.ipsize rfl (pv_one _ _ _) rfl ?_; intro w6 u6 b2'; have z6 := u6.size; have gg := u6.gr gg (by omega); clear b2; have b2 := b2'; clear b2'; obtain ⟨b2_0, b2_1, b2_2⟩ := pcells b2))
    refine bodyPost_ret (results_row_bool rfl _ _ _ _ _ _ rfl b2 Tryd.underlying26 rfl Tryd.ipinfo) rfl ?_
    exact ⟨rfl, gg⟩
  | some x =>
    obtain ⟨g, b, k⟩ := x
    have hz := pz_some hp
    obtain ⟨hc, hw1, hh1, hl⟩ := pz_tray hz
    have w7 := hc.w7
    have h7 := hc.h7
    have n36 := hc.n36
    have hlen := hc.len
    have hk := hz.kl
    have n36' : nn g.h g.w ≤ 36 := by rw [nn_comm]; exact n36
    have hkn : k < nn g.w g.h := by omega
    have HA := hidI (fun w (hm : ML w) => hp ▸ readPuzzle_any s n z w hm hs)
    have HTU := hidI (fun w' => show Calls Tryd.prog 44 #[.agg (gv g.w g.h g.c)] w' (Ret (.agg (gvG ⟨g.h, g.w, tuS g.w g.h g.c⟩)) w') from turned_any g.w g.h g.c w' (.inl hh1) w7 h7 n36 hlen)
    have HTC := hidI (fun w' => turnedCell_any g.w g.h k g.c w' hw1 w7 h7 hkn)
    have HPZ := hidI (fun w' (x : Nat) => puzzle_any ⟨g.h, g.w, tuS g.w g.h g.c⟩ b x w' hz.isN (.inl hh1) h7 w7 n36')
    obtain ⟨t, ht⟩ : ∃ t : Grid, t = ⟨g.h, g.w, tuS g.w g.h g.c⟩ := ⟨_, rfl⟩
    obtain ⟨y, hy⟩ : ∃ y, y = tcN g.w g.h k := ⟨_, rfl⟩
    rw [← ht] at HTU HPZ
    rw [← hy] at HTC
    have HV := hidI (show tzV (some (g, b, k)) = pv (txtB t.w t.h t.c) ⟨#[b]⟩ y from by rw [ht, hy]; rfl)
    obtain ⟨u, hu⟩ : ∃ u, u = txtB t.w t.h t.c := ⟨_, rfl⟩
    rw [← hu] at HPZ HV
    clear hp hz hc ht hy hu
    go_enter Tryd.func18, Tryd.ntmps18
    go_wp2_with (first | (refine r_box 26 _ (pv (s) (n) (z)) rfl rfl ?_; intro w1 B1 N1; have g1 := N1.gr; have b1 : Blk w1 B1 (pv (s) (n) (z)) 26 := N1.blk; have l1 := N1.lo; have t1 := N1.hi; have z1 := g1.size; have gg := gg.trans g1; clear N1; obtain ⟨b1_0, b1_1, b1_2⟩ := pcells b1) | (refine r_load_row 26 _ _ rfl _ _ _ b1 Tryd.underlying26 rfl Tryd.ipinfo rfl ?_) | (refine r_alloc (dst := some 2) 26 _ Tryd.ipzero rfl ?_; intro w2 B2 N2; have g2 := N2.gr; have b2 : Blk w2 B2 (pv ByteArray.empty ByteArray.empty 0) 26 := N2.blk; have l2 := N2.lo; have t2 := N2.hi; have z2 := g2.size; have b1 := g2.blk b1; have gg := gg.trans g2; clear N2; obtain ⟨b2_0, b2_1, b2_2⟩ := pcells b2) | (go_at_call 40; refine (HA.out _ (gg.ml hm)).mono ?_; rintro e w3 ⟨rfl, g3⟩; have z3 := g3.size; have b2 := g3.blk b2; have gg := gg.trans g3) | (refine r_alloc (dst := some 4) 53 _ Tryd.qzero rfl ?_; intro w4 B4 N4; have g4 := N4.gr; have b4 : Blk w4 B4 (qv g00 0 0) 53 := N4.blk; have l4 := N4.lo; have t4 := N4.hi; have z4 := g4.size; have b2 := g4.blk b2; have gg := gg.trans g4; clear N4) | (refine r_store_row 53 53 _ _ _ rfl (qv (g) (b) (k)) _ rfl b4 (Tryd.qsize _ _ _) (by simp only [qv_size]) (qv_one _ _ _) rfl ?_; intro w5 u5 b4'; have z5 := u5.size; have gg := u5.gr gg (by omega); have b2 := u5.blk b2 (by omega); clear b4; have b4 := b4'; clear b4'))
    refine F_begin (fun w => (Blk w B4 (qv g b k) 53)) 12 14 #[false, false, false, false, false, false, false, false, false, false, false, false, false, false] rfl (by kernel_rfl) (by kernel_rfl) ?_
    have gd := (Gr.refl w5).drew
    have b2 := gd.blk b2
    have b4 := gd.blk b4
    have gg := gg.trans gd
    have zd := gd.size
    generalize w5.drew = wd at *
    refine F_free (v := .pointer (some ⟨B4, 0, none⟩)) 0 #[true, false, false, false, false, false, false, false, false, false, false, false, false, false] rfl (by kernel_rfl) (fun _ _ _ h => h) rfl (fun _ => e_val _ _ (Tryd.qf0 _ _)) (b4) ?_; simp only [Act.put, List.setIfInBounds_toArray, List.set_cons_succ, List.set_cons_zero]
    refine F_take (v := .agg (gv g.w g.h g.c)) 1 #[true, true, false, false, false, false, false, false, false, false, false, false, false, false] rfl (by kernel_rfl) (fun _ _ _ h => h) rfl (fun w hF => e_load_mid 51 (.tmp 14) B4 0 (gvG g).toList _ rfl (qcells hF).1 Tryd.underlying51 rfl (by rw [gvl]; exact Tryd.ginfo)) (b4) ?_; simp only [Act.put, List.setIfInBounds_toArray, List.set_cons_succ, List.set_cons_zero]
    refine F_free (v := .pointer (some ⟨B4, 38, none⟩)) 3 #[true, true, false, true, false, false, false, false, false, false, false, false, false, false] rfl (by kernel_rfl) (fun _ _ _ h => h) rfl (fun _ => e_val _ _ (Tryd.qf1 _ _)) (b4) ?_; simp only [Act.put, List.setIfInBounds_toArray, List.set_cons_succ, List.set_cons_zero]
    refine F_take (v := .int .u8 b.toNat) 4 #[true, true, false, true, true, false, false, false, false, false, false, false, false, false] rfl (by kernel_rfl) (fun _ _ _ h => h) rfl (fun w hF => e_load 5 (.tmp 17) _ _ rfl (Tryd.isAgg5 _) (qcells hF).2.1) (b4) ?_; simp only [Act.put, List.setIfInBounds_toArray, List.set_cons_succ, List.set_cons_zero]
    refine F_free (v := .pointer (some ⟨B4, 0, none⟩)) 5 #[true, true, false, true, true, true, false, false, false, false, false, false, false, false] rfl (by kernel_rfl) (fun _ _ _ h => h) rfl (fun _ => e_val _ _ (Tryd.qf0 _ _)) (b4) ?_; simp only [Act.put, List.setIfInBounds_toArray, List.set_cons_succ, List.set_cons_zero]
    refine F_take (v := .agg (gv g.w g.h g.c)) 6 #[true, true, false, true, true, true, true, false, false, false, false, false, false, false] rfl (by kernel_rfl) (fun _ _ _ h => h) rfl (fun w hF => e_load_mid 51 (.tmp 19) B4 0 (gvG g).toList _ rfl (qcells hF).1 Tryd.underlying51 rfl (by rw [gvl]; exact Tryd.ginfo)) (b4) ?_; simp only [Act.put, List.setIfInBounds_toArray, List.set_cons_succ, List.set_cons_zero]
    refine F_free (v := .pointer (some ⟨B4, 39, none⟩)) 7 #[true, true, false, true, true, true, true, true, false, false, false, false, false, false] rfl (by kernel_rfl) (fun _ _ _ h => h) rfl (fun _ => e_val _ _ (Tryd.qf2 _ _)) (b4) ?_; simp only [Act.put, List.setIfInBounds_toArray, List.set_cons_succ, List.set_cons_zero]
    refine F_take (v := .int .i64 k) 8 #[true, true, false, true, true, true, true, true, true, false, false, false, false, false] rfl (by kernel_rfl) (fun _ _ _ h => h) rfl (fun w hF => e_load 3 (.tmp 21) _ _ rfl (Tryd.isAgg3 _) (qcells hF).2.2) (b4) ?_; simp only [Act.put, List.setIfInBounds_toArray, List.set_cons_succ, List.set_cons_zero]
    refine F_one 2 #[true, true, true, true, true, true, true, true, true, false, false, false, false, false] rfl (by kernel_rfl) ?_
    refine r_call 44 [.tmp 15] _ [.agg (gv g.w g.h g.c)] (.agg (gvG t)) (fun w' => Gr wd w') Tryd.call44 rfl rfl (HTU.out wd) ?_
    intro w6 g6
    have b2 := g6.blk b2
    have b4 := g6.blk b4
    have gg := gg.trans g6
    have z6 := g6.size
    refine ⟨fun _ => b4, ?_⟩
    simp only [Act.put, List.setIfInBounds_toArray, List.set_cons_succ, List.set_cons_zero]
    refine F_one 9 #[true, true, true, true, true, true, true, true, true, true, false, false, false, false] rfl (by kernel_rfl) ?_
    refine r_call 45 [.tmp 20, .tmp 22] _ [.agg (gv g.w g.h g.c), .int .i64 k] (.int .i64 y) (fun w' => Gr w6 w') Tryd.call45 rfl rfl (HTC.out w6) ?_
    intro w7 g7
    have b2 := g7.blk b2
    have b4 := g7.blk b4
    have gg := gg.trans g7
    have z7 := g7.size
    refine ⟨fun _ => b4, ?_⟩
    simp only [Act.put, List.setIfInBounds_toArray, List.set_cons_succ, List.set_cons_zero]
    refine F_free (v := .agg (qv t b y)) 10 #[true, true, true, true, true, true, true, true, true, true, true, false, false, false] rfl (by kernel_rfl) (fun _ _ _ h => h) rfl (fun _ => e_buildP 53 [(0, .tmp 16), (1, .tmp 18), (2, .tmp 23)] [(0, .agg (gvG t)), (1, .int .u8 b.toNat), (2, .int .i64 y)] _ (Tryd.qbuild _ _ _ _) rfl) (b4) ?_; simp only [Act.put, List.setIfInBounds_toArray, List.set_cons_succ, List.set_cons_zero]
    refine F_one 11 #[true, true, true, true, true, true, true, true, true, true, true, true, false, false] rfl (by kernel_rfl) ?_
    refine r_call 46 [.tmp 24] _ [.agg (qv t b y)] (.agg (pv u ⟨#[b]⟩ y)) (fun w' => Gr w7 w') Tryd.call46 rfl rfl (HPZ.out w7 y) ?_
    intro w8 g8
    have b2 := g8.blk b2
    have b4 := g8.blk b4
    have gg := gg.trans g8
    have z8 := g8.size
    refine ⟨fun _ => b4, ?_⟩
    simp only [Act.put, List.setIfInBounds_toArray, List.set_cons_succ, List.set_cons_zero]
    refine F_one 12 #[true, true, true, true, true, true, true, true, true, true, true, true, true, false] rfl (by kernel_rfl) ?_
    (refine r_store_row 26 26 _ _ _ rfl (pv (u) (⟨#[b]⟩) (y)) _ rfl b2 Tryd.ipsize rfl (pv_one _ _ _) rfl ?_; intro w9 u9 b2'; have z9 := u9.size; have gg := u9.gr gg (by omega); clear b2; have b2 := b2'; clear b2'; obtain ⟨b2_0, b2_1, b2_2⟩ := pcells b2)
    refine ⟨fun h => (by cases h), ?_⟩
    simp only [Act.put]
    refine F_one 13 #[true, true, true, true, true, true, true, true, true, true, true, true, true, true] rfl (by kernel_rfl) ?_
    refine r_val (.bool true) rfl rfl ?_
    refine ⟨fun h => (by cases h), ?_⟩
    simp only [Act.put, List.setIfInBounds_toArray, List.set_cons_succ, List.set_cons_zero]
    refine F_done (by kernel_rfl) ?_
    go_wp2
    refine bodyPost_ret (results_row_bool rfl _ _ _ _ _ _ rfl b2 Tryd.underlying26 rfl Tryd.ipinfo) rfl ?_
    exact ⟨by rw [HV.out]; rfl, gg⟩
theorem tuS_genP (W H : Nat) (c : List UInt8) : genC (nn W H) (fTu W H c) = tuS W H c := rfl
set_option maxHeartbeats 2000000 in
set_option maxRecDepth 100000 in
theorem sTurnPuzzle (s n : ByteArray) (z : Int) (w : World) (hs : s.size ≤ 1048576) : Calls Tryd.prog 17 #[.agg (pv s n z)] w (Ret (.tuple #[.agg (tzV (pzS s.data.toList n z)), .bool (pzS s.data.toList n z).isSome]) w) := by
  have gg := Gr.refl w
  cases hp : pzS s.data.toList n z with
  | none =>
    have HA := hidI (fun w => show Calls Tryd.prog 39 #[.agg (pv s n z)] w (Ret (.bool false) w) from by have := puGood_any s n z w hs; rw [hp] at this; exact this)
    clear hp
    go_enter Tryd.func17, Tryd.ntmps17
    go_wp2_with (first | (refine r_box 26 _ (pv (s) (n) (z)) rfl rfl ?_; intro w1 B1 N1; have g1 := N1.gr; have b1 : Blk w1 B1 (pv (s) (n) (z)) 26 := N1.blk; have l1 := N1.lo; have t1 := N1.hi; have z1 := g1.size; have gg := gg.trans g1; clear N1; obtain ⟨b1_0, b1_1, b1_2⟩ := pcells b1) | (refine r_load_row 26 _ _ rfl _ _ _ b1 Tryd.underlying26 rfl Tryd.ipinfo rfl ?_) | (refine r_alloc (dst := some 2) 26 _ Tryd.ipzero rfl ?_; intro w2 B2 N2; have g2 := N2.gr; have b2 : Blk w2 B2 (pv ByteArray.empty ByteArray.empty 0) 26 := N2.blk; have l2 := N2.lo; have t2 := N2.hi; have z2 := g2.size; have b1 := g2.blk b1; have gg := gg.trans g2; clear N2; obtain ⟨b2_0, b2_1, b2_2⟩ := pcells b2) | (go_at_call 39; refine (HA.out _).mono ?_; rintro e w3 ⟨rfl, g3⟩; have z3 := g3.size; have b2 := g3.blk b2; have gg := gg.trans g3) | (refine r_build 26 [] [] _ (Tryd.ipbuild0 _) rfl rfl ?_) | (refine r_store_row 26 26 _ _ _ rfl (pv (_) (_) (_)) _ rfl b2 Tryd.ipsize rfl (pv_one _ _ _) rfl ?_; intro w6 u6 b2'; have z6 := u6.size; have gg := u6.gr gg (by omega); clear b2; have b2 := b2'; clear b2'; obtain ⟨b2_0, b2_1, b2_2⟩ := pcells b2))
    refine bodyPost_ret (results_row_bool rfl _ _ _ _ _ _ rfl b2 Tryd.underlying26 rfl Tryd.ipinfo) rfl ?_
    exact ⟨rfl, gg⟩
  | some x =>
    obtain ⟨g, b, k⟩ := x
    have hz := pz_some hp
    obtain ⟨hc, hw1, hh1, hl⟩ := pz_tray hz
    have w7 := hc.w7
    have h7 := hc.h7
    have n36 := hc.n36
    have hlen := hc.len
    have hk := hz.kl
    have n36' : nn g.h g.w ≤ 36 := by rw [nn_comm]; exact n36
    have hkn : k < nn g.w g.h := by omega
    obtain ⟨hx1, hy1⟩ := tcN_lt hkn
    obtain ⟨x, hx⟩ : ∃ x, x = k % g.w := ⟨_, rfl⟩
    obtain ⟨y, hy⟩ : ∃ y, y = k / g.w := ⟨_, rfl⟩
    obtain ⟨m, hmm⟩ : ∃ m, m = x * g.h := ⟨_, rfl⟩
    have hm49 : m ≤ 49 := by
      rw [hmm]
      exact Nat.mul_le_mul (show x ≤ 7 by omega) h7
    have HXE := hidI hx
    have HYE := hidI hy
    have HM := hidI (show (x : Int) * (g.h : Int) = (m : Int) from by rw [hmm]; simp)
    have HA := hidI (fun w => show Calls Tryd.prog 39 #[.agg (pv s n z)] w (Ret (.bool true) w) from by have := puGood_any s n z w hs; rw [hp] at this; exact this)
    obtain rfl : z = k := hz.ze
    obtain rfl : n = ⟨#[b]⟩ := hz.n1
    have HPP := hidI hz.pr
    have HLEN := hidI hlen
    have HL2 := hidI (show (tuS g.w g.h g.c).length = nn g.h g.w from by rw [nn_comm]; exact genC_length _ _)
    have HV := hidI (show tzV (some (g, b, k)) = pv (txtB g.h g.w (tuS g.w g.h g.c)) ⟨#[b]⟩ ((m : Int) + g.h - 1 - y) from by
      show pv (txtB g.h g.w (tuS g.w g.h g.c)) ⟨#[b]⟩ ((k % g.w * g.h + g.h - 1 - k / g.w : Nat) : Int) = _
      rw [← hx, ← hy, ← hmm]
      congr 1
      omega)
    rw [← hx] at hx1
    rw [← hy] at hy1
    have hkb : k ≤ 9223372036854775807 := by omega
    clear hp hz hc hx hy hmm hkn hk hlen
    go_enter Tryd.func17, Tryd.ntmps17
    go_wp2_with (first | (refine r_box 26 _ (pv (s) (⟨#[b]⟩) (k)) rfl rfl ?_; intro w1 B1 N1; have g1 := N1.gr; have b1 : Blk w1 B1 (pv (s) (⟨#[b]⟩) (k)) 26 := N1.blk; have l1 := N1.lo; have t1 := N1.hi; have z1 := g1.size; have gg := gg.trans g1; clear N1; obtain ⟨b1_0, b1_1, b1_2⟩ := pcells b1) | (refine r_load_row 26 _ _ rfl _ _ _ b1 Tryd.underlying26 rfl Tryd.ipinfo rfl ?_) | (refine r_alloc (dst := some 2) 26 _ Tryd.ipzero rfl ?_; intro w2 B2 N2; have g2 := N2.gr; have b2 : Blk w2 B2 (pv ByteArray.empty ByteArray.empty 0) 26 := N2.blk; have l2 := N2.lo; have t2 := N2.hi; have z2 := g2.size; have b1 := g2.blk b1; obtain ⟨b1_0, b1_1, b1_2⟩ := pcells b1; have gg := gg.trans g2; clear N2; obtain ⟨b2_0, b2_1, b2_2⟩ := pcells b2) | (go_at_call 39; refine (HA.out _).mono ?_; rintro e w3 ⟨rfl, g3⟩; have z3 := g3.size; have b1 := g3.blk b1; obtain ⟨b1_0, b1_1, b1_2⟩ := pcells b1; have b2 := g3.blk b2; have gg := gg.trans g3))
    refine (tyRead_any s _ hs).mono ?_
    rintro e w4 ⟨g4, ⟨hp', rfl⟩ | ⟨g', sl, hp', rfl, hown⟩⟩
    · exact absurd (HPP.out.symm.trans hp') (by simp)
    · obtain rfl : g = g' := Option.some.inj (HPP.out.symm.trans hp')
      clear hp'
      have b1 := g4.blk b1
      have b2 := g4.blk b2
      have z4 := g4.size
      have gg := gg.trans g4
      have hone := own_one hown
      obtain ⟨G, cap, rfl, hG, hcap⟩ := own_shape hown hl
      go_wp2_with (first | (refine r_alloc (dst := some 4) 58 _ Tryd.tzero rfl ?_; intro w5 B5 N5; have g5 := N5.gr; have b5 : Blk w5 B5 (tg 0 0 (.slice none 0 0)) 58 := N5.blk; have l5 := N5.lo; have t5 := N5.hi; have z5 := g5.size; have b1 := g5.blk b1; have b2 := g5.blk b2; have gg := gg.trans g5; clear N5; obtain ⟨b5_0, b5_1, b5_2⟩ := tcells b5) | (refine r_store_row 58 58 _ _ _ rfl (tg _ _ _) _ rfl b5 Tryd.tsize rfl (tg_one hone) rfl ?_; intro w6 u6 b5'; have z6 := u6.size; have gg := u6.gr gg (by omega); have b1 := u6.blk b1 (by omega); obtain ⟨b1_0, b1_1, b1_2⟩ := pcells b1; have b2 := u6.blk b2 (by omega); clear b5; have b5 := b5'; clear b5'; obtain ⟨b5_0, b5_1, b5_2⟩ := tcells b5))
      have own := u6.row (g5.row hown) (own_new hown l5)
      refine q_whole (by kernel_rfl) (by kernel_rfl) ?_
      refine q_take (.pointer (some ⟨B1, 2, none⟩)) rfl (fun w' hw' => e_val _ _ (Tryd.ipf2 _ _)) ?_; simp only [Act.put, List.setIfInBounds_toArray, List.set_cons_succ, List.set_cons_zero]
      refine q_take (.int .i64 k) rfl (fun w' hw' => e_load 3 (.tmp 18) _ _ rfl (Tryd.isAgg3 _) (hw'.cell b1_2)) ?_; simp only [Act.put, List.setIfInBounds_toArray, List.set_cons_succ, List.set_cons_zero]
      refine q_take (.pointer (some ⟨B5, 0, none⟩)) rfl (fun w' hw' => e_val _ _ (Tryd.tf0 _ _)) ?_; simp only [Act.put, List.setIfInBounds_toArray, List.set_cons_succ, List.set_cons_zero]
      refine q_take (.int .i64 g.w) rfl (fun w' hw' => e_load 3 (.tmp 20) _ _ rfl (Tryd.isAgg3 _) (hw'.cell b5_0)) ?_; simp only [Act.put, List.setIfInBounds_toArray, List.set_cons_succ, List.set_cons_zero]
      refine q_rem _ _ _ _ (k) (g.w) rfl rfl (hw1) rfl ?_; simp only [Act.put, List.setIfInBounds_toArray, List.set_cons_succ, List.set_cons_zero]
      refine q_take (.pointer (some ⟨B1, 2, none⟩)) rfl (fun w' hw' => e_val _ _ (Tryd.ipf2 _ _)) ?_; simp only [Act.put, List.setIfInBounds_toArray, List.set_cons_succ, List.set_cons_zero]
      refine q_take (.int .i64 k) rfl (fun w' hw' => e_load 3 (.tmp 23) _ _ rfl (Tryd.isAgg3 _) (hw'.cell b1_2)) ?_; simp only [Act.put, List.setIfInBounds_toArray, List.set_cons_succ, List.set_cons_zero]
      refine q_take (.pointer (some ⟨B5, 0, none⟩)) rfl (fun w' hw' => e_val _ _ (Tryd.tf0 _ _)) ?_; simp only [Act.put, List.setIfInBounds_toArray, List.set_cons_succ, List.set_cons_zero]
      refine q_take (.int .i64 g.w) rfl (fun w' hw' => e_load 3 (.tmp 25) _ _ rfl (Tryd.isAgg3 _) (hw'.cell b5_0)) ?_; simp only [Act.put, List.setIfInBounds_toArray, List.set_cons_succ, List.set_cons_zero]
      refine q_quo _ _ _ _ (k) (g.w) rfl rfl (hw1) (hkb) rfl ?_; simp only [Act.put, List.setIfInBounds_toArray, List.set_cons_succ, List.set_cons_zero]
      refine q_assign _ (.int .i64 (k % g.w : Nat)) rfl rfl ?_; simp only [Act.put, List.setIfInBounds_toArray, List.set_cons_succ, List.set_cons_zero]
      refine q_assign _ (.int .i64 (k / g.w : Nat)) rfl rfl ?_; simp only [Act.put, List.setIfInBounds_toArray, List.set_cons_succ, List.set_cons_zero]
      rw [← HXE.out, ← HYE.out]
      refine wpQuiet_nil ?_; intro w27 g27; have z27 := g27.size; have b1 := g27.blk b1; have b2 := g27.blk b2; have b5 := g27.blk b5; have gg := gg.trans g27
      have own := g27.row own
      go_wp2
      refine F_begin (fun w => (Blk w B5 (tg g.w g.h (.slice (some ⟨G, 0, none⟩) g.c.length cap)) 58 ∧ Blk w B1 (pv s ⟨#[b]⟩ k) 26)) 16 18 #[false, false, false, false, false, false, false, false, false, false, false, false, false, false, false, false, false, false] rfl (by kernel_rfl) (by kernel_rfl) ?_
      have gd := (Gr.refl w27).drew
      have b1 := gd.blk b1
      have b2 := gd.blk b2
      have b5 := gd.blk b5
      have own := gd.row own
      have gg := gg.trans gd
      have zd := gd.size
      generalize w27.drew = wd at *
      have hF0 := And.intro b5 b1
      refine F_take (v := .agg (tg g.w g.h (.slice (some ⟨G, 0, none⟩) g.c.length cap))) 0 #[true, false, false, false, false, false, false, false, false, false, false, false, false, false, false, false, false, false] rfl (by kernel_rfl) (fun _ _ _ h => h) rfl (fun w hF => e_load_row 58 (.tmp 4) _ _ _ _ rfl hF.1 Tryd.underlying58 rfl Tryd.tinfo) (hF0) ?_; simp only [Act.put, List.setIfInBounds_toArray, List.set_cons_succ, List.set_cons_zero]
      refine F_free (v := .pointer (some ⟨B1, 1, none⟩)) 3 #[true, false, false, true, false, false, false, false, false, false, false, false, false, false, false, false, false, false] rfl (by kernel_rfl) (fun _ _ _ h => h) rfl (fun _ => e_val _ _ (Tryd.ipf1 _ _)) (hF0) ?_; simp only [Act.put, List.setIfInBounds_toArray, List.set_cons_succ, List.set_cons_zero]
      refine F_take (v := .string ⟨#[b]⟩) 4 #[true, false, false, true, true, false, false, false, false, false, false, false, false, false, false, false, false, false] rfl (by kernel_rfl) (fun _ _ _ h => h) rfl (fun w hF => e_load 9 (.tmp 31) _ _ rfl (Tryd.isAgg9 _) (pcells hF.2).2.1) (hF0) ?_; simp only [Act.put, List.setIfInBounds_toArray, List.set_cons_succ, List.set_cons_zero]
      refine F_free (v := .int .i64 x) 5 #[true, false, false, true, true, true, false, false, false, false, false, false, false, false, false, false, false, false] rfl (by kernel_rfl) (fun _ _ _ h => h) rfl (fun _ => rfl) (hF0) ?_; simp only [Act.put, List.setIfInBounds_toArray, List.set_cons_succ, List.set_cons_zero]
      refine F_free (v := .pointer (some ⟨B5, 1, none⟩)) 6 #[true, false, false, true, true, true, true, false, false, false, false, false, false, false, false, false, false, false] rfl (by kernel_rfl) (fun _ _ _ h => h) rfl (fun _ => e_val _ _ (Tryd.tf1 _ _)) (hF0) ?_; simp only [Act.put, List.setIfInBounds_toArray, List.set_cons_succ, List.set_cons_zero]
      refine F_take (v := .int .i64 g.h) 7 #[true, false, false, true, true, true, true, true, false, false, false, false, false, false, false, false, false, false] rfl (by kernel_rfl) (fun _ _ _ h => h) rfl (fun w hF => e_load 3 (.tmp 34) _ _ rfl (Tryd.isAgg3 _) (tcells hF.1).2.1) (hF0) ?_; simp only [Act.put, List.setIfInBounds_toArray, List.set_cons_succ, List.set_cons_zero]
      refine F_free (v := .int .i64 m) 8 #[true, false, false, true, true, true, true, true, true, false, false, false, false, false, false, false, false, false] rfl (by kernel_rfl) (fun _ _ _ h => h) rfl (fun _ => e_mul _ _ (x : Int) (g.h : Int) m rfl rfl HM.out (by omega)) (hF0) ?_; simp only [Act.put, List.setIfInBounds_toArray, List.set_cons_succ, List.set_cons_zero]
      refine F_free (v := .pointer (some ⟨B5, 1, none⟩)) 9 #[true, false, false, true, true, true, true, true, true, true, false, false, false, false, false, false, false, false] rfl (by kernel_rfl) (fun _ _ _ h => h) rfl (fun _ => e_val _ _ (Tryd.tf1 _ _)) (hF0) ?_; simp only [Act.put, List.setIfInBounds_toArray, List.set_cons_succ, List.set_cons_zero]
      refine F_take (v := .int .i64 g.h) 10 #[true, false, false, true, true, true, true, true, true, true, true, false, false, false, false, false, false, false] rfl (by kernel_rfl) (fun _ _ _ h => h) rfl (fun w hF => e_load 3 (.tmp 37) _ _ rfl (Tryd.isAgg3 _) (tcells hF.1).2.1) (hF0) ?_; simp only [Act.put, List.setIfInBounds_toArray, List.set_cons_succ, List.set_cons_zero]
      refine F_free (v := .int .i64 ((m : Int) + g.h)) 11 #[true, false, false, true, true, true, true, true, true, true, true, true, false, false, false, false, false, false] rfl (by kernel_rfl) (fun _ _ _ h => h) rfl (fun _ => e_add _ _ (m : Int) (g.h : Int) _ rfl rfl rfl (by omega)) (hF0) ?_; simp only [Act.put, List.setIfInBounds_toArray, List.set_cons_succ, List.set_cons_zero]
      refine F_free (v := .int .i64 ((m : Int) + g.h - 1)) 12 #[true, false, false, true, true, true, true, true, true, true, true, true, true, false, false, false, false, false] rfl (by kernel_rfl) (fun _ _ _ h => h) rfl (fun _ => e_subP _ _ _ 1 _ rfl rfl rfl (by omega)) (hF0) ?_; simp only [Act.put, List.setIfInBounds_toArray, List.set_cons_succ, List.set_cons_zero]
      refine F_free (v := .int .i64 y) 13 #[true, false, false, true, true, true, true, true, true, true, true, true, true, true, false, false, false, false] rfl (by kernel_rfl) (fun _ _ _ h => h) rfl (fun _ => rfl) (hF0) ?_; simp only [Act.put, List.setIfInBounds_toArray, List.set_cons_succ, List.set_cons_zero]
      refine F_free (v := .int .i64 ((m : Int) + g.h - 1 - y)) 14 #[true, false, false, true, true, true, true, true, true, true, true, true, true, true, true, false, false, false] rfl (by kernel_rfl) (fun _ _ _ h => h) rfl (fun _ => e_subP _ _ _ (y : Int) _ rfl rfl rfl (by omega)) (hF0) ?_; simp only [Act.put, List.setIfInBounds_toArray, List.set_cons_succ, List.set_cons_zero]
      refine F_one 1 #[true, true, false, true, true, true, true, true, true, true, true, true, true, true, true, false, false, false] rfl (by kernel_rfl) ?_
      refine r_callx 43 [.tmp 28] _ [.agg (tg g.w g.h (.slice (some ⟨G, 0, none⟩) g.c.length cap))] (fun v w' => Gr wd w' ∧ ∃ sl, v = .agg (tg g.h g.w sl) ∧ w'.ownsRow wd.heap.size 5 1 sl (tuS g.w g.h g.c).length (cellsV (tuS g.w g.h g.c))) Tryd.call43 rfl rfl ((tyTurn_any g.w g.h w.heap.size g.c G cap wd hw1 hh1 w7 h7 n36 HLEN.out (own_up own (by omega))).mono fun e w' h => by obtain ⟨gq, sl, h1, h2⟩ := h; rw [tuS_genP] at h2; exact ⟨_, h1, gq, sl, rfl, h2⟩) ?_
      rintro _ w8 ⟨g8, sl8, rfl, own8⟩
      have b1 := g8.blk b1
      have b2 := g8.blk b2
      have b5 := g8.blk b5
      have gg := gg.trans g8
      have z8 := g8.size
      have hF0 := And.intro b5 b1
      refine ⟨fun _ => hF0, ?_⟩
      simp only [Act.put, List.setIfInBounds_toArray, List.set_cons_succ, List.set_cons_zero]
      refine F_one 2 #[true, true, true, true, true, true, true, true, true, true, true, true, true, true, true, false, false, false] rfl (by kernel_rfl) ?_
      refine r_call 42 [.tmp 29] _ [.agg (tg g.h g.w sl8)] (.string (txtB g.h g.w (tuS g.w g.h g.c))) (fun w' => Gr w8 w') Tryd.call42 rfl rfl (tyText_n g.h g.w _ _ (tuS g.w g.h g.c) _ _ hh1 hw1 h7 w7 n36' HL2.out rfl own8) ?_
      intro w9 g9
      have b1 := g9.blk b1
      have b2 := g9.blk b2
      have b5 := g9.blk b5
      have gg := gg.trans g9
      have z9 := g9.size
      have hF0 := And.intro b5 b1
      refine ⟨fun _ => hF0, ?_⟩
      simp only [Act.put, List.setIfInBounds_toArray, List.set_cons_succ, List.set_cons_zero]
      refine F_free (v := .agg (pv (txtB g.h g.w (tuS g.w g.h g.c)) ⟨#[b]⟩ ((m : Int) + g.h - 1 - y))) 15 #[true, true, true, true, true, true, true, true, true, true, true, true, true, true, true, true, false, false] rfl (by kernel_rfl) (fun _ _ _ h => h) rfl (fun _ => e_buildP 26 [(0, .tmp 30), (1, .tmp 32), (2, .tmp 42)] [(0, .string (txtB g.h g.w (tuS g.w g.h g.c))), (1, .string ⟨#[b]⟩), (2, .int .i64 ((m : Int) + g.h - 1 - y))] _ (Tryd.ipbuild _ _ _ _) rfl) (hF0) ?_; simp only [Act.put, List.setIfInBounds_toArray, List.set_cons_succ, List.set_cons_zero]
      refine F_one 16 #[true, true, true, true, true, true, true, true, true, true, true, true, true, true, true, true, true, false] rfl (by kernel_rfl) ?_
      (refine r_store_row 26 26 _ _ _ rfl (pv (txtB g.h g.w (tuS g.w g.h g.c)) (⟨#[b]⟩) ((m : Int) + g.h - 1 - y)) _ rfl b2 Tryd.ipsize rfl (pv_one _ _ _) rfl ?_; intro w10 u10 b2'; have z10 := u10.size; have gg := u10.gr gg (by omega); clear b2; have b2 := b2'; clear b2'; obtain ⟨b2_0, b2_1, b2_2⟩ := pcells b2)
      refine ⟨fun h => (by cases h), ?_⟩
      simp only [Act.put]
      refine F_one 17 #[true, true, true, true, true, true, true, true, true, true, true, true, true, true, true, true, true, true] rfl (by kernel_rfl) ?_
      refine r_val (.bool true) rfl rfl ?_
      refine ⟨fun h => (by cases h), ?_⟩
      simp only [Act.put, List.setIfInBounds_toArray, List.set_cons_succ, List.set_cons_zero]
      refine F_done (by kernel_rfl) ?_
      go_wp2
      refine bodyPost_ret (results_row_bool rfl _ _ _ _ _ _ rfl b2 Tryd.underlying26 rfl Tryd.ipinfo) rfl ?_
      exact ⟨by rw [HV.out]; rfl, gg⟩
set_option maxHeartbeats 1000000 in
theorem lawTurnPuzzle (s n : ByteArray) (z : Int) (w : World) (hbs : s.size ≤ maxLen) (hbn : n.size ≤ maxLen) (hm : ML w) : Calls Tryd.prog 4 #[.agg (pv s n z)] w (Ret (.bool true) w) := by
  have gg := Gr.refl w
  by_cases hl : 1048576 < s.size + n.size
  · have HZ := hidI (show szZ s.size n.size = -1 from if_pos hl)
    go_enter Tryd.func4, Tryd.ntmps4
    go_wp2_with (first | (refine r_box 23 _ (pv (s) (n) (z)) rfl rfl ?_; intro w1 B1 N1; have g1 := N1.gr; have b1 : Blk w1 B1 (pv (s) (n) (z)) 23 := N1.blk; have l1 := N1.lo; have t1 := N1.hi; have z1 := g1.size; have gg := gg.trans g1; clear N1; obtain ⟨b1_0, b1_1, b1_2⟩ := pcells b1) | (refine r_load_row 23 _ _ rfl _ _ _ b1 Tryd.underlying23 rfl Tryd.lpinfo rfl ?_) | (go_at_call 13; refine (szPuzzle_any s n z _ hbs hbn).mono ?_; rintro e w2 ⟨rfl, g2⟩; rw [HZ.out]; have z2 := g2.size; have gg := gg.trans g2))
    go_ret
    exact ⟨rfl, gg⟩
  · have hs : s.size ≤ 1048576 := by omega
    have HZ := hidI (show szZ s.size n.size = 1048576 - (s.size : Int) - n.size from if_neg hl)
    have hz0 : ¬ (1048576 - (s.size : Int) - n.size < 0) := by omega
    obtain ⟨ok, hok⟩ : ∃ ok, ok = (pzS s.data.toList n z).isSome := ⟨_, rfl⟩
    obtain ⟨s', n', z', hv⟩ := tzV_pv (pzS s.data.toList n z)
    have HOK := hidI hok
    have HV := hidI hv
    clear hl hok hv
    go_enter Tryd.func4, Tryd.ntmps4
    go_wp2_with (first | (refine r_box 23 _ (pv (s) (n) (z)) rfl rfl ?_; intro w1 B1 N1; have g1 := N1.gr; have b1 : Blk w1 B1 (pv (s) (n) (z)) 23 := N1.blk; have l1 := N1.lo; have t1 := N1.hi; have z1 := g1.size; have gg := gg.trans g1; clear N1; obtain ⟨b1_0, b1_1, b1_2⟩ := pcells b1) | (refine r_load_row 23 _ _ rfl _ _ _ b1 Tryd.underlying23 rfl Tryd.lpinfo rfl ?_) | (go_at_call 13; refine (szPuzzle_any s n z _ hbs hbn).mono ?_; rintro e w2 ⟨rfl, g2⟩; rw [HZ.out]; have z2 := g2.size; have b1 := g2.blk b1; have gg := gg.trans g2) | (go_at_call 15; refine (toPuzzle_any s n z _).mono ?_; rintro e w3 ⟨rfl, g3⟩; have gg := gg.trans g3; have b1 := g3.blk b1; have z3 := g3.size; (try have b5 := g3.blk b5)) | (go_at_call 17; refine (sTurnPuzzle s n z _ hs).mono ?_; rintro e w4 ⟨rfl, g4⟩; rw [← HOK.out, HV.out]; have z4 := g4.size; have b1 := g4.blk b1; have gg := gg.trans g4) | (refine r_alloc (dst := some 4) 26 _ Tryd.ipzero rfl ?_; intro w5 B5 N5; have g5 := N5.gr; have b5 : Blk w5 B5 (pv ByteArray.empty ByteArray.empty 0) 26 := N5.blk; have l5 := N5.lo; have t5 := N5.hi; have z5 := g5.size; have b1 := g5.blk b1; have gg := gg.trans g5; clear N5; obtain ⟨b5_0, b5_1, b5_2⟩ := pcells b5) | (refine r_store_row 26 26 _ _ _ rfl (pv (s') (n') (z')) _ rfl b5 Tryd.ipsize rfl (pv_one _ _ _) rfl ?_; intro w6 u6 b5'; have z6 := u6.size; have gg := u6.gr gg (by omega); have b1 := u6.blk b1 (by omega); clear b5; have b5 := b5'; clear b5'; obtain ⟨b5_0, b5_1, b5_2⟩ := pcells b5) | (go_at_call 18; refine (iTurnPuzzle s n z _ (gg.ml hm) hs).mono ?_; rintro e w8 ⟨rfl, g8⟩; rw [← HOK.out, HV.out]; have z8 := g8.size; have b1 := g8.blk b1; have b5 := g8.blk b5; have gg := gg.trans g8) | (refine r_alloc (dst := some 6) 26 _ Tryd.ipzero rfl ?_; intro w9 B9 N9; have g9 := N9.gr; have b9 : Blk w9 B9 (pv ByteArray.empty ByteArray.empty 0) 26 := N9.blk; have l9 := N9.lo; have t9 := N9.hi; have z9 := g9.size; have b1 := g9.blk b1; have b5 := g9.blk b5; have gg := gg.trans g9; clear N9; obtain ⟨b9_0, b9_1, b9_2⟩ := pcells b9) | (refine r_store_row 26 26 _ _ _ rfl (pv (s') (n') (z')) _ rfl b9 Tryd.ipsize rfl (pv_one _ _ _) rfl ?_; intro w10 u10 b9'; have z10 := u10.size; have gg := u10.gr gg (by omega); have b1 := u10.blk b1 (by omega); have b5 := u10.blk b5 (by omega); clear b9; have b9 := b9'; clear b9'; obtain ⟨b9_0, b9_1, b9_2⟩ := pcells b9) | (refine r_load_row 26 _ _ rfl _ _ _ b9 Tryd.underlying26 rfl Tryd.ipinfo rfl ?_) | (refine r_load_row 26 _ _ rfl _ _ _ b5 Tryd.underlying26 rfl Tryd.ipinfo rfl ?_) | (go_at_call 19; refine (eqPuzzle_same s' n' z' _).mono ?_; rintro e w11 ⟨rfl, g11⟩; have z11 := g11.size; have gg := gg.trans g11))
    go_ret
    exact ⟨rfl, gg⟩
end Go.Proofs.YtamdmhclhjkogaaDoor
