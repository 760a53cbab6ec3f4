/-
  Puzzles turned: in the program and in the model, and the law.
-/
import Derived.Test.YtpdmfbhjneodeaaDoorPuzM
namespace Go.Proofs.YtpdmfbhjneodeaaDoor
open Go.RowKit
/-- The number of a cell in the turned tray. -/
def tcN (W H k : Nat) : Nat := k % W * H + H - 1 - k / W
theorem tcN_lt {W H k : Nat} (h : k < nn W H) : k % W < W ∧ k / W < H := by
  have h0 : 0 < W := by
    rcases Nat.eq_zero_or_pos W with e | e
    · subst e; unfold nn at h; omega
    · exact e
  exact ⟨Nat.mod_lt _ h0, by unfold nn at h; exact (Nat.div_lt_iff_lt_mul h0).2 (by rw [Nat.mul_comm]; exact h)⟩
def tzV : Option (Grid × UInt8 × Nat) → Array Value
  | none => pv ByteArray.empty ByteArray.empty 0
  | some (g, b, k) => pv (txtB g.h g.w (tuS g.w g.h g.c)) ⟨#[b]⟩ (tcN g.w g.h k)
theorem tzV_pv (o : Option (Grid × UInt8 × Nat)) : ∃ s n z, tzV o = pv s n z := by
  cases o with
  | none => exact ⟨_, _, _, rfl⟩
  | some x => obtain ⟨g, b, k⟩ := x; exact ⟨_, _, _, rfl⟩
section
variable {P : Program} {w : World} {a : Act} {dst : Option Tmp} {ty : TypeId} {pos : String} {aft : Array Edge} {gd : Option (Nat × Bool)}
theorem e_convP {src dt : TypeId} (x : Operand) (v u : Value) (hx : a.eval x = v) (hr : (convert src dt v).run P w = .ok u w) :
    (execOp a.eval ⟨dst, .convert src dt x, ty, pos, aft, gd⟩).run P w = .ok (.value u) w := by
  unfold execOp
  simp only [hx, Sem.run_bind, hr, Result.andThen_ok, Sem.run_pure]
theorem e_addP {T yt : TypeId} (x y : Operand) (s t u : ByteArray) (hx : a.eval x = .string s) (hy : a.eval y = .string t) (hr : (Op.stringOp .add s t).run P w = .ok (.string u) w) :
    (execOp a.eval ⟨dst, .binOp .add T x y yt, ty, pos, aft, gd⟩).run P w = .ok (.value (.string u)) w := by
  unfold execOp
  simp only [hx, hy, eqGuard_add, Sem.run_bind, Sem.run_pure, Result.andThen_ok]
  show ((Op.stringOp .add s t).run P w).andThen _ = _
  rw [hr]
  rfl
theorem e_subP {T yt : TypeId} (x y : Operand) (m n r : Int) (hx : a.eval x = .int .i64 m) (hy : a.eval y = .int .i64 n) (hr : m - n = r) (h : -9223372036854775808 ≤ r ∧ r ≤ 9223372036854775807) :
    (execOp a.eval ⟨dst, .binOp .sub T x y yt, ty, pos, aft, gd⟩).run P w = .ok (.value (.int .i64 r)) w := by
  unfold execOp
  simp only [hx, hy, eqGuard_sub, Sem.run_bind, Sem.run_pure, Result.andThen_ok, run_sub T m n r hr h]
end
theorem Tryd.convN (b : UInt8) (hb : isNameB b = true) (w : World) : (convert 5 9 (.int .u8 b.toNat)).run Tryd.prog w = .ok (.string ⟨#[b]⟩) w := by
  obtain ⟨h1, h2⟩ := cb_name_bounds.1 hb
  have e : b = UInt8.ofNat b.toNat := by simp
  have hx : b.toNat = 97 ∨ b.toNat = 98 ∨ b.toNat = 99 ∨ b.toNat = 100 ∨ b.toNat = 101 ∨ b.toNat = 102 := by omega
  have hy : b = 97 ∨ b = 98 ∨ b = 99 ∨ b = 100 ∨ b = 101 ∨ b = 102 := by
    rcases hx with h | h | h | h | h | h <;> rw [h] at e <;> simp [e]
  rcases hy with rfl | rfl | rfl | rfl | rfl | rfl
  · show (convert 5 9 (.int .u8 97)).run Tryd.prog w = .ok (.string ⟨#[97]⟩) w
    kernel_rfl
  · show (convert 5 9 (.int .u8 98)).run Tryd.prog w = .ok (.string ⟨#[98]⟩) w
    kernel_rfl
  · show (convert 5 9 (.int .u8 99)).run Tryd.prog w = .ok (.string ⟨#[99]⟩) w
    kernel_rfl
  · show (convert 5 9 (.int .u8 100)).run Tryd.prog w = .ok (.string ⟨#[100]⟩) w
    kernel_rfl
  · show (convert 5 9 (.int .u8 101)).run Tryd.prog w = .ok (.string ⟨#[101]⟩) w
    kernel_rfl
  · show (convert 5 9 (.int .u8 102)).run Tryd.prog w = .ok (.string ⟨#[102]⟩) w
    kernel_rfl
set_option maxHeartbeats 1000000 in
set_option maxRecDepth 100000 in
theorem puzzle_any (g : Grid) (b : UInt8) (k : Nat) (w : World) (hb : isNameB b = true) (h1 : 1 ≤ g.w ∨ g.h = 0) (w7 : g.w ≤ 7) (h7 : g.h ≤ 7) (n36 : nn g.w g.h ≤ 36) : Calls Tryd.prog 18 #[.agg (qv g b k)] w (Ret (.agg (pv (txtB g.w g.h g.c) ⟨#[b]⟩ k)) w) := by
  have gg := Gr.refl w
  have HTX := hidI (fun w' => show Calls Tryd.prog 36 #[.agg (gv g.w g.h g.c)] w' (Ret (.string (txtB g.w g.h g.c)) w') from trayText_any g.w g.h g.c w' h1 w7 h7 n36)
  have HB := hidI hb
  obtain ⟨t, ht⟩ : ∃ t, t = txtB g.w g.h g.c := ⟨_, rfl⟩
  rw [← ht] at HTX ⊢
  clear ht hb h1 n36
  go_enter Tryd.func18, Tryd.ntmps18
  go_wp2_with (first | (refine r_box 45 _ (qv g b k) rfl rfl ?_; intro w1 B1 N1; have g1 := N1.gr; have b1 : Blk w1 B1 (qv g b k) 45 := N1.blk; have l1 := N1.lo; have t1 := N1.hi; have z1 := g1.size; have gg := gg.trans g1; clear N1) | (refine r_alloc (dst := some 2) 23 _ Tryd.ipzero rfl ?_; intro w2 B2 N2; have g2 := N2.gr; have b2 : Blk w2 B2 (pv ByteArray.empty ByteArray.empty 0) 23 := N2.blk; have l2 := N2.lo; have t2 := N2.hi; have z2 := g2.size; have b1 := g2.blk b1; have gg := gg.trans g2; clear N2; obtain ⟨b2_0, b2_1, b2_2⟩ := pcells b2))
  refine F_begin (fun w => (Blk w B1 (qv g b k) 45)) 9 10 #[false, false, false, false, false, false, false, false, false, false] rfl (by kernel_rfl) (by kernel_rfl) ?_
  have gd := (Gr.refl w2).drew
  have b1 := gd.blk b1
  have b2 := gd.blk b2
  have gg := gg.trans gd
  have zd := gd.size
  generalize w2.drew = wd at *
  refine F_free (v := .pointer (some ⟨B1, 0, none⟩)) 0 #[true, false, false, false, false, false, false, false, false, false] rfl (by kernel_rfl) (fun _ _ _ h => h) rfl (fun _ => e_val _ _ (Tryd.qf0 _ _)) (b1) ?_; simp only [Act.put, List.setIfInBounds_toArray, List.set_cons_succ, List.set_cons_zero]
  refine F_take (v := .agg (gv g.w g.h g.c)) 1 #[true, true, false, false, false, false, false, false, false, false] rfl (by kernel_rfl) (fun _ _ _ h => h) rfl (fun w hF => e_load_mid 43 (.tmp 3) B1 0 (gvG g).toList _ rfl (qcells hF).1 Tryd.underlying43 rfl (by rw [gvl]; exact Tryd.ginfo)) (b1) ?_; simp only [Act.put, List.setIfInBounds_toArray, List.set_cons_succ, List.set_cons_zero]
  refine F_free (v := .pointer (some ⟨B1, 38, none⟩)) 3 #[true, true, false, true, false, false, false, false, false, false] rfl (by kernel_rfl) (fun _ _ _ h => h) rfl (fun _ => e_val _ _ (Tryd.qf1 _ _)) (b1) ?_; simp only [Act.put, List.setIfInBounds_toArray, List.set_cons_succ, List.set_cons_zero]
  refine F_take (v := .int .u8 b.toNat) 4 #[true, true, false, true, true, false, false, false, false, false] rfl (by kernel_rfl) (fun _ _ _ h => h) rfl (fun w hF => e_load 5 (.tmp 6) _ _ rfl (Tryd.isAgg5 _) (qcells hF).2.1) (b1) ?_; simp only [Act.put, List.setIfInBounds_toArray, List.set_cons_succ, List.set_cons_zero]
  refine F_free (v := .string ⟨#[b]⟩) 5 #[true, true, false, true, true, true, false, false, false, false] rfl (by kernel_rfl) (fun _ _ _ h => h) rfl (fun _ => e_convP (.tmp 7) (.int .u8 b.toNat) (.string ⟨#[b]⟩) rfl (Tryd.convN b HB.out _)) (b1) ?_; simp only [Act.put, List.setIfInBounds_toArray, List.set_cons_succ, List.set_cons_zero]
  refine F_free (v := .pointer (some ⟨B1, 39, none⟩)) 6 #[true, true, false, true, true, true, true, false, false, false] rfl (by kernel_rfl) (fun _ _ _ h => h) rfl (fun _ => e_val _ _ (Tryd.qf2 _ _)) (b1) ?_; simp only [Act.put, List.setIfInBounds_toArray, List.set_cons_succ, List.set_cons_zero]
  refine F_take (v := .int .i64 k) 7 #[true, true, false, true, true, true, true, true, false, false] rfl (by kernel_rfl) (fun _ _ _ h => h) rfl (fun w hF => e_load 3 (.tmp 9) _ _ rfl (Tryd.isAgg3 _) (qcells hF).2.2) (b1) ?_; simp only [Act.put, List.setIfInBounds_toArray, List.set_cons_succ, List.set_cons_zero]
  refine F_one 2 #[true, true, true, true, true, true, true, true, false, false] rfl (by kernel_rfl) ?_
  refine r_call 36 [.tmp 4] _ [.agg (gv g.w g.h g.c)] (.string t) (fun w' => Gr wd w') Tryd.call36 rfl rfl (HTX.out wd) ?_
  intro w3 g3
  have b1 := g3.blk b1
  have b2 := g3.blk b2
  have gg := gg.trans g3
  have z3 := g3.size
  refine ⟨fun _ => b1, ?_⟩
  simp only [Act.put, List.setIfInBounds_toArray, List.set_cons_succ, List.set_cons_zero]
  refine F_free (v := .agg (pv t ⟨#[b]⟩ k)) 8 #[true, true, true, true, true, true, true, true, true, false] rfl (by kernel_rfl) (fun _ _ _ h => h) rfl (fun _ => e_buildP 23 [(0, .tmp 5), (1, .tmp 8), (2, .tmp 10)] [(0, .string t), (1, .string ⟨#[b]⟩), (2, .int .i64 k)] _ (Tryd.ipbuild _ _ _ _) rfl) (b1) ?_; simp only [Act.put, List.setIfInBounds_toArray, List.set_cons_succ, List.set_cons_zero]
  refine F_one 9 #[true, true, true, true, true, true, true, true, true, true] rfl (by kernel_rfl) ?_
  (refine r_store_row 23 23 _ _ _ rfl (pv (t) (⟨#[b]⟩) (k)) _ rfl b2 Tryd.ipsize rfl (pv_one _ _ _) rfl ?_; intro w4 u4 b2'; have z4 := u4.size; have gg := u4.gr gg (by omega); clear b2; have b2 := b2'; clear b2'; obtain ⟨b2_0, b2_1, b2_2⟩ := pcells b2)
  refine ⟨fun h => (by cases h), ?_⟩
  simp only [Act.put]
  refine F_done (by kernel_rfl) ?_
  go_wp2
  refine bodyPost_ret (results_row rfl _ _ _ _ _ _ rfl b2 Tryd.underlying23 rfl Tryd.ipinfo) rfl ?_
  exact ⟨rfl, gg⟩
end Go.Proofs.YtpdmfbhjneodeaaDoor
