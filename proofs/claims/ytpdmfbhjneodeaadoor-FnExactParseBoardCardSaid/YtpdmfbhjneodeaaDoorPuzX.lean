/-
  The texts of puzzles: in the program and in the model, and the law.
-/
import Derived.Test.YtpdmfbhjneodeaaDoorPuzT
namespace Go.Proofs.YtpdmfbhjneodeaaDoor
open Go.RowKit
def itB (k : Nat) : ByteArray := ⟨(Lib.decDigits k).toArray⟩
def cln : ByteArray := ⟨#[58]⟩
/-- The text of a puzzle. -/
def ptB (s n : ByteArray) (k : Nat) : ByteArray := s ++ cln ++ n ++ cln ++ itB k
theorem itB_one {k : Nat} (h : k < 10) : itB k = ⟨#[UInt8.ofNat (48 + k)]⟩ := by unfold itB; rw [Lib.decDigits_one h]
theorem itB_two {k : Nat} (h1 : ¬ k < 10) (h2 : k < 100) : itB k = itB (k / 10) ++ ⟨#[UInt8.ofNat (48 + k % 10)]⟩ := by
  rw [itB_one (k := k / 10) (by omega)]
  unfold itB
  rw [Lib.decDigits_two h1 h2]
  apply ByteArray.ext
  rw [ByteArray.data_append]
  rfl
theorem itB_size {k : Nat} (h : k < 100) : (itB k).size ≤ 2 := by
  by_cases h1 : k < 10
  · rw [itB_one h1]; show 1 ≤ 2; decide
  · unfold itB
    rw [Lib.decDigits_two h1 h]
    show 2 ≤ 2
    decide
theorem pt_join (s n : ByteArray) (k : Nat) : (⟨(Lib.join ([s, n, itB k].map (·.data.toList)) cln.data.toList).toArray⟩ : ByteArray) = ptB s n k := by
  apply ByteArray.ext
  unfold ptB
  simp only [ByteArray.data_append]
  simp only [List.map_cons, List.map_nil, Lib.join_cons, Lib.joinTail, List.flatten_cons, List.flatten_nil, List.append_nil]
  apply Array.toList_inj.1
  simp [cln]
theorem add_sum {P : Program} (w : World) (s t : ByteArray) (h : s.size + t.size ≤ 1000) : (Op.stringOp .add s t : Sem Value).run P w = .ok (.string (s ++ t)) w :=
  run_string_add_sum (P := P) w s t (by omega)
def ptV (s : ByteArray) : Option (Grid × UInt8 × Nat) → ByteArray
  | none => ByteArray.empty
  | some (_, b, k) => ptB s ⟨#[b]⟩ k
section
variable {P : Program} {w : World} {ops : Array Oper} {rest : List Oper} {a : Act} {Q : Exit → Act → World → Prop} {dst : Option Tmp} {ty : TypeId} {pos : String} {aft : Array Edge} {gd : Option (Nat × Bool)}
theorem e_quoP {T yt : TypeId} (x y : Operand) (m n : Nat) (hx : a.eval x = .int .i64 m) (hy : a.eval y = .int .i64 n) (hn : 0 < n) (hm : m ≤ 9223372036854775807) :
    (execOp a.eval ⟨dst, .binOp .quo T x y yt, ty, pos, aft, gd⟩).run P w = .ok (.value (.int .i64 (m / n : Nat))) w := by
  unfold execOp
  simp only [hx, hy, eqGuard_quo, Sem.run_bind, Sem.run_pure, Result.andThen_ok, run_quo T m n hn hm]
theorem e_remP {T yt : TypeId} (x y : Operand) (m n : Nat) (hx : a.eval x = .int .i64 m) (hy : a.eval y = .int .i64 n) (hn : 0 < n) :
    (execOp a.eval ⟨dst, .binOp .rem T x y yt, ty, pos, aft, gd⟩).run P w = .ok (.value (.int .i64 (m % n : Nat))) w := by
  unfold execOp
  simp only [hx, hy, eqGuard_rem, Sem.run_bind, Sem.run_pure, Result.andThen_ok, run_rem T m n hn]
theorem r_slice3P (t e : TypeId) (x y z : Operand) (u v r : Value) (hx : a.eval x = u) (hy : a.eval y = v) (hz : a.eval z = r)
    (hr : (Instr.buildSlice t 3 #[(0, u), (1, v), (2, r)]).run P w = .ok (.slice (some ⟨w.heap.size, 0, none⟩) 3 3) (w.alloc (.cells #[u, v, r] e)))
    (hgd : Region.wanted ⟨dst, .buildSlice t 3 #[(0, x), (1, y), (2, z)], ty, pos, aft, gd⟩ (yielded ops a.tmps) = true)
    (h : ∀ w1 B, New w w1 B #[u, v, r] e → wpList P ops Q rest (a.put dst (.slice (some ⟨B, 0, none⟩) 3 3)) w1) :
    wpList P ops Q (⟨dst, .buildSlice t 3 #[(0, x), (1, y), (2, z)], ty, pos, aft, gd⟩ :: rest) a w :=
  wpList_want hgd fun _ hK => by
    unfold Oper.wp execOp
    simp only [List.map_toArray, List.map_cons, List.map_nil, hx, hy, hz, Sem.run_bind, hr, Result.andThen_ok, Sem.run_pure, Oper.upon]
    exact hK _ _ (h _ _ (New.mk' w _ e))
end
theorem cellsP3 {w : World} {B : Nat} {x y z : ByteArray} {e : TypeId} (h : Blk w B #[.string x, .string y, .string z] e) : ∀ (j : Nat) u, [x, y, z][j]? = some u → w.cell? ⟨B, 0 + j, none⟩ = some (.string u) := by
  intro j u hj
  rw [Nat.zero_add, h.cell j]
  have h3 : j < 3 := by
    rcases Nat.lt_or_ge j 3 with h | h
    · exact h
    · rw [List.getElem?_eq_none (by simpa using h)] at hj; cases hj
  have : j = 0 ∨ j = 1 ∨ j = 2 := by omega
  rcases this with rfl | rfl | rfl <;> (simp at hj; subst hj; rfl)
theorem Tryd.bstr3P (x y z : ByteArray) (w : World) : (Instr.buildSlice 35 3 #[(0, .string x), (1, .string y), (2, .string z)]).run Tryd.prog w = .ok (.slice (some ⟨w.heap.size, 0, none⟩) 3 3) (w.alloc (.cells #[.string x, .string y, .string z] 9)) := by kernel_rfl
set_option maxHeartbeats 1000000 in
set_option maxRecDepth 100000 in
theorem text_any (g : Grid) (b : UInt8) (k : Nat) (w : World) (hb : isNameB b = true) (h1 : 1 ≤ g.w ∨ g.h = 0) (w7 : g.w ≤ 7) (h7 : g.h ≤ 7) (n36 : nn g.w g.h ≤ 36) (hk : k < 100) (hz : (txtB g.w g.h g.c).size ≤ 100) : Calls Tryd.prog 17 #[.agg (qv g b k)] w (Ret (.string (ptB (txtB g.w g.h g.c) ⟨#[b]⟩ k)) w) := by
  have gg := Gr.refl w
  have HTX := hidI (fun w' => show Calls Tryd.prog 36 #[.agg (gv g.w g.h g.c)] w' (Ret (.string (txtB g.w g.h g.c)) w') from trayText_any g.w g.h g.c w' h1 w7 h7 n36)
  have HB := hidI hb
  have HIT := hidI (fun w' => show Calls Tryd.prog 37 #[.int .i64 k] w' (fun e w'' => e = .returned (.string (itB k)) ∧ w'' = w') from Tryd.strconv_Itoa_small k hk w')
  obtain ⟨t, ht⟩ : ∃ t, t = txtB g.w g.h g.c := ⟨_, rfl⟩
  rw [← ht] at HTX hz ⊢
  have HJ := hidI (fun (w' : World) (B : Nat) (hbk : Blk w' B #[.string t, .string ⟨#[b]⟩, .string (itB k)] 9) => show Calls Tryd.prog 35 #[.slice (some ⟨B, 0, none⟩) 3 3, .string ⟨#[58]⟩] w' (Ret (.string (ptB t ⟨#[b]⟩ k)) w') from by
    have h := Tryd.strings_Join B 0 3 [t, ⟨#[b]⟩, itB k] cln w' (cellsP3 hbk) hbk.lt (by simp) (by simp) (by
      have e := congrArg ByteArray.size (pt_join t ⟨#[b]⟩ k)
      have e1 : (ptB t ⟨#[b]⟩ k).size = t.size + 1 + 1 + 1 + (itB k).size := by unfold ptB; simp only [ByteArray.size_append]; rfl
      have h2 := itB_size hk
      have e2 : (⟨(Lib.join ([t, ⟨#[b]⟩, itB k].map (·.data.toList)) cln.data.toList).toArray⟩ : ByteArray).size = (Lib.join ([t, ⟨#[b]⟩, itB k].map (·.data.toList)) cln.data.toList).length := List.size_toArray
      omega)
    rw [pt_join] at h
    exact h)
  clear ht hb h1 n36
  go_enter Tryd.func17, Tryd.ntmps17
  go_wp2_with (refine r_box 45 _ (qv g b k) rfl rfl ?_; intro w1 B1 N1; have g1 := N1.gr; have b1 : Blk w1 B1 (qv g b k) 45 := N1.blk; have l1 := N1.lo; have t1 := N1.hi; have z1 := g1.size; have gg := gg.trans g1; clear N1)
  refine F_begin (fun w => (Blk w B1 (qv g b k) 45)) 11 12 #[false, false, false, false, false, false, false, false, false, false, false, false] rfl (by kernel_rfl) (by kernel_rfl) ?_
  have gd := (Gr.refl w1).drew
  have b1 := gd.blk b1
  have gg := gg.trans gd
  have zd := gd.size
  generalize w1.drew = wd at *
  refine F_free (v := .pointer (some ⟨B1, 0, none⟩)) 0 #[true, false, false, false, false, false, false, false, false, false, false, false] rfl (by kernel_rfl) (fun _ _ _ h => h) rfl (fun _ => e_val _ _ (Tryd.qf0 _ _)) (b1) ?_; simp only [Act.put, List.setIfInBounds_toArray, List.set_cons_succ, List.set_cons_zero]
  refine F_take (v := .agg (gv g.w g.h g.c)) 1 #[true, true, false, false, false, false, false, false, false, false, false, false] rfl (by kernel_rfl) (fun _ _ _ h => h) rfl (fun w hF => e_load_mid 43 (.tmp 3) B1 0 (gvG g).toList _ rfl (qcells hF).1 Tryd.underlying43 rfl (by rw [gvl]; exact Tryd.ginfo)) (b1) ?_; simp only [Act.put, List.setIfInBounds_toArray, List.set_cons_succ, List.set_cons_zero]
  refine F_free (v := .pointer (some ⟨B1, 38, none⟩)) 3 #[true, true, false, true, false, false, false, false, false, false, false, false] rfl (by kernel_rfl) (fun _ _ _ h => h) rfl (fun _ => e_val _ _ (Tryd.qf1 _ _)) (b1) ?_; simp only [Act.put, List.setIfInBounds_toArray, List.set_cons_succ, List.set_cons_zero]
  refine F_take (v := .int .u8 b.toNat) 4 #[true, true, false, true, true, false, false, false, false, false, false, false] rfl (by kernel_rfl) (fun _ _ _ h => h) rfl (fun w hF => e_load 5 (.tmp 6) _ _ rfl (Tryd.isAgg5 _) (qcells hF).2.1) (b1) ?_; simp only [Act.put, List.setIfInBounds_toArray, List.set_cons_succ, List.set_cons_zero]
  refine F_free (v := .string ⟨#[b]⟩) 5 #[true, true, false, true, true, true, false, false, false, false, false, false] rfl (by kernel_rfl) (fun _ _ _ h => h) rfl (fun _ => e_convP (.tmp 7) (.int .u8 b.toNat) (.string ⟨#[b]⟩) rfl (Tryd.convN b HB.out _)) (b1) ?_; simp only [Act.put, List.setIfInBounds_toArray, List.set_cons_succ, List.set_cons_zero]
  refine F_free (v := .pointer (some ⟨B1, 39, none⟩)) 6 #[true, true, false, true, true, true, true, false, false, false, false, false] rfl (by kernel_rfl) (fun _ _ _ h => h) rfl (fun _ => e_val _ _ (Tryd.qf2 _ _)) (b1) ?_; simp only [Act.put, List.setIfInBounds_toArray, List.set_cons_succ, List.set_cons_zero]
  refine F_take (v := .int .i64 k) 7 #[true, true, false, true, true, true, true, true, false, false, false, false] rfl (by kernel_rfl) (fun _ _ _ h => h) rfl (fun w hF => e_load 3 (.tmp 9) _ _ rfl (Tryd.isAgg3 _) (qcells hF).2.2) (b1) ?_; simp only [Act.put, List.setIfInBounds_toArray, List.set_cons_succ, List.set_cons_zero]
  refine F_one 2 #[true, true, true, true, true, true, true, true, false, false, false, false] rfl (by kernel_rfl) ?_
  refine r_call 36 [.tmp 4] _ [.agg (gv g.w g.h g.c)] (.string t) (fun w' => Gr wd w') Tryd.call36 rfl rfl (HTX.out wd) ?_
  intro w3 g3
  have b1 := g3.blk b1
  have gg := gg.trans g3
  have z3 := g3.size
  refine ⟨fun _ => b1, ?_⟩
  simp only [Act.put, List.setIfInBounds_toArray, List.set_cons_succ, List.set_cons_zero]
  refine F_one 8 #[true, true, true, true, true, true, true, true, true, false, false, false] rfl (by kernel_rfl) ?_
  refine r_call 37 [.tmp 10] _ [.int .i64 k] (.string (itB k)) (fun w' => w' = w3) Tryd.call37 rfl rfl (HIT.out w3) ?_
  rintro _ rfl
  refine ⟨fun _ => b1, ?_⟩
  simp only [Act.put, List.setIfInBounds_toArray, List.set_cons_succ, List.set_cons_zero]
  refine F_one 9 #[true, true, true, true, true, true, true, true, true, true, false, false] rfl (by kernel_rfl) ?_
  refine r_slice3P 35 9 (.tmp 5) (.tmp 8) (.tmp 11) (.string t) (.string ⟨#[b]⟩) (.string (itB k)) rfl rfl rfl (Tryd.bstr3P _ _ _ _) rfl ?_
  intro w5 B5 N5
  have g5 := N5.gr
  have b1 := g5.blk b1
  have b5 := N5.blk
  have gg := gg.trans g5
  have z5 := g5.size
  refine ⟨fun _ => b1, ?_⟩
  simp only [Act.put, List.setIfInBounds_toArray, List.set_cons_succ, List.set_cons_zero]
  refine F_one 10 #[true, true, true, true, true, true, true, true, true, true, true, false] rfl (by kernel_rfl) ?_
  refine r_call 35 [.tmp 12, .const (.string ⟨#[58]⟩)] _ [.slice (some ⟨B5, 0, none⟩) 3 3, .string ⟨#[58]⟩] (.string (ptB t ⟨#[b]⟩ k)) (fun w' => Gr w5 w') Tryd.call35 rfl rfl (HJ.out w5 B5 b5) ?_
  intro w6 g6
  have b1 := g6.blk b1
  have gg := gg.trans g6
  refine ⟨fun _ => b1, ?_⟩
  simp only [Act.put, List.setIfInBounds_toArray, List.set_cons_succ, List.set_cons_zero]
  refine F_one 11 #[true, true, true, true, true, true, true, true, true, true, true, true] rfl (by kernel_rfl) ?_
  refine r_val (.string (ptB t ⟨#[b]⟩ k)) rfl rfl ?_
  refine ⟨fun h => (by cases h), ?_⟩
  simp only [Act.put, List.setIfInBounds_toArray, List.set_cons_succ, List.set_cons_zero]
  refine F_done (by kernel_rfl) ?_
  go_wp2
  go_ret
  exact ⟨rfl, gg⟩
end Go.Proofs.YtpdmfbhjneodeaaDoor
