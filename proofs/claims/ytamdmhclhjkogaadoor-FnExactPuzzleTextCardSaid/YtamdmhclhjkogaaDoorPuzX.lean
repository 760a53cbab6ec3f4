/-
  The texts of puzzles: in the program and in the model, and the law.
-/
import Derived.Test.YtamdmhclhjkogaaDoorPuzT
namespace Go.Proofs.YtamdmhclhjkogaaDoor
open Go.RowKit
def itB (k : Nat) : ByteArray := ⟨(Lib.decDigits k).toArray⟩
def cln : ByteArray := ⟨#[58]⟩
/-- The text of a puzzle. -/
def ptB (s n : ByteArray) (k : Nat) : ByteArray := s ++ cln ++ n ++ cln ++ itB k
theorem itB_one {k : Nat} (h : k < 10) : itB k = ⟨#[UInt8.ofNat (48 + k)]⟩ := by unfold itB; rw [Lib.decDigits_one h]
theorem itB_two {k : Nat} (h1 : ¬ k < 10) (h2 : k < 100) : itB k = itB (k / 10) ++ ⟨#[UInt8.ofNat (48 + k % 10)]⟩ := by
  rw [itB_one (k := k / 10) (by omega)]
  unfold itB
  rw [Lib.decDigits_two h1 h2]
  apply ByteArray.ext
  rw [ByteArray.data_append]
  rfl
theorem itB_size {k : Nat} (h : k < 100) : (itB k).size ≤ 2 := by
  by_cases h1 : k < 10
  · rw [itB_one h1]; show 1 ≤ 2; decide
  · unfold itB
    rw [Lib.decDigits_two h1 h]
    show 2 ≤ 2
    decide
theorem pt_join (s n : ByteArray) (k : Nat) : (⟨(Lib.join ([s, n, itB k].map (·.data.toList)) cln.data.toList).toArray⟩ : ByteArray) = ptB s n k := by
  apply ByteArray.ext
  unfold ptB
  simp only [ByteArray.data_append]
  simp only [List.map_cons, List.map_nil, Lib.join_cons, Lib.joinTail, List.flatten_cons, List.flatten_nil, List.append_nil]
  apply Array.toList_inj.1
  simp [cln]
theorem add_sum {P : Program} (w : World) (s t : ByteArray) (h : s.size + t.size ≤ 1000) : (Op.stringOp .add s t : Sem Value).run P w = .ok (.string (s ++ t)) w :=
  run_string_add_sum (P := P) w s t (by omega)
def ptV (s : ByteArray) : Option (Grid × UInt8 × Nat) → ByteArray
  | none => ByteArray.empty
  | some (_, b, k) => ptB s ⟨#[b]⟩ k
section
variable {P : Program} {w : World} {ops : Array Oper} {rest : List Oper} {a : Act} {Q : Exit → Act → World → Prop} {dst : Option Tmp} {ty : TypeId} {pos : String} {aft : Array Edge} {gd : Option (Nat × Bool)}
theorem e_quoP {T yt : TypeId} (x y : Operand) (m n : Nat) (hx : a.eval x = .int .i64 m) (hy : a.eval y = .int .i64 n) (hn : 0 < n) (hm : m ≤ 9223372036854775807) :
    (execOp a.eval ⟨dst, .binOp .quo T x y yt, ty, pos, aft, gd⟩).run P w = .ok (.value (.int .i64 (m / n : Nat))) w := by
  unfold execOp
  simp only [hx, hy, eqGuard_quo, Sem.run_bind, Sem.run_pure, Result.andThen_ok, run_quo T m n hn hm]
theorem e_remP {T yt : TypeId} (x y : Operand) (m n : Nat) (hx : a.eval x = .int .i64 m) (hy : a.eval y = .int .i64 n) (hn : 0 < n) :
    (execOp a.eval ⟨dst, .binOp .rem T x y yt, ty, pos, aft, gd⟩).run P w = .ok (.value (.int .i64 (m % n : Nat))) w := by
  unfold execOp
  simp only [hx, hy, eqGuard_rem, Sem.run_bind, Sem.run_pure, Result.andThen_ok, run_rem T m n hn]
theorem r_slice3P (t e : TypeId) (x y z : Operand) (u v r : Value) (hx : a.eval x = u) (hy : a.eval y = v) (hz : a.eval z = r)
    (hr : (Instr.buildSlice t 3 #[(0, u), (1, v), (2, r)]).run P w = .ok (.slice (some ⟨w.heap.size, 0, none⟩) 3 3) (w.alloc (.cells #[u, v, r] e)))
    (hgd : Region.wanted ⟨dst, .buildSlice t 3 #[(0, x), (1, y), (2, z)], ty, pos, aft, gd⟩ (yielded ops a.tmps) = true)
    (h : ∀ w1 B, New w w1 B #[u, v, r] e → wpList P ops Q rest (a.put dst (.slice (some ⟨B, 0, none⟩) 3 3)) w1) :
    wpList P ops Q (⟨dst, .buildSlice t 3 #[(0, x), (1, y), (2, z)], ty, pos, aft, gd⟩ :: rest) a w :=
  wpList_want hgd fun _ hK => by
    unfold Oper.wp execOp
    simp only [List.map_toArray, List.map_cons, List.map_nil, hx, hy, hz, Sem.run_bind, hr, Result.andThen_ok, Sem.run_pure, Oper.upon]
    exact hK _ _ (h _ _ (New.mk' w _ e))
end
theorem cellsP3 {w : World} {B : Nat} {x y z : ByteArray} {e : TypeId} (h : Blk w B #[.string x, .string y, .string z] e) : ∀ (j : Nat) u, [x, y, z][j]? = some u → w.cell? ⟨B, 0 + j, none⟩ = some (.string u) := by
  intro j u hj
  rw [Nat.zero_add, h.cell j]
  have h3 : j < 3 := by
    rcases Nat.lt_or_ge j 3 with h | h
    · exact h
    · rw [List.getElem?_eq_none (by simpa using h)] at hj; cases hj
  have : j = 0 ∨ j = 1 ∨ j = 2 := by omega
  rcases this with rfl | rfl | rfl <;> (simp at hj; subst hj; rfl)
theorem Tryd.bstr3P (x y z : ByteArray) (w : World) : (Instr.buildSlice 68 3 #[(0, .string x), (1, .string y), (2, .string z)]).run Tryd.prog w = .ok (.slice (some ⟨w.heap.size, 0, none⟩) 3 3) (w.alloc (.cells #[.string x, .string y, .string z] 9)) := by kernel_rfl
set_option maxHeartbeats 1000000 in
set_option maxRecDepth 100000 in
theorem text_any (g : Grid) (b : UInt8) (k : Nat) (w : World) (hb : isNameB b = true) (h1 : 1 ≤ g.w ∨ g.h = 0) (w7 : g.w ≤ 7) (h7 : g.h ≤ 7) (n36 : nn g.w g.h ≤ 36) (hk : k < 100) (hz : (txtB g.w g.h g.c).size ≤ 100) : Calls Tryd.prog 48 #[.agg (qv g b k)] w (Ret (.string (ptB (txtB g.w g.h g.c) ⟨#[b]⟩ k)) w) := by
  have gg := Gr.refl w
  have HTX := hidI (fun w' => show Calls Tryd.prog 82 #[.agg (gv g.w g.h g.c)] w' (Ret (.string (txtB g.w g.h g.c)) w') from trayText_any g.w g.h g.c w' h1 w7 h7 n36)
  have HB := hidI hb
  have HIT := hidI (fun w' => show Calls Tryd.prog 84 #[.int .i64 k] w' (fun e w'' => e = .returned (.string (itB k)) ∧ w'' = w') from Tryd.strconv_Itoa_small k hk w')
  obtain ⟨t, ht⟩ : ∃ t, t = txtB g.w g.h g.c := ⟨_, rfl⟩
  rw [← ht] at HTX hz ⊢
  have HJ := hidI (fun (w' : World) (B : Nat) (hbk : Blk w' B #[.string t, .string ⟨#[b]⟩, .string (itB k)] 9) => show Calls Tryd.prog 83 #[.slice (some ⟨B, 0, none⟩) 3 3, .string ⟨#[58]⟩] w' (Ret (.string (ptB t ⟨#[b]⟩ k)) w') from by
    have h := Tryd.strings_Join B 0 3 [t, ⟨#[b]⟩, itB k] cln w' (cellsP3 hbk) hbk.lt (by simp) (by simp) (by
      have e := congrArg ByteArray.size (pt_join t ⟨#[b]⟩ k)
      have e1 : (ptB t ⟨#[b]⟩ k).size = t.size + 1 + 1 + 1 + (itB k).size := by unfold ptB; simp only [ByteArray.size_append]; rfl
      have h2 := itB_size hk
      have e2 : (⟨(Lib.join ([t, ⟨#[b]⟩, itB k].map (·.data.toList)) cln.data.toList).toArray⟩ : ByteArray).size = (Lib.join ([t, ⟨#[b]⟩, itB k].map (·.data.toList)) cln.data.toList).length := List.size_toArray
      omega)
    rw [pt_join] at h
    exact h)
  clear ht hb h1 n36
  go_enter Tryd.func48, Tryd.ntmps48
  go_wp2_with (refine r_box 53 _ (qv g b k) rfl rfl ?_; intro w1 B1 N1; have g1 := N1.gr; have b1 : Blk w1 B1 (qv g b k) 53 := N1.blk; have l1 := N1.lo; have t1 := N1.hi; have z1 := g1.size; have gg := gg.trans g1; clear N1)
  refine F_begin (fun w => (Blk w B1 (qv g b k) 53)) 11 12 #[false, false, false, false, false, false, false, false, false, false, false, false] rfl (by kernel_rfl) (by kernel_rfl) ?_
  have gd := (Gr.refl w1).drew
  have b1 := gd.blk b1
  have gg := gg.trans gd
  have zd := gd.size
  generalize w1.drew = wd at *
  refine F_free (v := .pointer (some ⟨B1, 0, none⟩)) 0 #[true, false, false, false, false, false, false, false, false, false, false, false] rfl (by kernel_rfl) (fun _ _ _ h => h) rfl (fun _ => e_val _ _ (Tryd.qf0 _ _)) (b1) ?_; simp only [Act.put, List.setIfInBounds_toArray, List.set_cons_succ, List.set_cons_zero]
  refine F_take (v := .agg (gv g.w g.h g.c)) 1 #[true, true, false, false, false, false, false, false, false, false, false, false] rfl (by kernel_rfl) (fun _ _ _ h => h) rfl (fun w hF => e_load_mid 51 (.tmp 3) B1 0 (gvG g).toList _ rfl (qcells hF).1 Tryd.underlying51 rfl (by rw [gvl]; exact Tryd.ginfo)) (b1) ?_; simp only [Act.put, List.setIfInBounds_toArray, List.set_cons_succ, List.set_cons_zero]
  refine F_free (v := .pointer (some ⟨B1, 38, none⟩)) 3 #[true, true, false, true, false, false, false, false, false, false, false, false] rfl (by kernel_rfl) (fun _ _ _ h => h) rfl (fun _ => e_val _ _ (Tryd.qf1 _ _)) (b1) ?_; simp only [Act.put, List.setIfInBounds_toArray, List.set_cons_succ, List.set_cons_zero]
  refine F_take (v := .int .u8 b.toNat) 4 #[true, true, false, true, true, false, false, false, false, false, false, false] rfl (by kernel_rfl) (fun _ _ _ h => h) rfl (fun w hF => e_load 5 (.tmp 6) _ _ rfl (Tryd.isAgg5 _) (qcells hF).2.1) (b1) ?_; simp only [Act.put, List.setIfInBounds_toArray, List.set_cons_succ, List.set_cons_zero]
  refine F_free (v := .string ⟨#[b]⟩) 5 #[true, true, false, true, true, true, false, false, false, false, false, false] rfl (by kernel_rfl) (fun _ _ _ h => h) rfl (fun _ => e_convP (.tmp 7) (.int .u8 b.toNat) (.string ⟨#[b]⟩) rfl (Tryd.convN b HB.out _)) (b1) ?_; simp only [Act.put, List.setIfInBounds_toArray, List.set_cons_succ, List.set_cons_zero]
  refine F_free (v := .pointer (some ⟨B1, 39, none⟩)) 6 #[true, true, false, true, true, true, true, false, false, false, false, false] rfl (by kernel_rfl) (fun _ _ _ h => h) rfl (fun _ => e_val _ _ (Tryd.qf2 _ _)) (b1) ?_; simp only [Act.put, List.setIfInBounds_toArray, List.set_cons_succ, List.set_cons_zero]
  refine F_take (v := .int .i64 k) 7 #[true, true, false, true, true, true, true, true, false, false, false, false] rfl (by kernel_rfl) (fun _ _ _ h => h) rfl (fun w hF => e_load 3 (.tmp 9) _ _ rfl (Tryd.isAgg3 _) (qcells hF).2.2) (b1) ?_; simp only [Act.put, List.setIfInBounds_toArray, List.set_cons_succ, List.set_cons_zero]
  refine F_one 2 #[true, true, true, true, true, true, true, true, false, false, false, false] rfl (by kernel_rfl) ?_
  refine r_call 82 [.tmp 4] _ [.agg (gv g.w g.h g.c)] (.string t) (fun w' => Gr wd w') Tryd.call82 rfl rfl (HTX.out wd) ?_
  intro w3 g3
  have b1 := g3.blk b1
  have gg := gg.trans g3
  have z3 := g3.size
  refine ⟨fun _ => b1, ?_⟩
  simp only [Act.put, List.setIfInBounds_toArray, List.set_cons_succ, List.set_cons_zero]
  refine F_one 8 #[true, true, true, true, true, true, true, true, true, false, false, false] rfl (by kernel_rfl) ?_
  refine r_call 84 [.tmp 10] _ [.int .i64 k] (.string (itB k)) (fun w' => w' = w3) Tryd.call84 rfl rfl (HIT.out w3) ?_
  rintro _ rfl
  refine ⟨fun _ => b1, ?_⟩
  simp only [Act.put, List.setIfInBounds_toArray, List.set_cons_succ, List.set_cons_zero]
  refine F_one 9 #[true, true, true, true, true, true, true, true, true, true, false, false] rfl (by kernel_rfl) ?_
  refine r_slice3P 68 9 (.tmp 5) (.tmp 8) (.tmp 11) (.string t) (.string ⟨#[b]⟩) (.string (itB k)) rfl rfl rfl (Tryd.bstr3P _ _ _ _) rfl ?_
  intro w5 B5 N5
  have g5 := N5.gr
  have b1 := g5.blk b1
  have b5 := N5.blk
  have gg := gg.trans g5
  have z5 := g5.size
  refine ⟨fun _ => b1, ?_⟩
  simp only [Act.put, List.setIfInBounds_toArray, List.set_cons_succ, List.set_cons_zero]
  refine F_one 10 #[true, true, true, true, true, true, true, true, true, true, true, false] rfl (by kernel_rfl) ?_
  refine r_call 83 [.tmp 12, .const (.string ⟨#[58]⟩)] _ [.slice (some ⟨B5, 0, none⟩) 3 3, .string ⟨#[58]⟩] (.string (ptB t ⟨#[b]⟩ k)) (fun w' => Gr w5 w') Tryd.call83 rfl rfl (HJ.out w5 B5 b5) ?_
  intro w6 g6
  have b1 := g6.blk b1
  have gg := gg.trans g6
  refine ⟨fun _ => b1, ?_⟩
  simp only [Act.put, List.setIfInBounds_toArray, List.set_cons_succ, List.set_cons_zero]
  refine F_one 11 #[true, true, true, true, true, true, true, true, true, true, true, true] rfl (by kernel_rfl) ?_
  refine r_val (.string (ptB t ⟨#[b]⟩ k)) rfl rfl ?_
  refine ⟨fun h => (by cases h), ?_⟩
  simp only [Act.put, List.setIfInBounds_toArray, List.set_cons_succ, List.set_cons_zero]
  refine F_done (by kernel_rfl) ?_
  go_wp2
  go_ret
  exact ⟨rfl, gg⟩
theorem Tryd.bsl1P (b : UInt8) (w : World) : (Instr.buildSlice 56 1 #[(0, .int .u8 b.toNat)]).run Tryd.prog w = .ok (.slice (some ⟨w.heap.size, 0, none⟩) 1 1) (w.alloc (.cells #[.int .u8 b.toNat] 5)) := by kernel_rfl
theorem Tryd.cvb8P (x : Nat) (h : x < 256) (w : World) : (convert 3 5 (.int .i64 (x : Int))).run Tryd.prog w = .ok (.int .u8 (x : Int)) w := by
  have hs : Tryd.prog.underlying 3 = some (.int .i64) := Tryd.underlying3
  have hd : Tryd.prog.underlying 5 = some (.int .u8) := Tryd.underlying5
  have hw := IntWalk.u8_in (x : Int) (by omega)
  simp [convert, Conv.intToInt, run_underlying hs, run_underlying hd, hw]
theorem Tryd.cvu8P (x : Nat) (h : x ≤ 255) (w : World) : (convert 3 5 (.int .i64 (x : Int))).run Tryd.prog w = .ok (.int .u8 ((UInt8.ofNat x).toNat : Int)) w := by
  have e : (UInt8.ofNat x).toNat = x := by simp; omega
  rw [e]
  exact Tryd.cvb8P x (by omega) w
set_option maxHeartbeats 1000000 in
set_option maxRecDepth 100000 in
theorem l1Num_one (k : Nat) (w : World) (hk : k < 10) : Calls Tryd.prog 47 #[.int .i64 k] w (Ret (.string (itB k)) w) := by
  have gg := Gr.refl w
  obtain ⟨b, hb⟩ : ∃ b, b = UInt8.ofNat (48 + k) := ⟨_, rfl⟩
  have HV := hidI (show itB k = ⟨#[b]⟩ from by rw [hb]; exact itB_one hk)
  obtain ⟨x, hx⟩ : ∃ x, x = 48 + k := ⟨_, rfl⟩
  have HCV := hidI (fun w => show (convert 3 5 (.int .i64 (x : Int))).run Tryd.prog w = .ok (.int .u8 (b.toNat : Int)) w from by rw [hb, ← hx]; exact Tryd.cvu8P x (by omega) w)
  have HX := hidI (show (48 : Int) + (k : Int) = (x : Int) from by omega)
  clear hb
  go_enter Tryd.func47, Tryd.ntmps47
  go_wp2_with (first | (refine r_val (.int .i64 (x : Int)) (e_add _ _ 48 (k : Int) x rfl rfl HX.out (by omega)) rfl ?_) | (refine r_val (.int .u8 (b.toNat : Int)) (e_convP _ (.int .i64 (x : Int)) _ rfl (HCV.out _)) rfl ?_) | (refine r_slice1 56 5 (.tmp 7) (.int .u8 b.toNat) rfl (Tryd.bsl1P _ _) rfl ?_; intro w3 B3 N3; have g3 := N3.gr; have b3 := N3.blk; have gg := gg.trans g3) | (refine r_conv 56 9 _ _ (.string ⟨#[b]⟩) rfl (Tryd.conv B3 0 _ _ _ (bytes_one (Blk.cell b3 0)) 1 rfl) rfl ?_))
  go_ret
  exact ⟨by rw [HV.out]; rfl, gg⟩
set_option maxHeartbeats 2000000 in
set_option maxRecDepth 100000 in
theorem l1Num_any (k : Nat) (w : World) (hk : k < 100) : Calls Tryd.prog 47 #[.int .i64 k] w (Ret (.string (itB k)) w) := by
  by_cases h10 : k < 10
  · exact l1Num_one k w h10
  · have gg := Gr.refl w
    obtain ⟨b, hb⟩ : ∃ b, b = UInt8.ofNat (48 + k % 10) := ⟨_, rfl⟩
    obtain ⟨q, hq⟩ : ∃ q, q = k / 10 := ⟨_, rfl⟩
    obtain ⟨r, hr⟩ : ∃ r, r = k % 10 := ⟨_, rfl⟩
    have HV := hidI (show itB k = itB q ++ ⟨#[b]⟩ from by rw [hb, hq]; exact itB_two h10 hk)
    have HNQ := hidI (fun w' => l1Num_one q w' (by omega))
    have HSZ := hidI (show (itB q).size + (⟨#[b]⟩ : ByteArray).size ≤ 1000 from by have := itB_size (k := q) (by omega); show (itB q).size + 1 ≤ 1000; omega)
    obtain ⟨x, hx⟩ : ∃ x, x = 48 + r := ⟨_, rfl⟩
    have HCV := hidI (fun w => show (convert 3 5 (.int .i64 (x : Int))).run Tryd.prog w = .ok (.int .u8 (b.toNat : Int)) w from by rw [hb, ← hr, ← hx]; exact Tryd.cvu8P x (by omega) w)
    have HX := hidI (show (48 : Int) + (r : Int) = (x : Int) from by omega)
    have HQ := hidI hq
    have HR := hidI hr
    have hx255 : x ≤ 255 := by omega
    clear hb hq hr
    go_enter Tryd.func47, Tryd.ntmps47
    go_wp2
    refine F_begin (fun w => True) 10 11 #[false, false, false, false, false, false, false, false, false, false, false] rfl (by kernel_rfl) (by kernel_rfl) ?_
    have gd := (Gr.refl w).drew
    have gg := gg.trans gd
    generalize w.drew = wd at *
    refine F_free (v := .int .i64 k) 0 #[true, false, false, false, false, false, false, false, false, false, false] rfl (by kernel_rfl) (fun _ _ _ h => h) rfl (fun _ => rfl) (trivial) ?_; simp only [Act.put, List.setIfInBounds_toArray, List.set_cons_succ, List.set_cons_zero]
    refine F_free (v := .int .i64 (k / 10 : Nat)) 1 #[true, true, false, false, false, false, false, false, false, false, false] rfl (by kernel_rfl) (fun _ _ _ h => h) rfl (fun _ => e_quoP _ _ k 10 rfl rfl (by omega) (by omega)) (trivial) ?_; simp only [Act.put, List.setIfInBounds_toArray, List.set_cons_succ, List.set_cons_zero]
    rw [← HQ.out]
    refine F_free (v := .int .i64 k) 3 #[true, true, false, true, false, false, false, false, false, false, false] rfl (by kernel_rfl) (fun _ _ _ h => h) rfl (fun _ => rfl) (trivial) ?_; simp only [Act.put, List.setIfInBounds_toArray, List.set_cons_succ, List.set_cons_zero]
    refine F_free (v := .int .i64 (k % 10 : Nat)) 4 #[true, true, false, true, true, false, false, false, false, false, false] rfl (by kernel_rfl) (fun _ _ _ h => h) rfl (fun _ => e_remP _ _ k 10 rfl rfl (by omega)) (trivial) ?_; simp only [Act.put, List.setIfInBounds_toArray, List.set_cons_succ, List.set_cons_zero]
    rw [← HR.out]
    refine F_free (v := .int .i64 (x : Int)) 5 #[true, true, false, true, true, true, false, false, false, false, false] rfl (by kernel_rfl) (fun _ _ _ h => h) rfl (fun _ => e_add _ _ 48 (r : Int) x rfl rfl HX.out (by omega)) (trivial) ?_; simp only [Act.put, List.setIfInBounds_toArray, List.set_cons_succ, List.set_cons_zero]
    refine F_free (v := .int .u8 (b.toNat : Int)) 6 #[true, true, false, true, true, true, true, false, false, false, false] rfl (by kernel_rfl) (fun _ _ _ h => h) rfl (fun _ => e_convP _ (.int .i64 (x : Int)) _ rfl (HCV.out _)) (trivial) ?_; simp only [Act.put, List.setIfInBounds_toArray, List.set_cons_succ, List.set_cons_zero]
    refine F_two 2 7 #[true, true, true, true, true, true, true, false, false, false, false] #[true, true, false, true, true, true, true, true, false, false, false] rfl rfl (by kernel_rfl) ?_ ?_
    case' refine_1 =>
      refine r_call 47 [.tmp 11] _ [.int .i64 (q : Int)] (.string (itB q)) (fun w' => Gr wd w') Tryd.call47 rfl rfl (HNQ.out wd) ?_
      intro wc gc
      have gg := gg.trans gc
      refine ⟨fun _ => trivial, ?_⟩
      simp only [Act.put, List.setIfInBounds_toArray, List.set_cons_succ, List.set_cons_zero]
      refine F_one 7 #[true, true, true, true, true, true, true, true, false, false, false] rfl (by kernel_rfl) ?_
      refine r_slice1 56 5 (.tmp 16) (.int .u8 b.toNat) rfl (Tryd.bsl1P _ _) rfl ?_
      intro ws Bs Ns
      have gs := Ns.gr
      have bs := Ns.blk
      have gg := gg.trans gs
      refine ⟨fun _ => trivial, ?_⟩
      simp only [Act.put, List.setIfInBounds_toArray, List.set_cons_succ, List.set_cons_zero]
      refine F_one 8 #[true, true, true, true, true, true, true, true, true, false, false] rfl (by kernel_rfl) ?_
      refine r_conv 56 9 _ _ (.string ⟨#[b]⟩) rfl (Tryd.conv Bs 0 _ _ _ (bytes_one (Blk.cell bs 0)) 1 rfl) rfl ?_
      refine ⟨fun _ => trivial, ?_⟩
      simp only [Act.put, List.setIfInBounds_toArray, List.set_cons_succ, List.set_cons_zero]
      skip
      refine F_free (v := .string (itB q ++ ⟨#[b]⟩)) 9 #[true, true, true, true, true, true, true, true, true, true, false] rfl (by kernel_rfl) (fun _ _ _ h => h) rfl (fun _ => e_addP _ _ _ _ _ rfl rfl (add_sum _ _ _ HSZ.out)) (trivial) ?_; simp only [Act.put, List.setIfInBounds_toArray, List.set_cons_succ, List.set_cons_zero]
      refine F_one 10 #[true, true, true, true, true, true, true, true, true, true, true] rfl (by kernel_rfl) ?_
      refine r_val (.string (itB q ++ ⟨#[b]⟩)) rfl rfl ?_
      refine ⟨fun h => (by cases h), ?_⟩
      simp only [Act.put, List.setIfInBounds_toArray, List.set_cons_succ, List.set_cons_zero]
      refine F_done (by kernel_rfl) ?_
      go_wp2
      go_ret
      exact ⟨by rw [HV.out]; rfl, gg⟩
    case' refine_2 =>
      refine r_slice1 56 5 (.tmp 16) (.int .u8 b.toNat) rfl (Tryd.bsl1P _ _) rfl ?_
      intro ws Bs Ns
      have gs := Ns.gr
      have bs := Ns.blk
      have gg := gg.trans gs
      refine ⟨fun _ => trivial, ?_⟩
      simp only [Act.put, List.setIfInBounds_toArray, List.set_cons_succ, List.set_cons_zero]
      refine F_two 2 8 #[true, true, true, true, true, true, true, true, false, false, false] #[true, true, false, true, true, true, true, true, true, false, false] rfl rfl (by kernel_rfl) ?_ ?_
      case' refine_1 =>
        refine r_call 47 [.tmp 11] _ [.int .i64 (q : Int)] (.string (itB q)) (fun w' => Gr ws w') Tryd.call47 rfl rfl (HNQ.out ws) ?_
        intro wc gc
        have gg := gg.trans gc
        refine ⟨fun _ => trivial, ?_⟩
        simp only [Act.put, List.setIfInBounds_toArray, List.set_cons_succ, List.set_cons_zero]
        have bs := gc.blk bs
        refine F_one 8 #[true, true, true, true, true, true, true, true, true, false, false] rfl (by kernel_rfl) ?_
        refine r_conv 56 9 _ _ (.string ⟨#[b]⟩) rfl (Tryd.conv Bs 0 _ _ _ (bytes_one (Blk.cell bs 0)) 1 rfl) rfl ?_
        refine ⟨fun _ => trivial, ?_⟩
        simp only [Act.put, List.setIfInBounds_toArray, List.set_cons_succ, List.set_cons_zero]
        skip
        refine F_free (v := .string (itB q ++ ⟨#[b]⟩)) 9 #[true, true, true, true, true, true, true, true, true, true, false] rfl (by kernel_rfl) (fun _ _ _ h => h) rfl (fun _ => e_addP _ _ _ _ _ rfl rfl (add_sum _ _ _ HSZ.out)) (trivial) ?_; simp only [Act.put, List.setIfInBounds_toArray, List.set_cons_succ, List.set_cons_zero]
        refine F_one 10 #[true, true, true, true, true, true, true, true, true, true, true] rfl (by kernel_rfl) ?_
        refine r_val (.string (itB q ++ ⟨#[b]⟩)) rfl rfl ?_
        refine ⟨fun h => (by cases h), ?_⟩
        simp only [Act.put, List.setIfInBounds_toArray, List.set_cons_succ, List.set_cons_zero]
        refine F_done (by kernel_rfl) ?_
        go_wp2
        go_ret
        exact ⟨by rw [HV.out]; rfl, gg⟩
      case' refine_2 =>
        refine r_conv 56 9 _ _ (.string ⟨#[b]⟩) rfl (Tryd.conv Bs 0 _ _ _ (bytes_one (Blk.cell bs 0)) 1 rfl) rfl ?_
        refine ⟨fun _ => trivial, ?_⟩
        simp only [Act.put, List.setIfInBounds_toArray, List.set_cons_succ, List.set_cons_zero]
        refine F_one 2 #[true, true, true, true, true, true, true, true, true, false, false] rfl (by kernel_rfl) ?_
        refine r_call 47 [.tmp 11] _ [.int .i64 (q : Int)] (.string (itB q)) (fun w' => Gr ws w') Tryd.call47 rfl rfl (HNQ.out ws) ?_
        intro wc gc
        have gg := gg.trans gc
        refine ⟨fun _ => trivial, ?_⟩
        simp only [Act.put, List.setIfInBounds_toArray, List.set_cons_succ, List.set_cons_zero]
        skip
        refine F_free (v := .string (itB q ++ ⟨#[b]⟩)) 9 #[true, true, true, true, true, true, true, true, true, true, false] rfl (by kernel_rfl) (fun _ _ _ h => h) rfl (fun _ => e_addP _ _ _ _ _ rfl rfl (add_sum _ _ _ HSZ.out)) (trivial) ?_; simp only [Act.put, List.setIfInBounds_toArray, List.set_cons_succ, List.set_cons_zero]
        refine F_one 10 #[true, true, true, true, true, true, true, true, true, true, true] rfl (by kernel_rfl) ?_
        refine r_val (.string (itB q ++ ⟨#[b]⟩)) rfl rfl ?_
        refine ⟨fun h => (by cases h), ?_⟩
        simp only [Act.put, List.setIfInBounds_toArray, List.set_cons_succ, List.set_cons_zero]
        refine F_done (by kernel_rfl) ?_
        go_wp2
        go_ret
        exact ⟨by rw [HV.out]; rfl, gg⟩
set_option maxHeartbeats 2000000 in
set_option maxRecDepth 100000 in
theorem iPuzzleText (s n : ByteArray) (z : Int) (w : World) (hm : ML w) (hs : s.size ≤ 1048576) : Calls Tryd.prog 21 #[.agg (pv s n z)] w (Ret (.tuple #[.string (ptV s (pzS s.data.toList n z)), .bool (pzS s.data.toList n z).isSome]) w) := by
  have gg := Gr.refl w
  cases hp : pzS s.data.toList n z with
  | none =>
    have HA := hidI (fun w (hm : ML w) => hp ▸ readPuzzle_any s n z w hm hs)
    clear hp
    go_enter Tryd.func21, Tryd.ntmps21
    go_wp2_with (first | (refine r_box 26 _ (pv (s) (n) (z)) rfl rfl ?_; intro w1 B1 N1; have g1 := N1.gr; have b1 : Blk w1 B1 (pv (s) (n) (z)) 26 := N1.blk; have l1 := N1.lo; have t1 := N1.hi; have z1 := g1.size; have gg := gg.trans g1; clear N1; obtain ⟨b1_0, b1_1, b1_2⟩ := pcells b1) | (refine r_load_row 26 _ _ rfl _ _ _ b1 Tryd.underlying26 rfl Tryd.ipinfo rfl ?_) | (go_at_call 40; refine (HA.out _ (gg.ml hm)).mono ?_; rintro e w3 ⟨rfl, g3⟩; have z3 := g3.size; have gg := gg.trans g3) | (refine r_alloc (dst := some 4) 53 _ Tryd.qzero rfl ?_; intro w4 B4 N4; have g4 := N4.gr; have b4 : Blk w4 B4 (qv g00 0 0) 53 := N4.blk; have l4 := N4.lo; have t4 := N4.hi; have z4 := g4.size; have gg := gg.trans g4; clear N4) | (refine r_store_row 53 53 _ _ _ rfl (qv (g00) (0) (0)) _ rfl b4 (Tryd.qsize _ _ _) (by simp only [qv_size]) (qv_one _ _ _) rfl ?_; intro w5 u5 b4'; have z5 := u5.size; have gg := u5.gr gg (by omega); clear b4; have b4 := b4'; clear b4'))
    go_ret2
    exact ⟨rfl, gg⟩
  | some x =>
    obtain ⟨g, b, k⟩ := x
    have hz := pz_some hp
    obtain ⟨hc, hw1, hh1, hl⟩ := pz_tray hz
    have w7 := hc.w7
    have h7 := hc.h7
    have n36 := hc.n36
    have hlen := hc.len
    have hk := hz.kl
    have HA := hidI (fun w (hm : ML w) => hp ▸ readPuzzle_any s n z w hm hs)
    have et := txt_of hz.pr
    have h42 := parse_len hz.pr
    have HT := hidI (fun w' => show Calls Tryd.prog 48 #[.agg (qv g b k)] w' (Ret (.string (ptB s ⟨#[b]⟩ k)) w') from by
      have := text_any g b k w' hz.isN (.inl hw1) w7 h7 n36 (by omega) (by rw [← et]; have : s.size = s.data.toList.length := by simp
                                                                           omega)
      rwa [← et] at this)
    clear hp hz hc et
    go_enter Tryd.func21, Tryd.ntmps21
    go_wp2_with (first | (refine r_box 26 _ (pv (s) (n) (z)) rfl rfl ?_; intro w1 B1 N1; have g1 := N1.gr; have b1 : Blk w1 B1 (pv (s) (n) (z)) 26 := N1.blk; have l1 := N1.lo; have t1 := N1.hi; have z1 := g1.size; have gg := gg.trans g1; clear N1; obtain ⟨b1_0, b1_1, b1_2⟩ := pcells b1) | (refine r_load_row 26 _ _ rfl _ _ _ b1 Tryd.underlying26 rfl Tryd.ipinfo rfl ?_) | (go_at_call 40; refine (HA.out _ (gg.ml hm)).mono ?_; rintro e w3 ⟨rfl, g3⟩; have z3 := g3.size; have gg := gg.trans g3) | (refine r_alloc (dst := some 4) 53 _ Tryd.qzero rfl ?_; intro w4 B4 N4; have g4 := N4.gr; have b4 : Blk w4 B4 (qv g00 0 0) 53 := N4.blk; have l4 := N4.lo; have t4 := N4.hi; have z4 := g4.size; have gg := gg.trans g4; clear N4) | (refine r_store_row 53 53 _ _ _ rfl (qv (g) (b) (k)) _ rfl b4 (Tryd.qsize _ _ _) (by simp only [qv_size]) (qv_one _ _ _) rfl ?_; intro w5 u5 b4'; have z5 := u5.size; have gg := u5.gr gg (by omega); clear b4; have b4 := b4'; clear b4') | (refine r_load_row 53 _ _ rfl _ _ _ b4 Tryd.underlying53 rfl (Tryd.qinfo _ _ _) rfl ?_) | (go_at_call 48; refine (HT.out _).mono ?_; rintro e w6 ⟨rfl, g6⟩; have z6 := g6.size; have gg := gg.trans g6))
    go_ret2
    exact ⟨rfl, gg⟩
set_option maxHeartbeats 2000000 in
set_option maxRecDepth 100000 in
theorem sPuzzleText (s n : ByteArray) (z : Int) (w : World) (hs : s.size ≤ 1048576) : Calls Tryd.prog 20 #[.agg (pv s n z)] w (Ret (.tuple #[.string (ptV s (pzS s.data.toList n z)), .bool (pzS s.data.toList n z).isSome]) w) := by
  have gg := Gr.refl w
  cases hp : pzS s.data.toList n z with
  | none =>
    have HA := hidI (fun w => show Calls Tryd.prog 39 #[.agg (pv s n z)] w (Ret (.bool false) w) from by have := puGood_any s n z w hs; rw [hp] at this; exact this)
    clear hp
    go_enter Tryd.func20, Tryd.ntmps20
    go_wp2_with (first | (refine r_box 26 _ (pv (s) (n) (z)) rfl rfl ?_; intro w1 B1 N1; have g1 := N1.gr; have b1 : Blk w1 B1 (pv (s) (n) (z)) 26 := N1.blk; have l1 := N1.lo; have t1 := N1.hi; have z1 := g1.size; have gg := gg.trans g1; clear N1; obtain ⟨b1_0, b1_1, b1_2⟩ := pcells b1) | (refine r_load_row 26 _ _ rfl _ _ _ b1 Tryd.underlying26 rfl Tryd.ipinfo rfl ?_) | (go_at_call 39; refine (HA.out _).mono ?_; rintro e w3 ⟨rfl, g3⟩; have z3 := g3.size; have gg := gg.trans g3))
    go_ret2
    exact ⟨rfl, gg⟩
  | some x =>
    obtain ⟨g, b, k⟩ := x
    have hz := pz_some hp
    obtain ⟨hc, hw1, hh1, hl⟩ := pz_tray hz
    have n36 := hc.n36
    have hlen := hc.len
    have hk := hz.kl
    have HA := hidI (fun w => show Calls Tryd.prog 39 #[.agg (pv s n z)] w (Ret (.bool true) w) from by have := puGood_any s n z w hs; rw [hp] at this; exact this)
    obtain rfl : z = k := hz.ze
    obtain rfl : n = ⟨#[b]⟩ := hz.n1
    have h42 : s.size ≤ 42 := by have := parse_len hz.pr; have e : s.size = s.data.toList.length := by simp
                                 omega
    have hk100 : k < 100 := by omega
    have hi2 := itB_size hk100
    obtain ⟨i, hi⟩ : ∃ i, i = itB k := ⟨_, rfl⟩
    rw [← hi] at hi2
    have HNU := hidI (fun w' => show Calls Tryd.prog 47 #[.int .i64 k] w' (Ret (.string i) w') from hi ▸ l1Num_any k w' hk100)
    have HV := hidI (show ptV s (some (g, b, k)) = s ++ cln ++ ⟨#[b]⟩ ++ cln ++ i from by rw [hi]; rfl)
    have q1 : s.size + cln.size ≤ 1000 := by show s.size + 1 ≤ 1000; omega
    have q2 : (s ++ cln).size + (⟨#[b]⟩ : ByteArray).size ≤ 1000 := by rw [ByteArray.size_append]; show s.size + 1 + 1 ≤ 1000; omega
    have q3 : (s ++ cln ++ ⟨#[b]⟩).size + cln.size ≤ 1000 := by rw [ByteArray.size_append, ByteArray.size_append]; show s.size + 1 + 1 + 1 ≤ 1000; omega
    have q4 : (s ++ cln ++ ⟨#[b]⟩ ++ cln).size + i.size ≤ 1000 := by rw [ByteArray.size_append, ByteArray.size_append, ByteArray.size_append]; show s.size + 1 + 1 + 1 + i.size ≤ 1000; omega
    clear hp hz hc hlen hk hi
    go_enter Tryd.func20, Tryd.ntmps20
    go_wp2_with (first | (refine r_box 26 _ (pv (s) (⟨#[b]⟩) (k)) rfl rfl ?_; intro w1 B1 N1; have g1 := N1.gr; have b1 : Blk w1 B1 (pv (s) (⟨#[b]⟩) (k)) 26 := N1.blk; have l1 := N1.lo; have t1 := N1.hi; have z1 := g1.size; have gg := gg.trans g1; clear N1; obtain ⟨b1_0, b1_1, b1_2⟩ := pcells b1) | (refine r_load_row 26 _ _ rfl _ _ _ b1 Tryd.underlying26 rfl Tryd.ipinfo rfl ?_) | (go_at_call 39; refine (HA.out _).mono ?_; rintro e w3 ⟨rfl, g3⟩; have z3 := g3.size; have b1 := g3.blk b1; obtain ⟨b1_0, b1_1, b1_2⟩ := pcells b1; have gg := gg.trans g3))
    refine q_whole (by kernel_rfl) (by kernel_rfl) ?_
    refine q_take (.pointer (some ⟨B1, 0, none⟩)) rfl (fun w' hw' => e_val _ _ (Tryd.ipf0 _ _)) ?_; simp only [Act.put, List.setIfInBounds_toArray, List.set_cons_succ, List.set_cons_zero]
    refine q_take (.string s) rfl (fun w' hw' => e_load 9 (.tmp 7) _ _ rfl (Tryd.isAgg9 _) (hw'.cell b1_0)) ?_; simp only [Act.put, List.setIfInBounds_toArray, List.set_cons_succ, List.set_cons_zero]
    refine q_take (.string (s ++ cln)) rfl (fun w' hw' => e_addP _ _ s cln _ rfl rfl (add_sum _ _ _ q1)) ?_
    simp only [Act.put, List.setIfInBounds_toArray, List.set_cons_succ, List.set_cons_zero]
    refine q_take (.pointer (some ⟨B1, 1, none⟩)) rfl (fun w' hw' => e_val _ _ (Tryd.ipf1 _ _)) ?_; simp only [Act.put, List.setIfInBounds_toArray, List.set_cons_succ, List.set_cons_zero]
    refine q_take (.string ⟨#[b]⟩) rfl (fun w' hw' => e_load 9 (.tmp 10) _ _ rfl (Tryd.isAgg9 _) (hw'.cell b1_1)) ?_; simp only [Act.put, List.setIfInBounds_toArray, List.set_cons_succ, List.set_cons_zero]
    refine q_take (.string (s ++ cln ++ ⟨#[b]⟩)) rfl (fun w' hw' => e_addP _ _ _ _ _ rfl rfl (add_sum _ _ _ q2)) ?_
    simp only [Act.put, List.setIfInBounds_toArray, List.set_cons_succ, List.set_cons_zero]
    refine q_take (.string (s ++ cln ++ ⟨#[b]⟩ ++ cln)) rfl (fun w' hw' => e_addP _ _ _ cln _ rfl rfl (add_sum _ _ _ q3)) ?_
    simp only [Act.put, List.setIfInBounds_toArray, List.set_cons_succ, List.set_cons_zero]
    refine q_take (.pointer (some ⟨B1, 2, none⟩)) rfl (fun w' hw' => e_val _ _ (Tryd.ipf2 _ _)) ?_; simp only [Act.put, List.setIfInBounds_toArray, List.set_cons_succ, List.set_cons_zero]
    refine q_take (.int .i64 k) rfl (fun w' hw' => e_load 3 (.tmp 14) _ _ rfl (Tryd.isAgg3 _) (hw'.cell b1_2)) ?_; simp only [Act.put, List.setIfInBounds_toArray, List.set_cons_succ, List.set_cons_zero]
    refine q_call 47 [.tmp 15] _ [.int .i64 k] (.string i) Tryd.call47 rfl rfl (fun w' hw' => ((HNU.out w').mono fun e w'' h => ⟨h.1, hw'.trans h.2⟩)) ?_; simp only [Act.put, List.setIfInBounds_toArray, List.set_cons_succ, List.set_cons_zero]
    refine q_take (.string (s ++ cln ++ ⟨#[b]⟩ ++ cln ++ i)) rfl (fun w' hw' => e_addP _ _ _ _ _ rfl rfl (add_sum _ _ _ q4)) ?_
    simp only [Act.put, List.setIfInBounds_toArray, List.set_cons_succ, List.set_cons_zero]
    refine q_assign _ (.string (s ++ cln ++ ⟨#[b]⟩ ++ cln ++ i)) rfl rfl ?_; simp only [Act.put, List.setIfInBounds_toArray, List.set_cons_succ, List.set_cons_zero]
    refine q_assign _ (.bool true) rfl rfl ?_; simp only [Act.put, List.setIfInBounds_toArray, List.set_cons_succ, List.set_cons_zero]
    refine wpQuiet_nil ?_; intro w7 g7; have z7 := g7.size; have gg := gg.trans g7
    go_wp2
    go_ret2
    exact ⟨by rw [HV.out]; rfl, gg⟩
set_option maxHeartbeats 1000000 in
theorem lawPuzzleText (s n : ByteArray) (z : Int) (w : World) (hbs : s.size ≤ maxLen) (hbn : n.size ≤ maxLen) (hm : ML w) : Calls Tryd.prog 5 #[.agg (pv s n z)] w (Ret (.bool true) w) := by
  have gg := Gr.refl w
  by_cases hl : 1048576 < s.size + n.size
  · have HZ := hidI (show szZ s.size n.size = -1 from if_pos hl)
    go_enter Tryd.func5, Tryd.ntmps5
    go_wp2_with (first | (refine r_box 23 _ (pv (s) (n) (z)) rfl rfl ?_; intro w1 B1 N1; have g1 := N1.gr; have b1 : Blk w1 B1 (pv (s) (n) (z)) 23 := N1.blk; have l1 := N1.lo; have t1 := N1.hi; have z1 := g1.size; have gg := gg.trans g1; clear N1; obtain ⟨b1_0, b1_1, b1_2⟩ := pcells b1) | (refine r_load_row 23 _ _ rfl _ _ _ b1 Tryd.underlying23 rfl Tryd.lpinfo rfl ?_) | (go_at_call 13; refine (szPuzzle_any s n z _ hbs hbn).mono ?_; rintro e w2 ⟨rfl, g2⟩; rw [HZ.out]; have z2 := g2.size; have gg := gg.trans g2))
    go_ret
    exact ⟨rfl, gg⟩
  · have hs : s.size ≤ 1048576 := by omega
    have HZ := hidI (show szZ s.size n.size = 1048576 - (s.size : Int) - n.size from if_neg hl)
    have hz0 : ¬ (1048576 - (s.size : Int) - n.size < 0) := by omega
    obtain ⟨ok, hok⟩ : ∃ ok, ok = (pzS s.data.toList n z).isSome := ⟨_, rfl⟩
    obtain ⟨t, ht⟩ : ∃ t, t = ptV s (pzS s.data.toList n z) := ⟨_, rfl⟩
    have HOK := hidI hok
    have HT := hidI ht
    clear hl hok ht
    go_enter Tryd.func5, Tryd.ntmps5
    go_wp2_with (first | (refine r_box 23 _ (pv (s) (n) (z)) rfl rfl ?_; intro w1 B1 N1; have g1 := N1.gr; have b1 : Blk w1 B1 (pv (s) (n) (z)) 23 := N1.blk; have l1 := N1.lo; have t1 := N1.hi; have z1 := g1.size; have gg := gg.trans g1; clear N1; obtain ⟨b1_0, b1_1, b1_2⟩ := pcells b1) | (refine r_load_row 23 _ _ rfl _ _ _ b1 Tryd.underlying23 rfl Tryd.lpinfo rfl ?_) | (go_at_call 13; refine (szPuzzle_any s n z _ hbs hbn).mono ?_; rintro e w2 ⟨rfl, g2⟩; rw [HZ.out]; have z2 := g2.size; have b1 := g2.blk b1; have gg := gg.trans g2) | (go_at_call 15; refine (toPuzzle_any s n z _).mono ?_; rintro e w3 ⟨rfl, g3⟩; have gg := gg.trans g3; have b1 := g3.blk b1; have z3 := g3.size) | (go_at_call 20; refine (sPuzzleText s n z _ hs).mono ?_; rintro e w4 ⟨rfl, g4⟩; rw [← HOK.out, ← HT.out]; have z4 := g4.size; have b1 := g4.blk b1; have gg := gg.trans g4) | (go_at_call 21; refine (iPuzzleText s n z _ (gg.ml hm) hs).mono ?_; rintro e w5 ⟨rfl, g5⟩; rw [← HOK.out, ← HT.out]; have z5 := g5.size; have b1 := g5.blk b1; have gg := gg.trans g5))
    go_ret
    exact ⟨rfl, gg⟩
end Go.Proofs.YtamdmhclhjkogaaDoor
