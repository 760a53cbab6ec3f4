/-
  A tray cropped to its open cells: in the program.
-/
import Derived.Test.YtagoipongdnegaaDoorBesideB
namespace Go.Proofs.YtagoipongdnegaaDoor
open Go.RowKit
/-- The outermost open cells among the first k: left, right (one further), top, below (one further). -/
def crL (W : Nat) (c : List UInt8) : Nat → Nat
  | 0 => W
  | k + 1 => if at0 c k = 35 then crL W c k else min (crL W c k) (k % W)
def crR (W : Nat) (c : List UInt8) : Nat → Nat
  | 0 => 0
  | k + 1 => if at0 c k = 35 then crR W c k else max (crR W c k) (k % W + 1)
def crT (W H : Nat) (c : List UInt8) : Nat → Nat
  | 0 => H
  | k + 1 => if at0 c k = 35 then crT W H c k else min (crT W H c k) (k / W)
def crB (W : Nat) (c : List UInt8) : Nat → Nat
  | 0 => 0
  | k + 1 => if at0 c k = 35 then crB W c k else max (crB W c k) (k / W + 1)
theorem cr_facts {W H : Nat} {c : List UInt8} (hW : 1 ≤ W) (k : Nat) (hk : k ≤ nn W H) :
    (cnt c 35 k = k ∧ crR W c k = 0 ∧ crB W c k = 0 ∧ crL W c k = W ∧ crT W H c k = H) ∨ (cnt c 35 k < k ∧ crL W c k < crR W c k ∧ crR W c k ≤ W ∧ crT W H c k < crB W c k ∧ crB W c k ≤ H) := by
  induction k with
  | zero => exact .inl ⟨rfl, rfl, rfl, rfl, rfl⟩
  | succ k ih =>
    have hm : k % W < W := Nat.mod_lt _ hW
    have hd : k / W < H := Nat.div_lt_of_lt_mul (show k < W * H from hk)
    have hc : cnt c 35 (k + 1) = cnt c 35 k + if at0 c k = 35 then 1 else 0 := rfl
    have hcl := cnt_le c 35 k
    by_cases h : at0 c k = 35
    · rw [hc, if_pos h, crL, if_pos h, crR, if_pos h, crT, if_pos h, crB, if_pos h]
      rcases ih (by omega) with ⟨a1, a2, a3, a4, a5⟩ | ⟨a1, a2, a3, a4, a5⟩
      · exact .inl ⟨by omega, a2, a3, a4, a5⟩
      · exact .inr ⟨by omega, a2, a3, a4, a5⟩
    · rw [hc, if_neg h, crL, if_neg h, crR, if_neg h, crT, if_neg h, crB, if_neg h]
      rcases ih (by omega) with ⟨a1, a2, a3, a4, a5⟩ | ⟨a1, a2, a3, a4, a5⟩
      · exact .inr ⟨by omega, by omega, by omega, by omega, by omega⟩
      · exact .inr ⟨by omega, by omega, by omega, by omega, by omega⟩
/-- A stretch of cells. -/
def seg (c : List UInt8) (o m : Nat) : List UInt8 := (List.range m).map fun x => at0 c (o + x)
theorem seg_length (c : List UInt8) (o m : Nat) : (seg c o m).length = m := by simp [seg]
theorem seg_get (c : List UInt8) (o m i : Nat) (h : i < m) : (seg c o m)[i]? = some (at0 c (o + i)) := by
  unfold seg
  rw [List.getElem?_map, List.getElem?_range h]
  rfl
/-- The cells of the first m rows from row t on, each cut to the columns l ≤ x < l + v. -/
def crC (W : Nat) (c : List UInt8) (l v t m : Nat) : List UInt8 := ((List.range m).map fun j => seg c (nn W (t + j) + l) v).flatten
theorem crC_succ (W : Nat) (c : List UInt8) (l v t m : Nat) : crC W c l v t (m + 1) = crC W c l v t m ++ seg c (nn W (t + m) + l) v := by
  unfold crC
  rw [List.range_succ, List.map_append, List.flatten_append]
  simp
theorem crC_length (W : Nat) (c : List UInt8) (l v t m : Nat) : (crC W c l v t m).length = nn v m := by
  induction m with
  | zero => rfl
  | succ m ih => rw [crC_succ, List.length_append, seg_length, ih]; exact (Nat.mul_succ _ _).symm
theorem cr_row (W : Nat) (c : List UInt8) (l v t m j : Nat) (h : j < m) : rowL v (crC W c l v t m) j = seg c (nn W (t + j) + l) v := by
  have hr : ∀ r ∈ (List.range m).map (fun j => seg c (nn W (t + j) + l) v), r.length = v := by
    intro r hr
    obtain ⟨i, _, rfl⟩ := List.mem_map.1 hr
    exact seg_length _ _ _
  have e := rows_flatten hr
  rw [List.length_map, List.length_range] at e
  have e1 := rowsL_get v (crC W c l v t m) m j h
  have e2 : (rowsL v (crC W c l v t m) m)[j]? = some (seg c (nn W (t + j) + l) v) := by
    show (rowsL v ((List.range m).map (fun j => seg c (nn W (t + j) + l) v)).flatten m)[j]? = _
    rw [e, List.getElem?_map, List.getElem?_range h]
    rfl
  rw [e1] at e2
  exact Option.some.inj e2
def segB (c : List UInt8) (o m : Nat) : ByteArray := ⟨(seg c o m).toArray⟩
theorem segB_size (c : List UInt8) (o m : Nat) : (segB c o m).size = m := by
  show (seg c o m).toArray.size = m
  simp [seg_length]
theorem segB_bytes {w : World} {B f o m : Nat} {c : List UInt8} (h : ∀ i, i < m → w.cell? ⟨B, f + i, none⟩ = some (.int .u8 (at0 c (o + i)).toNat)) : Lib.Bytes w B f (segB c o m) := by
  intro i hi
  rw [segB_size] at hi
  rw [h i hi]
  have : (segB c o m)[i]'(by rw [segB_size]; exact hi) = at0 c (o + i) := by
    rw [ByteArray.getElem_eq_getElem_data]
    show (seg c o m).toArray[i]'(by simp [seg_length]; exact hi) = _
    have := seg_get c o m i hi
    rw [List.getElem?_eq_getElem (by rw [seg_length]; exact hi)] at this
    simpa using Option.some.inj this
  rw [this]
/-- The texts of the first m rows, as the program keeps them. -/
def crV (W : Nat) (c : List UInt8) (l v t m : Nat) : List Value := (List.range m).map fun j => .string (segB c (nn W (t + j) + l) v)
theorem crV_succ (W : Nat) (c : List UInt8) (l v t m : Nat) : crV W c l v t (m + 1) = crV W c l v t m ++ [.string (segB c (nn W (t + m) + l) v)] := by
  unfold crV
  rw [List.range_succ, List.map_append]
  rfl
theorem crV_length (W : Nat) (c : List UInt8) (l v t m : Nat) : (crV W c l v t m).length = m := by simp [crV]
def coOk (l : List UInt8) : Bool := rdOk l && decide (cnt (rdG l).c 35 (nn (rdG l).w (rdG l).h) < nn (rdG l).w (rdG l).h)
def coG (g : Grid) : ByteArray :=
  let n := nn g.w g.h
  txtB (crR g.w g.c n - crL g.w g.c n) (crB g.w g.c n - crT g.w g.h g.c n) (crC g.w g.c (crL g.w g.c n) (crR g.w g.c n - crL g.w g.c n) (crT g.w g.h g.c n) (crB g.w g.c n - crT g.w g.h g.c n))
def coS (l : List UInt8) : ByteArray := if coOk l then coG (rdG l) else ⟨#[]⟩
theorem co_no {l : List UInt8} (h : coOk l = false) : coS l = ⟨#[]⟩ := by unfold coS; rw [h]; rfl
section
variable {P : Program} {w : World} {a : Act} {dst : Option Tmp} {ty : TypeId} {pos : String} {aft : Array Edge} {gd : Option (Nat × Bool)}
theorem e_eqlI {k : IntKind} {T yt : TypeId} (x y : Operand) (m n : Int) (v : Bool) (hx : a.eval x = .int k m) (hy : a.eval y = .int k n) (hv : decide (m = n) = v) :
    (execOp a.eval ⟨dst, .binOp .eql T x y yt, ty, pos, aft, gd⟩).run P w = .ok (.value (.bool v)) w := by
  subst hv
  unfold execOp
  by_cases h : m = n <;> simp [hx, hy, eqGuard, binOp, Op.intCmp, h]
end
theorem join_segs (B q W H : Nat) (c : List UInt8) (l v t base : Nat) (w : World) (own : w.ownsRow base 9 1 (.slice (some ⟨B, 0, none⟩) H q) H (crV W c l v t H)) (hq : H ≤ q) (hv : v ≤ 14) (hH : H ≤ 7) : Calls Tryd.prog 124 #[.slice (some ⟨B, 0, none⟩) H q, .string ⟨#[47]⟩] w (Ret (.string (txtB v H (crC W c l v t H))) w) := by
  have hmap : ((List.range H).map fun j => segB c (nn W (t + j) + l) v).map (·.data.toList) = rowsL v (crC W c l v t H) H := by
    unfold rowsL
    rw [List.map_map]
    apply List.map_congr_left
    intro j hj
    rw [cr_row W c l v t H j (List.mem_range.1 hj)]
    show (seg c (nn W (t + j) + l) v).toArray.toList = _
    simp
  have hl : (txtL v (crC W c l v t H) H).length ≤ 105 := by
    have := txtB_le14 v H (crC W c l v t H) hv hH
    have e : (txtB v H (crC W c l v t H)).size = (txtL v (crC W c l v t H) H).length := by show (txtL _ _ _).toArray.size = _; simp
    omega
  have hcells : ∀ (j : Nat) x, ((List.range H).map fun j => segB c (nn W (t + j) + l) v)[j]? = some x → w.cell? ⟨B, 0 + j, none⟩ = some (.string x) := by
    intro j x hx
    rw [List.getElem?_map] at hx
    rcases Nat.lt_or_ge j H with hj | hj
    · rw [List.getElem?_range hj] at hx
      have : segB c (nn W (t + j) + l) v = x := by simpa using hx
      subst this
      rw [Nat.zero_add, own.cellAt j (by omega)]
      unfold crV
      rw [List.getElem?_map, List.getElem?_range hj]
      rfl
    · rw [List.getElem?_eq_none (by simpa using hj)] at hx
      cases hx
  have hlt := (own.lt B rfl).2
  have h := Tryd.strings_Join B 0 q ((List.range H).map fun j => segB c (nn W (t + j) + l) v) ⟨#[47]⟩ w hcells hlt (by simp; omega) (by simpa using hq) (by rw [hmap]; show (txtL v (crC W c l v t H) H).length ≤ _; omega)
  rw [hmap, List.length_map, List.length_range] at h
  exact h
theorem Tryd.slwO (B off n cap l h m : Nat) (hl : l < h) (hh : h ≤ cap) (hm : h - l = m) (w : World) : (Instr.sliceAt 43 (.slice (some ⟨B, off, none⟩) n cap) (some (.int .i64 l)) (some (.int .i64 h)) none).run Tryd.prog w = .ok (.slice (some ⟨B, off + l, none⟩) m (cap - l)) w := by
  have hu : Tryd.prog.underlying 43 = some (.slice (Tryd.prog.elem 43)) := by kernel_rfl
  rw [run_sliceAt_slice w 43 _ _ _ _ hu]
  have h := Lib.run_slice_window (P := Tryd.prog) w 43 5 Tryd.underlying43 Tryd.sizeOf5 B off n cap l h hl hh
  rw [hm] at h
  exact h
theorem Tryd.gf0c (B : Nat) (w : World) : (Instr.fieldAt 62 (.pointer (some ⟨B, 0, none⟩)) 0).run Tryd.prog w = .ok (.pointer (some ⟨B, 0, none⟩)) w := by kernel_rfl
theorem Tryd.strIC : ElemInfo Tryd.prog 105 9 (.string ⟨#[]⟩) 1 16 := ⟨Tryd.underlying105, by kernel_rfl, rfl, by decide⟩
theorem Tryd.bst1 (s : ByteArray) (w : World) : (Instr.buildSlice 105 1 #[(0, .string s)]).run Tryd.prog w = .ok (.slice (some ⟨w.heap.size, 0, none⟩) 1 1) (w.alloc (.cells #[.string s] 9)) := by kernel_rfl
set_option maxHeartbeats 4000000 in
set_option maxRecDepth 100000 in
theorem iCropTray (s : ByteArray) (w : World) (hm : ML w) (hs : s.size ≤ 1048576) : Calls Tryd.prog 140 #[.string s] w (Ret (.tuple #[.string (coS s.data.toList), .bool (coOk s.data.toList)]) w) := by
  have gg := Gr.refl w
  rcases rd_cases s.data.toList with ⟨hp, hg, hk⟩ | ⟨g, hp, hg, hk⟩
  · have HK := hidI hk
    have HO := hidI (show coOk s.data.toList = false from by unfold coOk; rw [hk]; rfl)
    have HV := hidI (co_no HO.out)
    clear hp hg hk
    go_enter Tryd.func140, Tryd.ntmps140
    go_wp2_with (first | (go_at_call 57; refine (readTray_any s _ hm hs).mono ?_; rintro e w1 ⟨rfl, g1⟩; rw [HK.out]; have z1 := g1.size; have gg := gg.trans g1) | (refine r_alloc 62 _ Tryd.gzero rfl ?_; intro w2 B2 N2; have g2 := N2.gr; have b2 : Blk w2 B2 (gv 0 0 []) 62 := N2.blk; have l2 := N2.lo; have t2 := N2.hi; have z2 := g2.size; have gg := gg.trans g2; clear N2; obtain ⟨b2_0, b2_1, b2_2⟩ := gcells b2) | (refine r_store_row 62 62 _ _ _ rfl (gv _ _ _) _ rfl b2 (Tryd.gsize' _ _ _) (by simp only [gv_size]) (gv_one _ _ _) rfl ?_; intro w3 u3 b2'; have z3 := u3.size; have gg := u3.gr gg (by omega); clear b2; have b2 := b2'; clear b2'; obtain ⟨b2_0, b2_1, b2_2⟩ := gcells b2))
    refine q_whole (by kernel_rfl) (by kernel_rfl) ?_
    refine q_take (.bool false) rfl (fun w' hw' => rfl) ?_
    simp only [Act.put, List.setIfInBounds_toArray, List.set_cons_succ, List.set_cons_zero]
    refine q_take (.bool true) rfl (fun w' hw' => rfl) ?_
    simp only [Act.put, List.setIfInBounds_toArray, List.set_cons_succ, List.set_cons_zero]
    refine q_take (.bool true) rfl (fun w' hw' => rfl) ?_
    simp only [Act.put, List.setIfInBounds_toArray, List.set_cons_succ, List.set_cons_zero]
    refine BigFrame.wpQuiet_skip rfl ?_
    simp only [Act.put, List.setIfInBounds_toArray, List.set_cons_succ, List.set_cons_zero]
    refine BigFrame.wpQuiet_skip rfl ?_
    simp only [Act.put, List.setIfInBounds_toArray, List.set_cons_succ, List.set_cons_zero]
    refine BigFrame.wpQuiet_skip rfl ?_
    simp only [Act.put, List.setIfInBounds_toArray, List.set_cons_succ, List.set_cons_zero]
    refine BigFrame.wpQuiet_skip rfl ?_
    simp only [Act.put, List.setIfInBounds_toArray, List.set_cons_succ, List.set_cons_zero]
    refine BigFrame.wpQuiet_skip rfl ?_
    simp only [Act.put, List.setIfInBounds_toArray, List.set_cons_succ, List.set_cons_zero]
    refine q_take (.bool true) rfl (fun w' hw' => rfl) ?_
    simp only [Act.put, List.setIfInBounds_toArray, List.set_cons_succ, List.set_cons_zero]
    refine wpQuiet_nil ?_
    intro wq gq
    have gg := gg.trans gq
    go_wp2
    go_ret2
    exact ⟨fin_sb HV.out.symm HO.out.symm, gg⟩
  · have HK := hidI hk
    have HG := hidI hg
    have ht := parse_tray hp
    have hw1 := ht.w1
    have hw7 := ht.w7
    have hh7 := ht.h7
    have n36 := ht.n36
    have hcl := cnt_le g.c 35 (nn g.w g.h)
    have hfin := cr_facts (W := g.w) (H := g.h) (c := g.c) hw1 (nn g.w g.h) (Nat.le_refl _)
    have HCO := hidI (show coOk s.data.toList = decide (cnt g.c 35 (nn g.w g.h) < nn g.w g.h) from by unfold coOk; rw [hk, hg]; rfl)
    have HCS := hidI (show coOk s.data.toList = true → coS s.data.toList = coG g from fun h => by unfold coS; rw [h, hg]; rfl)
    obtain ⟨b, hb⟩ : ∃ b, b = decide (((cnt g.c 35 (nn g.w g.h) : Nat) : Int) = ((nn g.w g.h : Nat) : Int)) := ⟨_, rfl⟩
    have HB := hidI hb
    clear hp hg hk ht
    go_enter Tryd.func140, Tryd.ntmps140
    go_wp2_with (first | (go_at_call 57; refine (readTray_any s _ hm hs).mono ?_; rintro e w1 ⟨rfl, g1⟩; rw [HK.out, HG.out, gvG]; have z1 := g1.size; have gg := gg.trans g1) | (refine r_alloc 62 _ Tryd.gzero rfl ?_; intro w2 B2 N2; have g2 := N2.gr; have b2 : Blk w2 B2 (gv 0 0 []) 62 := N2.blk; have l2 := N2.lo; have t2 := N2.hi; have z2 := g2.size; have gg := gg.trans g2; clear N2; obtain ⟨b2_0, b2_1, b2_2⟩ := gcells b2) | (refine r_store_row 62 62 _ _ _ rfl (gv g.w g.h g.c) _ rfl b2 (Tryd.gsize' _ _ _) (by simp only [gv_size]) (gv_one _ _ _) rfl ?_; intro w3 u3 b2'; have z3 := u3.size; have gg := u3.gr gg (by omega); clear b2; have b2 := b2'; clear b2'; obtain ⟨b2_0, b2_1, b2_2⟩ := gcells b2))
    refine q_whole (by kernel_rfl) (by kernel_rfl) ?_
    refine q_take (.bool true) rfl (fun w' hw' => rfl) ?_
    simp only [Act.put, List.setIfInBounds_toArray, List.set_cons_succ, List.set_cons_zero]
    refine q_take (.bool false) rfl (fun w' hw' => rfl) ?_
    simp only [Act.put, List.setIfInBounds_toArray, List.set_cons_succ, List.set_cons_zero]
    refine q_take (.bool false) rfl (fun w' hw' => rfl) ?_
    simp only [Act.put, List.setIfInBounds_toArray, List.set_cons_succ, List.set_cons_zero]
    refine q_take (.agg (gv _ _ _)) rfl (fun w' hw' => e_load_row 62 (.tmp 4) _ _ _ _ rfl (hw'.blk b2) Tryd.underlying62 rfl (Tryd.ginfo' _ _ _)) ?_; simp only [Act.put, List.setIfInBounds_toArray, List.set_cons_succ, List.set_cons_zero]
    refine q_call 133 [.tmp 23, .const (.int .u8 35)] _ [.agg (gv g.w g.h g.c), .int .u8 35] (.int .i64 (cnt g.c 35 (nn g.w g.h) : Nat)) Tryd.call133 rfl rfl (fun w' hw' => ((countByte_any g.w g.h g.c 35 w' hw7 hh7 n36).mono fun e w'' h => ⟨h.1, hw'.trans h.2⟩)) ?_; simp only [Act.put, List.setIfInBounds_toArray, List.set_cons_succ, List.set_cons_zero]
    refine q_take (.agg (gv _ _ _)) rfl (fun w' hw' => e_load_row 62 (.tmp 4) _ _ _ _ rfl (hw'.blk b2) Tryd.underlying62 rfl (Tryd.ginfo' _ _ _)) ?_; simp only [Act.put, List.setIfInBounds_toArray, List.set_cons_succ, List.set_cons_zero]
    refine q_call 95 [.tmp 25] _ [.agg (gv g.w g.h g.c)] (.int .i64 (nn g.w g.h : Nat)) Tryd.call95 rfl rfl (fun w' hw' => ((countAll_any g.w g.h g.c w' hw7 hh7).mono fun e w'' h => ⟨h.1, hw'.trans h.2⟩)) ?_; simp only [Act.put, List.setIfInBounds_toArray, List.set_cons_succ, List.set_cons_zero]
    refine q_take (.bool b) rfl (fun w' hw' => e_eqlI _ _ _ _ b rfl rfl HB.out.symm) ?_
    simp only [Act.put, List.setIfInBounds_toArray, List.set_cons_succ, List.set_cons_zero]
    refine q_take (.bool b) rfl (fun w' hw' => rfl) ?_
    simp only [Act.put, List.setIfInBounds_toArray, List.set_cons_succ, List.set_cons_zero]
    refine wpQuiet_nil ?_
    intro w4 g4
    have b2 := g4.blk b2
    have gg := gg.trans g4
    have z4 := g4.size
    rcases hfin with ⟨f1, -, -, -, -⟩ | ⟨f1, f2, f3, f4, f5⟩
    · have hbt : b = true := by rw [hb]; exact decide_eq_true (by omega)
      have HO := hidI (show coOk s.data.toList = false from by rw [HCO.out]; exact decide_eq_false (by omega))
      have HV := hidI (co_no HO.out)
      clear hb
      subst hbt
      go_wp2
      go_ret2
      exact ⟨fin_sb HV.out.symm HO.out.symm, gg⟩
    · have hbf : b = false := by rw [hb]; exact decide_eq_false (by omega)
      have HO := hidI (show coOk s.data.toList = true from by rw [HCO.out]; exact decide_eq_true (by omega))
      have HV := hidI (HCS.out HO.out)
      clear hb
      subst hbf
      obtain ⟨N, hN⟩ : ∃ N, N = nn g.w g.h := ⟨_, rfl⟩
      have HF := hidI (fun k (hk : k ≤ nn g.w g.h) => cr_facts (W := g.w) (H := g.h) (c := g.c) hw1 k hk)
      obtain ⟨b2_0, b2_1, b2_2⟩ := gcells b2
      rw [← hN] at f1 f2 f3 f4 f5 hcl
      have HNN := hidI hN
      have hN36 : N ≤ 36 := by omega
      clear hN hcl f1
      go_wp2_with (first | (refine r_load_row 62 _ _ rfl _ _ _ b2 Tryd.underlying62 rfl (Tryd.ginfo' _ _ _) rfl ?_) | (go_at_call 95; refine (countAll_any g.w g.h g.c _ hw7 hh7).mono ?_; rintro e w5 ⟨rfl, g5⟩; rw [← HNN.out]; have b2 := g5.blk b2; have gg := gg.trans g5; have z5 := g5.size))
      go_loopw [6, 7, 8, 9, 35] (fun lv rv tv bv iv wr => ∃ k : Nat, k ≤ N ∧ iv = .int .i64 k ∧ lv = .int .i64 (crL g.w g.c k : Nat) ∧ rv = .int .i64 (crR g.w g.c k : Nat) ∧ tv = .int .i64 (crT g.w g.h g.c k : Nat) ∧ bv = .int .i64 (crB g.w g.c k : Nat) ∧ Gr w5 wr) (fun _ _ _ _ iv _ => N - (intOf iv).toNat)
      case atStart => exact ⟨0, Nat.zero_le _, rfl, rfl, rfl, rfl, rfl, Gr.refl w5⟩
      case round =>
        obtain ⟨k, hk, rfl, rfl, rfl, rfl, rfl, gr⟩ := hrel
        have b2 := gr.blk b2
        have gg := gg.trans gr
        obtain ⟨b2_0, b2_1, b2_2⟩ := gcells b2
        by_cases hlt : k < N
        · have hc := b2_2 k (by omega)
          have hix := Tryd.gix B2 k (by omega)
          by_cases h35 : at0 g.c k = 35
          · have e1 : (((at0 g.c k).toNat : Int) != 35) = false := by rw [h35]; rfl
            have HS := hidI (show crL g.w g.c (k + 1) = crL g.w g.c k ∧ crR g.w g.c (k + 1) = crR g.w g.c k ∧ crT g.w g.h g.c (k + 1) = crT g.w g.h g.c k ∧ crB g.w g.c (k + 1) = crB g.w g.c k from ⟨by rw [crL, if_pos h35], by rw [crR, if_pos h35], by rw [crT, if_pos h35], by rw [crB, if_pos h35]⟩)
            clear h35
            go_wp2
            go_roundw
            case rel => exact ⟨k + 1, by omega, by go_num, by rw [HS.out.1], by rw [HS.out.2.1], by rw [HS.out.2.2.1], by rw [HS.out.2.2.2], gr⟩
            case measure => simp [intOf]; omega
          · have e1 : (((at0 g.c k).toNat : Int) != 35) = true := by
              rw [bne_iff_ne]; intro e; exact h35 (UInt8.toNat_inj.1 (by simp; omega))
            obtain ⟨x, hx⟩ : ∃ x, x = k % g.w := ⟨_, rfl⟩
            obtain ⟨y, hy⟩ : ∃ y, y = k / g.w := ⟨_, rfl⟩
            have HS := hidI (show crL g.w g.c (k + 1) = min (crL g.w g.c k) x ∧ crR g.w g.c (k + 1) = max (crR g.w g.c k) (x + 1) ∧ crT g.w g.h g.c (k + 1) = min (crT g.w g.h g.c k) y ∧ crB g.w g.c (k + 1) = max (crB g.w g.c k) (y + 1) from ⟨by rw [crL, if_neg h35, hx], by rw [crR, if_neg h35, hx], by rw [crT, if_neg h35, hy], by rw [crB, if_neg h35, hy]⟩)
            have HX := hidI hx
            have HY := hidI hy
            have hx7 : x < 7 := by have := Nat.mod_lt k hw1; omega
            have hy36 : y ≤ 36 := by have := Nat.div_le_self k g.w; omega
            clear h35 hx hy
            go_wp2
            refine q_whole (by kernel_rfl) (by kernel_rfl) ?_
            refine q_move _ (.int .i64 k) rfl rfl ?_; simp only [Act.put, List.setIfInBounds_toArray, List.set_cons_succ, List.set_cons_zero]
            refine q_take (.pointer (some ⟨B2, 0, none⟩)) rfl (fun w' hw' => e_val _ _ (Tryd.gf0c B2 _)) ?_; simp only [Act.put, List.setIfInBounds_toArray, List.set_cons_succ, List.set_cons_zero]
            refine q_take (.int .i64 g.w) rfl (fun w' hw' => e_load 3 (.tmp 44) ⟨B2, 0, none⟩ _ rfl (Tryd.isAgg3 _) (hw'.cell b2_0)) ?_; simp only [Act.put, List.setIfInBounds_toArray, List.set_cons_succ, List.set_cons_zero]
            refine q_rem _ _ _ _ (k) (g.w) rfl rfl (hw1) rfl ?_; simp only [Act.put, List.setIfInBounds_toArray, List.set_cons_succ, List.set_cons_zero]
            refine q_move _ (.int .i64 k) rfl rfl ?_; simp only [Act.put, List.setIfInBounds_toArray, List.set_cons_succ, List.set_cons_zero]
            refine q_take (.pointer (some ⟨B2, 0, none⟩)) rfl (fun w' hw' => e_val _ _ (Tryd.gf0c B2 _)) ?_; simp only [Act.put, List.setIfInBounds_toArray, List.set_cons_succ, List.set_cons_zero]
            refine q_take (.int .i64 g.w) rfl (fun w' hw' => e_load 3 (.tmp 48) ⟨B2, 0, none⟩ _ rfl (Tryd.isAgg3 _) (hw'.cell b2_0)) ?_; simp only [Act.put, List.setIfInBounds_toArray, List.set_cons_succ, List.set_cons_zero]
            refine q_quo _ _ _ _ (k) (g.w) rfl rfl (hw1) (by omega) rfl ?_; simp only [Act.put, List.setIfInBounds_toArray, List.set_cons_succ, List.set_cons_zero]
            refine q_assign _ (.int .i64 (k % g.w : Nat)) rfl rfl ?_; simp only [Act.put, List.setIfInBounds_toArray, List.set_cons_succ, List.set_cons_zero]
            refine q_assign _ (.int .i64 (k / g.w : Nat)) rfl rfl ?_; simp only [Act.put, List.setIfInBounds_toArray, List.set_cons_succ, List.set_cons_zero]
            refine wpQuiet_nil ?_
            intro w6 g6
            rw [← HX.out, ← HY.out]
            have gr := gr.trans g6
            go_wp2
            go_roundw
            case rel => exact ⟨k + 1, by omega, by go_num, by rw [HS.out.1]; go_num, by rw [HS.out.2.1]; go_num, by rw [HS.out.2.2.1]; go_num, by rw [HS.out.2.2.2]; go_num, gr⟩
            case measure => simp [intOf]; omega
        · obtain rfl : k = N := by omega
          have HCG := hidI (show coG g = txtB (crR g.w g.c k - crL g.w g.c k) (crB g.w g.c k - crT g.w g.h g.c k) (crC g.w g.c (crL g.w g.c k) (crR g.w g.c k - crL g.w g.c k) (crT g.w g.h g.c k) (crB g.w g.c k - crT g.w g.h g.c k)) from by rw [HNN.out]; rfl)
          generalize crL g.w g.c k = l at *
          generalize crR g.w g.c k = r at *
          generalize crT g.w g.h g.c k = t at *
          generalize crB g.w g.c k = b at *
          obtain ⟨v, hv⟩ : ∃ v, v = r - l := ⟨_, rfl⟩
          have hlr : r - l = v := hv.symm
          obtain ⟨wo, hwo⟩ : ∃ wo, wo = wr := ⟨_, rfl⟩
          rw [← hwo] at gr b2 gg b2_0 b2_1 b2_2
          have gq : Gr wo wr := by rw [hwo]; exact Gr.refl _
          have own0 : wr.ownsRow wo.heap.size 9 1 (.slice none 0 0) (t - t) (crV g.w g.c l v t (t - t)) := by rw [Nat.sub_self]; exact World.ownsRow_nil _ _ _ _
          have zo : w.heap.size ≤ wo.heap.size := gg.size
          clear hlt hv
          go_wp2
          go_loopw [13, 14] (fun rv yv wr => ∃ y : Nat, t ≤ y ∧ y ≤ b ∧ yv = .int .i64 y ∧ wr.ownsRow wo.heap.size 9 1 rv (y - t) (crV g.w g.c l v t (y - t)) ∧ Gr wo wr) (fun _ yv _ => b - (intOf yv).toNat)
          case atStart => exact ⟨t, Nat.le_refl _, by omega, rfl, own0, gq⟩
          case round =>
            obtain ⟨y, hty, hyb, rfl, own, gi⟩ := hrel
            have b2 := gi.blk b2
            have gg := gg.trans gi
            have zi := gi.size
            by_cases hly : y < b
            · have hyh : y < g.h := by omega
              have hrow := nn_row (W := g.w) hyh
              have HPS := hidI (show crV g.w g.c l v t (y + 1 - t) = crV g.w g.c l v t (y - t) ++ [.string (segB g.c (nn g.w y + l) v)] from by
                rw [show y + 1 - t = (y - t) + 1 by omega, crV_succ, show t + (y - t) = y by omega])
              go_wp2_with (first | (go_at_call 100; refine (rowOf_any B2 g.w g.h y g.c _ b2 hw1 hw7 hyh n36 hh7).mono ?_; rintro e w6 ⟨rfl, m6, rfl⟩; have g6 := (Gr.refl wr).drewN m6; have b2 := g6.blk b2; have own := g6.row own; have gi := gi.trans g6; have z6 := g6.size) | (refine r_val (.slice (some ⟨B2, 2 + nn g.w y + l, none⟩) v (g.w - l)) (e_cutB _ _ _ _ _ _ _ rfl rfl rfl (Tryd.slwO B2 (2 + nn g.w y) g.w g.w l r v f2 f3 hlr _)) rfl ?_) | (refine r_conv 43 9 _ _ (.string (segB g.c (nn g.w y + l) v)) rfl (Tryd.conv B2 (2 + nn g.w y + l) _ _ _ (segB_bytes (by intro i hi; have h := (gcells b2).2.2 (nn g.w y + l + i) (by omega); rw [show 2 + nn g.w y + l + i = 2 + (nn g.w y + l + i) by omega]; exact h)) v (segB_size _ _ _)) rfl ?_) | (refine r_slice1 105 9 (.tmp 78) (.string (segB g.c (nn g.w y + l) v)) rfl (Tryd.bst1 _ _) rfl ?_; intro w8 B8 N8; have g8 := N8.gr; have own := g8.row own; have b2 := g8.blk b2; have gi := gi.trans g8; have z8 := g8.size) | (refine r_append (.tmp 72) (.tmp 79) 105 9 _ 1 16 wo.heap.size Tryd.strIC _ (y - t) (crV g.w g.c l v t (y - t)) rfl own ⟨B8, 0, none⟩ 1 1 [.string (segB g.c (nn g.w y + l) v)] rfl rfl N8.cell1 (by intro u hu; simp at hu; subst hu; rfl) (by omega) (by decide) (by omega) rfl ?_; intro v9 w9 own9 g9))
              have own10 : w9.ownsRow wo.heap.size 9 1 v9 (y + 1 - t) (crV g.w g.c l v t (y + 1 - t)) := by
                rw [HPS.out, show y + 1 - t = y - t + 1 by omega]
                exact own9
              go_roundw
              case rel => exact ⟨y + 1, by omega, by omega, by go_num, own10, g9.gr gi (own_gr own (Nat.le_refl _))⟩
              case measure => simp [intOf]; omega
            · obtain rfl : b = y := by omega
              obtain ⟨m, hm'⟩ : ∃ m, m = b - t := ⟨_, rfl⟩
              rw [← hm'] at own HCG
              rw [hlr] at HCG
              obtain ⟨G, q, rfl, -, hq⟩ := own_shape own (by omega)
              have hv14 : v ≤ 14 := by omega
              have hm7 : m ≤ 7 := by omega
              clear hly hm'
              go_wp2_with fail
              refine (join_segs G q g.w m g.c l v t _ _ own hq hv14 hm7).mono ?_
              rintro e w9 ⟨rfl, g9⟩
              have gg := gg.trans g9
              go_wp2
              go_ret2
              exact ⟨fin_sb (by rw [HV.out, HCG.out]) HO.out.symm, gg⟩
end Go.Proofs.YtagoipongdnegaaDoor
