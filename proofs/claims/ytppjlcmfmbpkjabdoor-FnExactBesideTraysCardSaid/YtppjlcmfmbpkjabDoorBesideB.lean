/-
  Two trays beside each other: in the program and in the model, and the law.
-/
import Derived.Test.YtppjlcmfmbpkjabDoorBMv
import Derived.Test.YtppjlcmfmbpkjabDoorBLs
import Derived.Test.YtppjlcmfmbpkjabDoorBSp
import Derived.Lib.ConvBytes
namespace Go.Proofs.YtppjlcmfmbpkjabDoor
open Go.RowKit
/-- The cells of the first y rows: each row of g, then that of k. -/
def bsL (g k : Grid) (y : Nat) : List UInt8 := ((List.range y).map fun i => rowL g.w g.c i ++ rowL k.w k.c i).flatten
theorem bsL_succ (g k : Grid) (y : Nat) : bsL g k (y + 1) = (bsL g k y ++ rowL g.w g.c y) ++ rowL k.w k.c y := by
  unfold bsL
  rw [List.range_succ, List.map_append, List.flatten_append]
  simp
theorem bsL_length (g k : Grid) (y : Nat) : (bsL g k y).length = nn (g.w + k.w) y := by
  induction y with
  | zero => rfl
  | succ y ih =>
    rw [bsL_succ, List.length_append, List.length_append, rowL_length, rowL_length, ih]
    unfold nn
    rw [Nat.mul_succ]
    omega
theorem bs_row (g k : Grid) (H y : Nat) (h : y < H) : rowL (g.w + k.w) (bsL g k H) y = rowL g.w g.c y ++ rowL k.w k.c y := by
  have hr : ∀ r ∈ (List.range H).map (fun i => rowL g.w g.c i ++ rowL k.w k.c i), r.length = g.w + k.w := by
    intro r hr
    obtain ⟨i, _, rfl⟩ := List.mem_map.1 hr
    rw [List.length_append, rowL_length, rowL_length]
  have e := rows_flatten hr
  rw [List.length_map, List.length_range] at e
  have e1 := rowsL_get (g.w + k.w) (bsL g k H) H y h
  have e2 : (rowsL (g.w + k.w) (bsL g k H) H)[y]? = some (rowL g.w g.c y ++ rowL k.w k.c y) := by
    show (rowsL (g.w + k.w) ((List.range H).map (fun i => rowL g.w g.c i ++ rowL k.w k.c i)).flatten H)[y]? = _
    rw [e, List.getElem?_map, List.getElem?_range h]
    rfl
  rw [e1] at e2
  exact Option.some.inj e2
theorem bs_rowB (g k : Grid) (H y : Nat) (h : y < H) : rowB g.w g.c y ++ rowB k.w k.c y = rowB (g.w + k.w) (bsL g k H) y := by
  unfold rowB
  rw [bs_row g k H y h]
  apply ByteArray.ext
  rw [ByteArray.data_append]
  simp
def beC (l m : List UInt8) : Bool := rdOk l && rdOk m && decide ((rdG l).h = (rdG m).h)
def beT (l m : List UInt8) : ByteArray := txtB ((rdG l).w + (rdG m).w) (rdG l).h (bsL (rdG l) (rdG m) (rdG l).h)
def beS (l m : List UInt8) : ByteArray := if beC l m then ifB (beT l m) else ⟨#[]⟩
def beO (l m : List UInt8) : Bool := if beC l m then rdOk (beT l m).data.toList else false
theorem be_no {l m : List UInt8} (h : beC l m = false) : beS l m = ⟨#[]⟩ ∧ beO l m = false := by unfold beS beO; rw [h]; exact ⟨rfl, rfl⟩
theorem be_yes {l m : List UInt8} {g k : Grid} (h1 : rdOk l = true) (h2 : rdOk m = true) (hg : rdG l = g) (hk : rdG m = k) (hh : g.h = k.h) : beS l m = ifB (txtB (g.w + k.w) g.h (bsL g k g.h)) ∧ beO l m = rdOk (txtB (g.w + k.w) g.h (bsL g k g.h)).data.toList := by
  have hc : beC l m = true := by unfold beC; rw [h1, h2, hg, hk, hh]; simp
  unfold beS beO beT
  rw [hc, hg, hk]
  exact ⟨rfl, rfl⟩
section
variable {P : Program} {w : World} {a : Act} {dst : Option Tmp} {ty : TypeId} {pos : String} {aft : Array Edge} {gd : Option (Nat × Bool)}
theorem e_convB {src dt : TypeId} (x : Operand) (v u : Value) (hx : a.eval x = v) (hr : (convert src dt v).run P w = .ok u w) :
    (execOp a.eval ⟨dst, .convert src dt x, ty, pos, aft, gd⟩).run P w = .ok (.value u) w := by
  unfold execOp
  simp only [hx, Sem.run_bind, hr, Result.andThen_ok, Sem.run_pure]
theorem e_addS {T yt : TypeId} (x y : Operand) (s t u : ByteArray) (hx : a.eval x = .string s) (hy : a.eval y = .string t) (hr : (Op.stringOp .add s t).run P w = .ok (.string u) w) :
    (execOp a.eval ⟨dst, .binOp .add T x y yt, ty, pos, aft, gd⟩).run P w = .ok (.value (.string u)) w := by
  unfold execOp
  simp only [hx, hy, eqGuard_add, Sem.run_bind, Sem.run_pure, Result.andThen_ok]
  show ((Op.stringOp .add s t).run P w).andThen _ = _
  rw [hr]
  rfl
end
theorem txtB_le14 (W H : Nat) (c : List UInt8) (hW : W ≤ 14) (hH : H ≤ 7) : (txtB W H c).size ≤ 105 := by
  have := txtB_size W H c
  have := nn_le (x := W + 1) (y := H) (a := 15) (b := 7) (by omega) hH
  omega
theorem Tryd.strIB : ElemInfo Tryd.prog 46 9 (.string ⟨#[]⟩) 1 16 := ⟨Tryd.underlying46, by kernel_rfl, rfl, by decide⟩
theorem rowsV_cellsB {w : World} {B : Nat} {W H : Nat} {c : List UInt8} {T : TypeId} (h : Blk w B (rowsV W c H H) T) : ∀ (j : Nat) x, ((List.range H).map (rowB W c))[j]? = some x → w.cell? ⟨B, 0 + j, none⟩ = some (.string x) := by
  intro j x hx
  rw [List.getElem?_map] at hx
  rcases Nat.lt_or_ge j H with hj | hj
  · rw [List.getElem?_range hj] at hx
    have : rowB W c j = x := by simpa using hx
    subst this
    rw [Nat.zero_add, h.cell j, rowsV_get W c H H j hj, if_pos hj]
  · rw [List.getElem?_eq_none (by simpa using hj)] at hx
    cases hx
theorem rowsB_mapB (W : Nat) (c : List UInt8) (H : Nat) : ((List.range H).map (rowB W c)).map (·.data.toList) = rowsL W c H := by
  unfold rowsL rowB
  rw [List.map_map]
  apply List.map_congr_left
  intro y _
  simp
theorem join_rows14 (B W H : Nat) (c : List UInt8) (w : World) (hb : Blk w B (rowsV W c H H) 9) (hW : W ≤ 14) (hH : H ≤ 7) : Calls Tryd.prog 26 #[.slice (some ⟨B, 0, none⟩) H H, .string ⟨#[47]⟩] w (Ret (.string (txtB W H c)) w) := by
  have hl : (txtL W c H).length ≤ 105 := by
    have := txtB_le14 W H c hW hH
    have e : (txtB W H c).size = (txtL W c H).length := by show (txtL W c H).toArray.size = _; simp
    omega
  have h := Tryd.strings_Join B 0 H ((List.range H).map (rowB W c)) ⟨#[47]⟩ w (rowsV_cellsB hb) hb.lt (by simp; omega) (by simp) (by rw [rowsB_mapB]; show (txtL W c H).length ≤ _; omega)
  rw [rowsB_mapB, List.length_map, List.length_range] at h
  exact h
theorem Tryd.stix (B n cap x : Nat) (hx : x < n) (w : World) : (Instr.indexAt 46 (.slice (some ⟨B, 0, none⟩) n cap) (.int .i64 x)).run Tryd.prog w = .ok (.pointer (some ⟨B, x, none⟩)) w := by
  have hu : Tryd.prog.underlying 46 = some (.slice (Tryd.prog.elem 46)) := by kernel_rfl
  have he : Tryd.prog.elem 46 = 9 := by kernel_rfl
  rw [run_indexAt_slice w 46 ⟨B, 0, none⟩ n cap .i64 x hu, if_pos (by omega), he]
  simp [Tryd.sizeOf9, Result.andThen, Addr.add]
  exact fun h => h.symm
set_option maxHeartbeats 4000000 in
set_option maxRecDepth 100000 in
theorem iBesideTrays (s t : ByteArray) (w : World) (hm : ML w) (hs : s.size ≤ 1048576) (ht : t.size ≤ 1048576) : Calls Tryd.prog 9 #[.string s, .string t] w (Ret (.tuple #[.string (beS s.data.toList t.data.toList), .bool (beO s.data.toList t.data.toList)]) w) := by
  have gg := Gr.refl w
  cases h1 : rdOk s.data.toList
  · have HV := hidI (be_no (l := s.data.toList) (m := t.data.toList) (by unfold beC; rw [h1]; rfl))
    have H1 := hidI h1
    clear h1
    go_enter Tryd.func9, Tryd.ntmps9
    go_wp2_with fail
    refine (readTray_any s _ (gg.ml hm) hs).mono ?_
    rintro e w1 ⟨rfl, g1⟩
    rw [H1.out]
    have gg := gg.trans g1
    have z1 := g1.size
    unfold gvG
    go_wp2_with (first | (refine r_alloc 43 _ Tryd.gzero rfl ?_; intro w2 B2 N2; have g2 := N2.gr; have b2 : Blk w2 B2 (gv 0 0 []) 43 := N2.blk; have l2 := N2.lo; have t2 := N2.hi; have z2 := g2.size; have gg := gg.trans g2; clear N2; obtain ⟨b2_0, b2_1, b2_2⟩ := gcells b2) | (refine r_store_row 43 43 _ _ _ rfl (gv _ _ _) _ rfl b2 (Tryd.gsize' _ _ _) (by simp only [gv_size]) (gv_one _ _ _) rfl ?_; intro w3 u3 b2'; have z3 := u3.size; have gg := u3.gr gg (by omega); clear b2; have b2 := b2'; clear b2'; obtain ⟨b2_0, b2_1, b2_2⟩ := gcells b2))
    refine (readTray_any t _ (gg.ml hm) ht).mono ?_
    rintro e w4 ⟨rfl, g4⟩
    have gg := gg.trans g4
    have z4 := g4.size
    unfold gvG
    go_wp2_with (first | (refine r_alloc 43 _ Tryd.gzero rfl ?_; intro w5 B5 N5; have g5 := N5.gr; have b5 : Blk w5 B5 (gv 0 0 []) 43 := N5.blk; have l5 := N5.lo; have t5 := N5.hi; have z5 := g5.size; have gg := gg.trans g5; clear N5; obtain ⟨b5_0, b5_1, b5_2⟩ := gcells b5) | (refine r_store_row 43 43 _ _ _ rfl (gv _ _ _) _ rfl b5 (Tryd.gsize' _ _ _) (by simp only [gv_size]) (gv_one _ _ _) rfl ?_; intro w6 u6 b5'; have z6 := u6.size; have gg := u6.gr gg (by omega); clear b5; have b5 := b5'; clear b5'; obtain ⟨b5_0, b5_1, b5_2⟩ := gcells b5))
    go_ret2
    exact ⟨fin_sb HV.out.1.symm HV.out.2.symm, gg⟩
  · have H1 := hidI h1
    cases h2 : rdOk t.data.toList
    · have HV := hidI (be_no (l := s.data.toList) (m := t.data.toList) (by unfold beC; rw [h2, Bool.and_false]; rfl))
      have H2 := hidI h2
      clear h1 h2
      go_enter Tryd.func9, Tryd.ntmps9
      go_wp2_with fail
      refine (readTray_any s _ (gg.ml hm) hs).mono ?_
      rintro e w1 ⟨rfl, g1⟩
      rw [H1.out]
      have gg := gg.trans g1
      have z1 := g1.size
      unfold gvG
      go_wp2_with (first | (refine r_alloc 43 _ Tryd.gzero rfl ?_; intro w2 B2 N2; have g2 := N2.gr; have b2 : Blk w2 B2 (gv 0 0 []) 43 := N2.blk; have l2 := N2.lo; have t2 := N2.hi; have z2 := g2.size; have gg := gg.trans g2; clear N2; obtain ⟨b2_0, b2_1, b2_2⟩ := gcells b2) | (refine r_store_row 43 43 _ _ _ rfl (gv _ _ _) _ rfl b2 (Tryd.gsize' _ _ _) (by simp only [gv_size]) (gv_one _ _ _) rfl ?_; intro w3 u3 b2'; have z3 := u3.size; have gg := u3.gr gg (by omega); clear b2; have b2 := b2'; clear b2'; obtain ⟨b2_0, b2_1, b2_2⟩ := gcells b2))
      refine (readTray_any t _ (gg.ml hm) ht).mono ?_
      rintro e w4 ⟨rfl, g4⟩
      rw [H2.out]
      have gg := gg.trans g4
      have z4 := g4.size
      unfold gvG
      go_wp2_with (first | (refine r_alloc 43 _ Tryd.gzero rfl ?_; intro w5 B5 N5; have g5 := N5.gr; have b5 : Blk w5 B5 (gv 0 0 []) 43 := N5.blk; have l5 := N5.lo; have t5 := N5.hi; have z5 := g5.size; have gg := gg.trans g5; clear N5; obtain ⟨b5_0, b5_1, b5_2⟩ := gcells b5) | (refine r_store_row 43 43 _ _ _ rfl (gv _ _ _) _ rfl b5 (Tryd.gsize' _ _ _) (by simp only [gv_size]) (gv_one _ _ _) rfl ?_; intro w6 u6 b5'; have z6 := u6.size; have gg := u6.gr gg (by omega); clear b5; have b5 := b5'; clear b5'; obtain ⟨b5_0, b5_1, b5_2⟩ := gcells b5))
      go_ret2
      exact ⟨fin_sb HV.out.1.symm HV.out.2.symm, gg⟩
    · have H2 := hidI h2
      rcases rd_cases s.data.toList with ⟨_, _, hk⟩ | ⟨g, hp, hg, _⟩
      · rw [hk] at h1; cases h1
      rcases rd_cases t.data.toList with ⟨_, _, hk⟩ | ⟨k, hq, hkg, _⟩
      · rw [hk] at h2; cases h2
      have HG := hidI hg
      have HKG := hidI hkg
      have t1 := parse_tray hp
      have t2 := parse_tray hq
      by_cases hh : g.h = k.h
      · have HV := hidI (be_yes h1 h2 hg hkg hh)
        have hne : ((g.h : Int) != (k.h : Int)) = false := by rw [hh]; simp
        have gw1 := t1.w1
        have gw7 := t1.w7
        have gh1 := t1.h1
        have gh7 := t1.h7
        have g36 := t1.n36
        have kw1 := t2.w1
        have kw7 := t2.w7
        have kh7 := t2.h7
        have k36 := t2.n36
        have hkh : k.h = g.h := hh.symm
        rw [hkh] at k36 hne
        have HKH := hidI hkh
        have hmk : g.h * 1 ≤ 16777216 := by omega
        have hby : 16 * g.h ≤ 281474976710656 := by omega
        obtain ⟨W, hW⟩ : ∃ W, W = g.w + k.w := ⟨_, rfl⟩
        obtain ⟨c, hc⟩ : ∃ c, c = bsL g k g.h := ⟨_, rfl⟩
        rw [← hW, ← hc] at HV
        have HROW := hidI (show ∀ y, y < g.h → rowB g.w g.c y ++ rowB k.w k.c y = rowB W c y from fun y hy => by rw [hW, hc]; exact bs_rowB g k g.h y hy)
        have hW14 : W ≤ 14 := by omega
        have hu105 := txtB_le14 W g.h c hW14 gh7
        clear h1 h2 hp hq hg hkg t1 t2 hh hW hc hkh
        go_enter Tryd.func9, Tryd.ntmps9
        go_wp2_with fail
        refine (readTray_any s _ (gg.ml hm) hs).mono ?_
        rintro e w1 ⟨rfl, g1⟩
        rw [H1.out, HG.out]
        have gg := gg.trans g1
        have z1 := g1.size
        unfold gvG
        go_wp2_with (first | (refine r_alloc 43 _ Tryd.gzero rfl ?_; intro w2 B2 N2; have g2 := N2.gr; have b2 : Blk w2 B2 (gv 0 0 []) 43 := N2.blk; have l2 := N2.lo; have t2 := N2.hi; have z2 := g2.size; have gg := gg.trans g2; clear N2; obtain ⟨b2_0, b2_1, b2_2⟩ := gcells b2) | (refine r_store_row 43 43 _ _ _ rfl (gv g.w g.h g.c) _ rfl b2 (Tryd.gsize' _ _ _) (by simp only [gv_size]) (gv_one _ _ _) rfl ?_; intro w3 u3 b2'; have z3 := u3.size; have gg := u3.gr gg (by omega); clear b2; have b2 := b2'; clear b2'; obtain ⟨b2_0, b2_1, b2_2⟩ := gcells b2))
        refine (readTray_any t _ (gg.ml hm) ht).mono ?_
        rintro e w4 ⟨rfl, g4⟩
        rw [H2.out, HKG.out]
        have gg := gg.trans g4
        have z4 := g4.size
        unfold gvG
        rw [HKH.out]
        have b2 := g4.blk b2
        go_wp2_with (first | (refine r_alloc 43 _ Tryd.gzero rfl ?_; intro w5 B5 N5; have g5 := N5.gr; have b5 : Blk w5 B5 (gv 0 0 []) 43 := N5.blk; have l5 := N5.lo; have t5 := N5.hi; have z5 := g5.size; have b2 := g5.blk b2; obtain ⟨b2_0, b2_1, b2_2⟩ := gcells b2; have gg := gg.trans g5; clear N5; obtain ⟨b5_0, b5_1, b5_2⟩ := gcells b5) | (refine r_store_row 43 43 _ _ _ rfl (gv k.w g.h k.c) _ rfl b5 (Tryd.gsize' _ _ _) (by simp only [gv_size]) (gv_one _ _ _) rfl ?_; intro w6 u6 b5'; have z6 := u6.size; have gg := u6.gr gg (by omega); have b2 := u6.blk b2 (by omega); obtain ⟨b2_0, b2_1, b2_2⟩ := gcells b2; clear b5; have b5 := b5'; clear b5'; obtain ⟨b5_0, b5_1, b5_2⟩ := gcells b5) | (refine r_make 46 9 _ _ _ Tryd.strIB (.tmp 36) (.tmp 36) g.h rfl rfl hmk hby (by omega) rfl ?_; intro w7 B7 N7; have g7 := N7.gr; have b7 : Blk w7 B7 _ 9 := N7.blk; rw [rowsV_zero W c g.h] at b7; have l7 := N7.lo; have z7 := g7.size; have b2 := g7.blk b2; have b5 := g7.blk b5; have gg := gg.trans g7))
        have hB27 : B2 < B7 := by have := u6.size; omega
        have hB57 : B5 < B7 := by have := u6.size; omega
        have lo7 : w.heap.size ≤ B7 := by have := u6.size; omega
        go_loopw [11, 40] (fun _ i wr => ∃ y : Nat, y ≤ g.h ∧ i = .int .i64 y ∧ Blk wr B2 (gv g.w g.h g.c) 43 ∧ Blk wr B5 (gv k.w g.h k.c) 43 ∧ Blk wr B7 (rowsV W c g.h y) 9 ∧ Gr w wr) (fun _ i _ => g.h - (intOf i).toNat)
        case atStart => exact ⟨0, Nat.zero_le _, rfl, b2, b5, b7, gg⟩
        case round =>
          obtain ⟨y, hy, rfl, b2, b5, b7, gg⟩ := hrel
          by_cases hlt : y < g.h
          · have hle1 := nn_row (W := g.w) hlt
            have hle2 := nn_row (W := k.w) hlt
            have HSE := hidI (rowsV_set W c g.h y hlt)
            have hsz := rowsV_size W c g.h y
            have hr1 := rowB_size g.w g.c y
            have hr2 := rowB_size k.w k.c y
            have HADD := hidI (fun w => (run_string_add_sum (P := Tryd.prog) w (rowB g.w g.c y) (rowB k.w k.c y) (by omega)).trans (by rw [HROW.out y hlt]))
            go_wp2
            refine q_begin 10 (by kernel_rfl) (by kernel_rfl) ?_; simp only [List.take_succ_cons, List.take_zero, List.drop_succ_cons, List.drop_zero]
            refine q_move _ (.slice (some ⟨B7, 0, none⟩) g.h g.h) rfl rfl ?_; simp only [Act.put, List.setIfInBounds_toArray, List.set_cons_succ, List.set_cons_zero]
            refine q_move _ (.int .i64 y) rfl rfl ?_; simp only [Act.put, List.setIfInBounds_toArray, List.set_cons_succ, List.set_cons_zero]
            refine q_move _ (.int .i64 y) rfl rfl ?_; simp only [Act.put, List.setIfInBounds_toArray, List.set_cons_succ, List.set_cons_zero]
            refine q_call 24 [.tmp 6, .tmp 45] _ [.pointer (some ⟨B2, 0, none⟩), .int .i64 y] (.slice (some ⟨B2, 2 + nn g.w y, none⟩) g.w g.w) Tryd.call24 rfl rfl (fun w' hw' => ((rowOf_any B2 g.w g.h y g.c w' (hw'.blk b2) gw1 gw7 hlt g36 gh7).mono fun e w'' h => ⟨h.1, by obtain ⟨m, rfl⟩ := h.2; exact hw'.drewN m⟩)) ?_; simp only [Act.put, List.setIfInBounds_toArray, List.set_cons_succ, List.set_cons_zero]
            refine q_take (.string (rowB g.w g.c y)) rfl (fun w' hw' => e_convB _ _ _ rfl (Tryd.conv B2 (2 + nn g.w y) _ _ _ (bytes_row (by intro i hi; rw [Nat.add_assoc]; exact (gcells (hw'.blk b2)).2.2 (nn g.w y + i) (by omega))) g.w (rowB_size _ _ _))) ?_
            simp only [Act.put, List.setIfInBounds_toArray, List.set_cons_succ, List.set_cons_zero]
            refine q_move _ (.int .i64 y) rfl rfl ?_; simp only [Act.put, List.setIfInBounds_toArray, List.set_cons_succ, List.set_cons_zero]
            refine q_call 24 [.tmp 8, .tmp 48] _ [.pointer (some ⟨B5, 0, none⟩), .int .i64 y] (.slice (some ⟨B5, 2 + nn k.w y, none⟩) k.w k.w) Tryd.call24 rfl rfl (fun w' hw' => ((rowOf_any B5 k.w g.h y k.c w' (hw'.blk b5) kw1 kw7 hlt k36 gh7).mono fun e w'' h => ⟨h.1, by obtain ⟨m, rfl⟩ := h.2; exact hw'.drewN m⟩)) ?_; simp only [Act.put, List.setIfInBounds_toArray, List.set_cons_succ, List.set_cons_zero]
            refine q_take (.string (rowB k.w k.c y)) rfl (fun w' hw' => e_convB _ _ _ rfl (Tryd.conv B5 (2 + nn k.w y) _ _ _ (bytes_row (by intro i hi; rw [Nat.add_assoc]; exact (gcells (hw'.blk b5)).2.2 (nn k.w y + i) (by omega))) k.w (rowB_size _ _ _))) ?_
            simp only [Act.put, List.setIfInBounds_toArray, List.set_cons_succ, List.set_cons_zero]
            refine q_take (.string (rowB W c y)) rfl (fun w' hw' => e_addS _ _ _ _ _ rfl rfl (HADD.out w')) ?_
            simp only [Act.put, List.setIfInBounds_toArray, List.set_cons_succ, List.set_cons_zero]
            refine q_take (.pointer (some ⟨B7, y, none⟩)) rfl (fun w' hw' => e_val _ _ (Tryd.stix B7 g.h g.h y hlt _)) ?_; simp only [Act.put, List.setIfInBounds_toArray, List.set_cons_succ, List.set_cons_zero]
            refine wpQuiet_nil ?_
            intro w8 g8
            have b2 := g8.blk b2
            have b5 := g8.blk b5
            have b7 := g8.blk b7
            have gg := gg.trans g8
            go_wp2_with (refine r_store_cell 9 9 _ _ B7 y rfl (.string (rowB W c y)) rfl _ b7 (by rw [rowsV_size]; exact hlt) Tryd.sizeOf9 rfl rfl ?_; intro w9 u9 b9; rw [HSE.out] at b9)
            go_roundw
            case rel => exact ⟨y + 1, by omega, by go_num, u9.blk b2 (by omega), u9.blk b5 (by omega), b9, u9.gr gg lo7⟩
            case measure => simp [intOf]; omega
          · obtain rfl : y = g.h := by omega
            clear hlt
            go_wp2_with fail
            refine (join_rows14 B7 W g.h c _ b7 hW14 gh7).mono ?_
            rintro e w8 ⟨rfl, g8⟩
            have gg := gg.trans g8
            obtain ⟨u, hu⟩ : ∃ u, u = txtB W g.h c := ⟨_, rfl⟩
            rw [← hu] at HV hu105 ⊢
            clear hu
            go_wp2_with fail
            refine (checked_any u _ (gg.ml hm) (by omega)).mono ?_
            rintro e w9 ⟨rfl, g9⟩
            have gg := gg.trans g9
            go_wp2
            go_ret2
            exact ⟨fin_sb HV.out.1.symm HV.out.2.symm, gg⟩
      · have HV := hidI (be_no (l := s.data.toList) (m := t.data.toList) (by unfold beC; rw [h1, h2, hg, hkg, decide_eq_false hh]; rfl))
        have hne : ((g.h : Int) != (k.h : Int)) = true := by rw [bne_iff_ne]; omega
        clear h1 h2 hp hq hg hkg t1 t2 hh
        go_enter Tryd.func9, Tryd.ntmps9
        go_wp2_with fail
        refine (readTray_any s _ (gg.ml hm) hs).mono ?_
        rintro e w1 ⟨rfl, g1⟩
        rw [H1.out, HG.out]
        have gg := gg.trans g1
        have z1 := g1.size
        unfold gvG
        go_wp2_with (first | (refine r_alloc 43 _ Tryd.gzero rfl ?_; intro w2 B2 N2; have g2 := N2.gr; have b2 : Blk w2 B2 (gv 0 0 []) 43 := N2.blk; have l2 := N2.lo; have t2 := N2.hi; have z2 := g2.size; have gg := gg.trans g2; clear N2; obtain ⟨b2_0, b2_1, b2_2⟩ := gcells b2) | (refine r_store_row 43 43 _ _ _ rfl (gv g.w g.h g.c) _ rfl b2 (Tryd.gsize' _ _ _) (by simp only [gv_size]) (gv_one _ _ _) rfl ?_; intro w3 u3 b2'; have z3 := u3.size; have gg := u3.gr gg (by omega); clear b2; have b2 := b2'; clear b2'; obtain ⟨b2_0, b2_1, b2_2⟩ := gcells b2))
        refine (readTray_any t _ (gg.ml hm) ht).mono ?_
        rintro e w4 ⟨rfl, g4⟩
        rw [H2.out, HKG.out]
        have gg := gg.trans g4
        have z4 := g4.size
        unfold gvG
        have b2 := g4.blk b2
        go_wp2_with (first | (refine r_alloc 43 _ Tryd.gzero rfl ?_; intro w5 B5 N5; have g5 := N5.gr; have b5 : Blk w5 B5 (gv 0 0 []) 43 := N5.blk; have l5 := N5.lo; have t5 := N5.hi; have z5 := g5.size; have b2 := g5.blk b2; obtain ⟨b2_0, b2_1, b2_2⟩ := gcells b2; have gg := gg.trans g5; clear N5; obtain ⟨b5_0, b5_1, b5_2⟩ := gcells b5) | (refine r_store_row 43 43 _ _ _ rfl (gv k.w k.h k.c) _ rfl b5 (Tryd.gsize' _ _ _) (by simp only [gv_size]) (gv_one _ _ _) rfl ?_; intro w6 u6 b5'; have z6 := u6.size; have gg := u6.gr gg (by omega); have b2 := u6.blk b2 (by omega); obtain ⟨b2_0, b2_1, b2_2⟩ := gcells b2; clear b5; have b5 := b5'; clear b5'; obtain ⟨b5_0, b5_1, b5_2⟩ := gcells b5))
        go_ret2
        exact ⟨fin_sb HV.out.1.symm HV.out.2.symm, gg⟩
theorem Tryd.tbuildB (x y : Int) (w : World) : (Instr.build 37 #[(0, .int .i64 x), (1, .int .i64 y)]).run Tryd.prog w = .ok (.agg (tg x y (.slice none 0 0))) w := by kernel_rfl
theorem e_cutB {P : Program} {w : World} {a : Act} {dst : Option Tmp} {ty T : TypeId} {pos : String} {aft : Array Edge} {gd : Option (Nat × Bool)} (x lo hi : Operand) (v l h r : Value) (hx : a.eval x = v) (hl : a.eval lo = l) (hh : a.eval hi = h) (hr : (Instr.sliceAt T v (some l) (some h) none).run P w = .ok r w) :
    (execOp a.eval ⟨dst, .slice T x (some lo) (some hi) none, ty, pos, aft, gd⟩).run P w = .ok (.value r) w := by
  unfold execOp
  simp only [Option.map_some, Option.map_none, hx, hl, hh, Sem.run_bind, hr, Result.andThen_ok, Sem.run_pure]
theorem row_news {w : World} {base : Nat} {e : TypeId} {G cap W y : Nat} {c : List UInt8} (hr : w.ownsRow base e 1 (.slice (some ⟨G, 0, none⟩) c.length cap) c.length (cellsV c)) (hle : nn W y + W ≤ c.length) :
    ∀ (j : Nat) u, (cellsV (rowL W c y))[j]? = some u → w.cell? ((⟨G, nn W y, none⟩ : Addr).add j) = some u := by
  intro j u hj
  have hjl : j < W := by
    rcases Nat.lt_or_ge j W with h | h
    · exact h
    · rw [List.getElem?_eq_none (by simpa [cellsV, rowL_length] using h)] at hj; cases hj
  have h1 := own_cell hr (nn W y + j) (by omega) rfl
  unfold cellsV at hj
  rw [List.getElem?_map, rowL_get W c y j hjl] at hj
  have e : byteV (at0 c (nn W y + j)) = u := by simpa using hj
  subst e
  have e3 : (⟨G, nn W y, none⟩ : Addr).add j = ⟨G, nn W y + j, none⟩ := by simp [Addr.add]
  rw [e3]
  exact h1
theorem mul_nnB (w y : Nat) : (y : Int) * (w : Int) = ((nn w y : Nat) : Int) := by unfold nn; rw [Int.natCast_mul, Int.mul_comm]
theorem mul_nnB1 (w y : Nat) : ((y : Int) + 1) * (w : Int) = ((nn w (y + 1) : Nat) : Int) := by
  unfold nn; rw [Int.natCast_mul, Int.mul_comm]; rfl
theorem own_apartO {w1 w2 : World} {b1 b2 : Nat} {e1 e2 : TypeId} {s1 s2 : Nat} {G n1 c1 : Nat} {v2 : Value} {n2 : Nat} {x1 x2 : List Value} (_h1 : w1.ownsRow b1 e1 s1 (.slice (some ⟨G, 0, none⟩) n1 c1) n1 x1) (h2 : w2.ownsRow b2 e2 s2 v2 n2 x2) (hb : G < b2) : (Value.slice (some ⟨G, 0, none⟩) n1 c1).ownBlock = none ∨ (Value.slice (some ⟨G, 0, none⟩) n1 c1).ownBlock ≠ v2.ownBlock :=
  .inr fun e => by
    have := (h2.lt G e.symm).1
    omega
set_option maxHeartbeats 4000000 in
set_option maxRecDepth 100000 in
theorem sBesideTrays (s t : ByteArray) (w : World) (hs : s.size ≤ 1048576) (ht : t.size ≤ 1048576) : Calls Tryd.prog 8 #[.string s, .string t] w (Ret (.tuple #[.string (beS s.data.toList t.data.toList), .bool (beO s.data.toList t.data.toList)]) w) := by
  have gg := Gr.refl w
  go_enter Tryd.func8, Tryd.ntmps8
  go_wp2_with fail
  refine (tyRead_any s _ hs).mono ?_
  rintro e w1 ⟨g1, ⟨hp, rfl⟩ | ⟨g, sl, hp, rfl, hown⟩⟩
  · have HV := hidI (be_no (l := s.data.toList) (m := t.data.toList) (by unfold beC; rw [(rd_parse_none hp).2]; rfl))
    have z1 := g1.size
    have gg := gg.trans g1
    clear hp
    go_wp2_with (first | (refine r_alloc 37 _ Tryd.tzero rfl ?_; intro w2 B2 N2; have g2 := N2.gr; have b2 : Blk w2 B2 (tg 0 0 (.slice none 0 0)) 37 := N2.blk; have l2 := N2.lo; have t2 := N2.hi; have z2 := g2.size; have gg := gg.trans g2; clear N2; obtain ⟨b2_0, b2_1, b2_2⟩ := tcells b2) | (refine r_store_row 37 37 _ _ _ rfl (tg _ _ _) _ rfl b2 Tryd.tsize rfl (tg_one rfl) rfl ?_; intro w3 u3 b2'; have z3 := u3.size; have gg := u3.gr gg (by omega); clear b2; have b2 := b2'; clear b2'; obtain ⟨b2_0, b2_1, b2_2⟩ := tcells b2))
    refine (tyRead_any t _ ht).mono ?_
    rintro e w4 ⟨g4, ⟨hq, rfl⟩ | ⟨k, slk, hq, rfl, hownk⟩⟩
    · have gg := gg.trans g4
      have z4 := g4.size
      clear hq
      go_wp2_with (first | (refine r_alloc 37 _ Tryd.tzero rfl ?_; intro w5 B5 N5; have g5 := N5.gr; have b5 : Blk w5 B5 (tg 0 0 (.slice none 0 0)) 37 := N5.blk; have l5 := N5.lo; have t5 := N5.hi; have z5 := g5.size; have gg := gg.trans g5; clear N5; obtain ⟨b5_0, b5_1, b5_2⟩ := tcells b5) | (refine r_store_row 37 37 _ _ _ rfl (tg _ _ _) _ rfl b5 Tryd.tsize rfl (tg_one rfl) rfl ?_; intro w6 u6 b5'; have z6 := u6.size; have gg := u6.gr gg (by omega); clear b5; have b5 := b5'; clear b5'; obtain ⟨b5_0, b5_1, b5_2⟩ := tcells b5))
      go_ret2
      exact ⟨fin_sb HV.out.1.symm HV.out.2.symm, gg⟩
    · have gg := gg.trans g4
      have z4 := g4.size
      have honek := own_one hownk
      clear hq
      go_wp2_with (first | (refine r_alloc 37 _ Tryd.tzero rfl ?_; intro w5 B5 N5; have g5 := N5.gr; have b5 : Blk w5 B5 (tg 0 0 (.slice none 0 0)) 37 := N5.blk; have l5 := N5.lo; have t5 := N5.hi; have z5 := g5.size; have gg := gg.trans g5; clear N5; obtain ⟨b5_0, b5_1, b5_2⟩ := tcells b5) | (refine r_store_row 37 37 _ _ _ rfl (tg _ _ _) _ rfl b5 Tryd.tsize rfl (tg_one honek) rfl ?_; intro w6 u6 b5'; have z6 := u6.size; have gg := u6.gr gg (by omega); clear b5; have b5 := b5'; clear b5'; obtain ⟨b5_0, b5_1, b5_2⟩ := tcells b5))
      go_ret2
      exact ⟨fin_sb HV.out.1.symm HV.out.2.symm, gg⟩
  · have z1 := g1.size
    have gg := gg.trans g1
    have hone := own_one hown
    have hk1 := (rd_parse_some hp)
    go_wp2_with (first | (refine r_alloc 37 _ Tryd.tzero rfl ?_; intro w2 B2 N2; have g2 := N2.gr; have b2 : Blk w2 B2 (tg 0 0 (.slice none 0 0)) 37 := N2.blk; have l2 := N2.lo; have t2 := N2.hi; have z2 := g2.size; have gg := gg.trans g2; clear N2; obtain ⟨b2_0, b2_1, b2_2⟩ := tcells b2) | (refine r_store_row 37 37 _ _ _ rfl (tg _ _ _) _ rfl b2 Tryd.tsize rfl (tg_one hone) rfl ?_; intro w3 u3 b2'; have z3 := u3.size; have gg := u3.gr gg (by omega); clear b2; have b2 := b2'; clear b2'; obtain ⟨b2_0, b2_1, b2_2⟩ := tcells b2))
    have hown := u3.row (g2.row hown) (own_new hown l2)
    refine (tyRead_any t _ ht).mono ?_
    rintro e w4 ⟨g4, ⟨hq, rfl⟩ | ⟨k, slk, hq, rfl, hownk⟩⟩
    · have HV := hidI (be_no (l := s.data.toList) (m := t.data.toList) (by unfold beC; rw [(rd_parse_none hq).2, Bool.and_false]; rfl))
      have gg := gg.trans g4
      have z4 := g4.size
      clear hp hq hk1
      go_wp2_with (first | (refine r_alloc 37 _ Tryd.tzero rfl ?_; intro w5 B5 N5; have g5 := N5.gr; have b5 : Blk w5 B5 (tg 0 0 (.slice none 0 0)) 37 := N5.blk; have l5 := N5.lo; have t5 := N5.hi; have z5 := g5.size; have gg := gg.trans g5; clear N5; obtain ⟨b5_0, b5_1, b5_2⟩ := tcells b5) | (refine r_store_row 37 37 _ _ _ rfl (tg _ _ _) _ rfl b5 Tryd.tsize rfl (tg_one rfl) rfl ?_; intro w6 u6 b5'; have z6 := u6.size; have gg := u6.gr gg (by omega); clear b5; have b5 := b5'; clear b5'; obtain ⟨b5_0, b5_1, b5_2⟩ := tcells b5))
      go_ret2
      exact ⟨fin_sb HV.out.1.symm HV.out.2.symm, gg⟩
    · have hk2 := (rd_parse_some hq)
      have gg := gg.trans g4
      have z4 := g4.size
      have honek := own_one hownk
      have b2 := g4.blk b2
      have hown := g4.row hown
      have t1 := parse_tray hp
      have t2 := parse_tray hq
      by_cases hh : g.h = k.h
      · have HV := hidI (be_yes hk1.2 hk2.2 hk1.1 hk2.1 hh)
        have hkh : k.h = g.h := hh.symm
        have hne : ((g.h : Int) != (k.h : Int)) = false := by rw [hh]; simp
        have gw1 := t1.w1
        have gw7 := t1.w7
        have gh1 := t1.h1
        have gh7 := t1.h7
        have g36 := t1.n36
        have kw1 := t2.w1
        have kw7 := t2.w7
        have k36 := t2.n36
        have hgl := t1.len
        have hkl := t2.len
        rw [hkh] at k36 hkl hne
        have hgl1 : 0 < g.c.length := by rw [hgl]; exact Nat.mul_pos gw1 gh1
        have hkl1 : 0 < k.c.length := by rw [hkl]; exact Nat.mul_pos kw1 gh1
        obtain ⟨G, cap, rfl, -, hcap⟩ := own_shape hown hgl1
        obtain ⟨G2, cap2, rfl, -, hcap2⟩ := own_shape hownk hkl1
        have tG' := (hown.lt G rfl).2
        have tG2' := (hownk.lt G2 rfl).2
        obtain ⟨W, hW⟩ : ∃ W, W = g.w + k.w := ⟨_, rfl⟩
        have HW := hidI (show (g.w : Int) + (k.w : Int) = (W : Int) from by omega)
        have hW14 : W ≤ 14 := by omega
        have hW1 : 1 ≤ W := by omega
        have HBL := hidI (show ∀ y, (bsL g k y).length = nn W y from fun y => by rw [hW]; exact bsL_length g k y)
        rw [← hW] at HV
        have HGL := hidI hgl
        have HKL := hidI hkl
        rw [hkh]
        clear hp hq hk1 hk2 t1 t2 hh hkh hW hgl hkl
        go_wp2_with (first | (have hx5 := b5; clear hx5; (refine r_alloc 37 _ Tryd.tzero rfl ?_; intro w7 B7 N7; have g7 := N7.gr; have b7 : Blk w7 B7 (tg 0 0 (.slice none 0 0)) 37 := N7.blk; have l7 := N7.lo; have t7 := N7.hi; have z7 := g7.size; have b2 := g7.blk b2; obtain ⟨b2_0, b2_1, b2_2⟩ := tcells b2; have b5 := g7.blk b5; obtain ⟨b5_0, b5_1, b5_2⟩ := tcells b5; have gg := gg.trans g7; clear N7; obtain ⟨b7_0, b7_1, b7_2⟩ := tcells b7)) | (refine r_alloc 37 _ Tryd.tzero rfl ?_; intro w5 B5 N5; have g5 := N5.gr; have b5 : Blk w5 B5 (tg 0 0 (.slice none 0 0)) 37 := N5.blk; have l5 := N5.lo; have t5 := N5.hi; have z5 := g5.size; have b2 := g5.blk b2; obtain ⟨b2_0, b2_1, b2_2⟩ := tcells b2; have gg := gg.trans g5; clear N5; obtain ⟨b5_0, b5_1, b5_2⟩ := tcells b5) | (have hx7 := b7; clear hx7; (refine r_store_row 37 37 _ _ _ rfl (tg _ _ _) _ rfl b7 Tryd.tsize rfl (tg_one rfl) rfl ?_; intro w8 u8 b7'; have z8 := u8.size; have gg := u8.gr gg (by omega); have b2 := u8.blk b2 (by omega); obtain ⟨b2_0, b2_1, b2_2⟩ := tcells b2; have b5 := u8.blk b5 (by omega); obtain ⟨b5_0, b5_1, b5_2⟩ := tcells b5; clear b7; have b7 := b7'; clear b7'; obtain ⟨b7_0, b7_1, b7_2⟩ := tcells b7)) | (refine r_store_row 37 37 _ _ _ rfl (tg _ _ _) _ rfl b5 Tryd.tsize rfl (tg_one honek) rfl ?_; intro w6 u6 b5'; have z6 := u6.size; have gg := u6.gr gg (by omega); have b2 := u6.blk b2 (by omega); obtain ⟨b2_0, b2_1, b2_2⟩ := tcells b2; clear b5; have b5 := b5'; clear b5'; obtain ⟨b5_0, b5_1, b5_2⟩ := tcells b5) | (refine r_val (.int .i64 (W : Int)) (e_add (.tmp 36) (.tmp 38) (g.w : Int) (k.w : Int) (W : Int) rfl rfl HW.out (by omega)) rfl ?_) | (refine r_build 37 [(0, .tmp 39), (1, .tmp 41)] [(0, .int .i64 (W : Int)), (1, .int .i64 g.h)] _ (Tryd.tbuildB _ _ _) rfl rfl ?_))
        have hown := u8.row (g7.row (u6.row (g5.row hown) (own_new hown l5))) (own_new (u6.row (g5.row hown) (own_new hown l5)) l7)
        have hownk := u8.row (g7.row (u6.row (g5.row hownk) (own_new hownk l5))) (own_new (u6.row (g5.row hownk) (own_new hownk l5)) l7)
        obtain ⟨baseO, hbase⟩ : ∃ b, b = w8.heap.size := ⟨_, rfl⟩
        have tB2 : B2 < baseO := by omega
        have tB5 : B5 < baseO := by omega
        have tB7 : B7 < baseO := by omega
        have tG : G < baseO := by omega
        have tG2 : G2 < baseO := by omega
        have hbO : w.heap.size ≤ baseO := by omega
        have loB7 : w.heap.size ≤ B7 := by omega
        have n27 : B2 ≠ B7 := by omega
        have n57 : B5 ≠ B7 := by omega
        have own0 : w8.ownsRow baseO 5 1 (.slice none 0 0) (bsL g k 0).length (cellsV (bsL g k 0)) := World.ownsRow_nil _ _ _ _
        have zb : baseO ≤ w8.heap.size := by omega
        clear hbase
        go_loopw [11] (fun iv wr => ∃ (y : Nat) (sl : Value), y ≤ g.h ∧ iv = .int .i64 y ∧ Blk wr B2 (tg g.w g.h (.slice (some ⟨G, 0, none⟩) g.c.length cap)) 37 ∧ Blk wr B5 (tg k.w g.h (.slice (some ⟨G2, 0, none⟩) k.c.length cap2)) 37 ∧ Blk wr B7 (tg W g.h sl) 37 ∧
            wr.ownsRow w.heap.size 5 1 (.slice (some ⟨G, 0, none⟩) g.c.length cap) g.c.length (cellsV g.c) ∧ wr.ownsRow w3.heap.size 5 1 (.slice (some ⟨G2, 0, none⟩) k.c.length cap2) k.c.length (cellsV k.c) ∧ wr.ownsRow baseO 5 1 sl (bsL g k y).length (cellsV (bsL g k y)) ∧ Gr w wr ∧ baseO ≤ wr.heap.size) (fun iv _ => g.h - (intOf iv).toNat)
        case atStart => exact ⟨0, _, Nat.zero_le _, rfl, b2, b5, b7, hown, hownk, own0, gg, zb⟩
        case round =>
          obtain ⟨y, sl7, hy, rfl, b2, b5, b7, hown, hownk, own, gg, zb⟩ := hrel
          obtain ⟨b2_0, b2_1, b2_2⟩ := tcells b2
          by_cases hlt : y < g.h
          · have hr1 := nn_row (W := g.w) hlt
            have hr2 := nn_row (W := k.w) hlt
            have hs1 : nn g.w (y + 1) = nn g.w y + g.w := Nat.mul_succ _ _
            have hs2 : nn k.w (y + 1) = nn k.w y + k.w := Nat.mul_succ _ _
            have hbl := HBL.out y
            have hnW := nn_le (x := W) (y := y) (a := 14) (b := 7) hW14 (by omega)
            have hgl2 : nn g.w (y + 1) ≤ g.c.length := by rw [HGL.out]; omega
            have hkl2 : nn k.w (y + 1) ≤ k.c.length := by rw [HKL.out]; omega
            have hl1 : (bsL g k y ++ rowL g.w g.c y).length = nn W y + g.w := by rw [List.length_append, hbl, rowL_length]
            go_wp2
            have gdr := (Gr.refl wr).drew
            have b2 := gdr.blk b2
            have b5 := gdr.blk b5
            have b7 := gdr.blk b7
            have hown := gdr.row hown
            have hownk := gdr.row hownk
            have own := gdr.row own
            have gg := gg.trans gdr
            have zdr := gdr.size
            obtain ⟨p7, n7, q7, hsl⟩ := own_slice own
            first | subst hsl | (injection hsl with e1 e2 e3; have e1' := e1.symm; have e2' := e2.symm; have e3' := e3.symm; subst e1'; subst e2'; subst e3'; clear e1 e2 e3)
            obtain ⟨b7_0, b7_1, b7_2⟩ := tcells b7
            obtain ⟨bx_0, bx_1, bx_2⟩ := tcells b2
            refine F_begin (fun w => w.cell? ⟨B7, 2, none⟩ = some (.slice p7 n7 q7) ∧ w.cell? ⟨B2, 2, none⟩ = some (.slice (some ⟨G, 0, none⟩) g.c.length cap) ∧ w.cell? ⟨B2, 0, none⟩ = some (.int .i64 g.w)) 16 17 #[false, false, false, false, false, false, false, false, false, false, false, false, false, false, false, false, false] rfl (by kernel_rfl) (by kernel_rfl) ?_
            generalize wr.drew = wdA at *
            have hFF := And.intro b7_2 (And.intro bx_2 bx_0)
            refine F_free (v := .pointer (some ⟨B7, 2, none⟩)) 0 #[true, false, false, false, false, false, false, false, false, false, false, false, false, false, false, false, false] rfl (by kernel_rfl) (fun _ _ _ h => h) rfl (fun _ => e_val _ _ (Tryd.tf2 B7 _)) (hFF) ?_; simp only [Act.put, List.setIfInBounds_toArray, List.set_cons_succ, List.set_cons_zero]
            refine F_take (v := .slice p7 n7 q7) 1 #[true, true, false, false, false, false, false, false, false, false, false, false, false, false, false, false, false] rfl (by kernel_rfl) (fun _ _ _ h => h) rfl (fun w hF => e_load 35 (.tmp 49) ⟨B7, 2, none⟩ (.slice p7 n7 q7) rfl (Tryd.isAgg35 _) hF.1) (hFF) ?_; simp only [Act.put, List.setIfInBounds_toArray, List.set_cons_succ, List.set_cons_zero]
            refine F_free (v := .pointer (some ⟨B2, 2, none⟩)) 2 #[true, true, true, false, false, false, false, false, false, false, false, false, false, false, false, false, false] rfl (by kernel_rfl) (fun _ _ _ h => h) rfl (fun _ => e_val _ _ (Tryd.tf2 B2 _)) (hFF) ?_; simp only [Act.put, List.setIfInBounds_toArray, List.set_cons_succ, List.set_cons_zero]
            refine F_take (v := .slice (some ⟨G, 0, none⟩) g.c.length cap) 3 #[true, true, true, true, false, false, false, false, false, false, false, false, false, false, false, false, false] rfl (by kernel_rfl) (fun _ _ _ h => h) rfl (fun w hF => e_load 35 (.tmp 51) ⟨B2, 2, none⟩ (.slice (some ⟨G, 0, none⟩) g.c.length cap) rfl (Tryd.isAgg35 _) hF.2.1) (hFF) ?_; simp only [Act.put, List.setIfInBounds_toArray, List.set_cons_succ, List.set_cons_zero]
            refine F_free (v := .int .i64 y) 4 #[true, true, true, true, true, false, false, false, false, false, false, false, false, false, false, false, false] rfl (by kernel_rfl) (fun _ _ _ h => h) rfl (fun _ => rfl) (hFF) ?_; simp only [Act.put, List.setIfInBounds_toArray, List.set_cons_succ, List.set_cons_zero]
            refine F_free (v := .pointer (some ⟨B2, 0, none⟩)) 5 #[true, true, true, true, true, true, false, false, false, false, false, false, false, false, false, false, false] rfl (by kernel_rfl) (fun _ _ _ h => h) rfl (fun _ => e_val _ _ (Tryd.tf0 B2 _)) (hFF) ?_; simp only [Act.put, List.setIfInBounds_toArray, List.set_cons_succ, List.set_cons_zero]
            refine F_take (v := .int .i64 g.w) 6 #[true, true, true, true, true, true, true, false, false, false, false, false, false, false, false, false, false] rfl (by kernel_rfl) (fun _ _ _ h => h) rfl (fun w hF => e_load 3 (.tmp 54) ⟨B2, 0, none⟩ (.int .i64 g.w) rfl (Tryd.isAgg3 _) hF.2.2) (hFF) ?_; simp only [Act.put, List.setIfInBounds_toArray, List.set_cons_succ, List.set_cons_zero]
            refine F_free (v := .int .i64 (nn g.w y : Nat)) 7 #[true, true, true, true, true, true, true, true, false, false, false, false, false, false, false, false, false] rfl (by kernel_rfl) (fun _ _ _ h => h) rfl (fun _ => e_mul _ _ (y : Int) (g.w : Int) ((nn g.w y : Nat) : Int) rfl rfl (mul_nnB _ _) (by omega)) (hFF) ?_; simp only [Act.put, List.setIfInBounds_toArray, List.set_cons_succ, List.set_cons_zero]
            refine F_free (v := .int .i64 y) 8 #[true, true, true, true, true, true, true, true, true, false, false, false, false, false, false, false, false] rfl (by kernel_rfl) (fun _ _ _ h => h) rfl (fun _ => rfl) (hFF) ?_; simp only [Act.put, List.setIfInBounds_toArray, List.set_cons_succ, List.set_cons_zero]
            refine F_free (v := .int .i64 ((y : Int) + 1)) 9 #[true, true, true, true, true, true, true, true, true, true, false, false, false, false, false, false, false] rfl (by kernel_rfl) (fun _ _ _ h => h) rfl (fun _ => e_add _ _ _ _ _ rfl rfl rfl (by omega)) (hFF) ?_; simp only [Act.put, List.setIfInBounds_toArray, List.set_cons_succ, List.set_cons_zero]
            refine F_free (v := .pointer (some ⟨B2, 0, none⟩)) 10 #[true, true, true, true, true, true, true, true, true, true, true, false, false, false, false, false, false] rfl (by kernel_rfl) (fun _ _ _ h => h) rfl (fun _ => e_val _ _ (Tryd.tf0 B2 _)) (hFF) ?_; simp only [Act.put, List.setIfInBounds_toArray, List.set_cons_succ, List.set_cons_zero]
            refine F_take (v := .int .i64 g.w) 11 #[true, true, true, true, true, true, true, true, true, true, true, true, false, false, false, false, false] rfl (by kernel_rfl) (fun _ _ _ h => h) rfl (fun w hF => e_load 3 (.tmp 59) ⟨B2, 0, none⟩ (.int .i64 g.w) rfl (Tryd.isAgg3 _) hF.2.2) (hFF) ?_; simp only [Act.put, List.setIfInBounds_toArray, List.set_cons_succ, List.set_cons_zero]
            refine F_free (v := .int .i64 (nn g.w (y + 1) : Nat)) 12 #[true, true, true, true, true, true, true, true, true, true, true, true, true, false, false, false, false] rfl (by kernel_rfl) (fun _ _ _ h => h) rfl (fun _ => e_mul _ _ ((y : Int) + 1) (g.w : Int) ((nn g.w (y + 1) : Nat) : Int) rfl rfl (mul_nnB1 _ _) (by omega)) (hFF) ?_; simp only [Act.put, List.setIfInBounds_toArray, List.set_cons_succ, List.set_cons_zero]
            refine F_free (v := .slice (some ⟨G, nn g.w y, none⟩) g.w (cap - nn g.w y)) 13 #[true, true, true, true, true, true, true, true, true, true, true, true, true, true, false, false, false] rfl (by kernel_rfl) (fun _ _ _ h => h) rfl (fun _ => e_cutB _ _ _ _ _ _ _ rfl rfl rfl (Tryd.slw G g.c.length cap (nn g.w y) (nn g.w (y + 1)) g.w (by omega) (by omega) (by omega) _)) (hFF) ?_; simp only [Act.put, List.setIfInBounds_toArray, List.set_cons_succ, List.set_cons_zero]
            refine F_one 14 #[true, true, true, true, true, true, true, true, true, true, true, true, true, true, true, false, false] rfl (by kernel_rfl) ?_
            refine r_append (.tmp 50) (.tmp 62) 35 5 _ 1 1 baseO Tryd.bytesI (.slice p7 n7 q7) (bsL g k y).length (cellsV (bsL g k y)) rfl own ⟨G, nn g.w y, none⟩ g.w (cap - nn g.w y) (cellsV (rowL g.w g.c y)) rfl (by simp [cellsV, rowL_length]) (row_news hown (by omega)) (cellsV_one _) (by omega) (by decide) (by omega) rfl ?_
            intro s8 w8A own8 g8
            simp only [Act.put, List.setIfInBounds_toArray, List.set_cons_succ, List.set_cons_zero]
            have e8 : (bsL g k y).length + g.w = (bsL g k y ++ rowL g.w g.c y).length := by simp only [List.length_append, rowL_length]
            rw [cellsV_append, e8] at own8
            have b2 := g8.blk b2 (own_below own tB2)
            have b5 := g8.blk b5 (own_below own tB5)
            have b7 := g8.blk b7 (own_below own tB7)
            have hown := g8.row hown (own_apartO hown own tG)
            have hownk := g8.row hownk (own_apartO hownk own tG2)
            have gg := g8.gr gg (own_gr own hbO)
            have z8 := g8.size
            obtain ⟨p8, n8, q8, rfl⟩ := own_slice own8
            obtain ⟨b7_0, b7_1, b7_2⟩ := tcells b7
            obtain ⟨bx_0, bx_1, bx_2⟩ := tcells b2
            refine ⟨fun _ => ⟨?_, bx_2, bx_0⟩, ?_⟩
            · exact b7_2
            refine F_one 15 #[true, true, true, true, true, true, true, true, true, true, true, true, true, true, true, true, false] rfl (by kernel_rfl) ?_
            refine r_val (.pointer (some ⟨B7, 2, none⟩)) (e_val _ _ (Tryd.tf2 B7 _)) rfl ?_
            simp only [Act.put, List.setIfInBounds_toArray, List.set_cons_succ, List.set_cons_zero]
            refine ⟨fun _ => ⟨b7_2, bx_2, bx_0⟩, ?_⟩
            refine F_one 16 #[true, true, true, true, true, true, true, true, true, true, true, true, true, true, true, true, true] rfl (by kernel_rfl) ?_
            refine r_store_cell 35 37 _ _ B7 2 rfl (.slice p8 n8 q8) rfl _ b7 (by show 2 < 3; decide) Tryd.sizeOf35 rfl rfl ?_
            intro w9A u9 b9
            have b7p := b7
            have b7 : Blk w9A B7 (tg W g.h (.slice p8 n8 q8)) 37 := b9
            clear b9
            refine ⟨fun h => (by cases h), ?_⟩
            simp only [Act.put]
            refine F_done (by kernel_rfl) ?_
            have b2 := u9.blk b2 (by omega)
            have b5 := u9.blk b5 (by omega)
            have hown := u9.row hown (own_ne hown b7p (by decide))
            have hownk := u9.row hownk (own_ne hownk b7p (by decide))
            have own := u9.row own8 (own_ne own8 b7p (by decide))
            have gg := u9.gr gg loB7
            have z9 := u9.size
            go_wp2
            have gdr := (Gr.refl w9A).drew
            have b2 := gdr.blk b2
            have b5 := gdr.blk b5
            have b7 := gdr.blk b7
            have hown := gdr.row hown
            have hownk := gdr.row hownk
            have own := gdr.row own
            have gg := gg.trans gdr
            have zdr := gdr.size
            obtain ⟨p7, n7, q7, hsl⟩ := own_slice own
            first | subst hsl | (injection hsl with e1 e2 e3; have e1' := e1.symm; have e2' := e2.symm; have e3' := e3.symm; subst e1'; subst e2'; subst e3'; clear e1 e2 e3)
            obtain ⟨b7_0, b7_1, b7_2⟩ := tcells b7
            obtain ⟨bx_0, bx_1, bx_2⟩ := tcells b5
            refine F_begin (fun w => w.cell? ⟨B7, 2, none⟩ = some (.slice p7 n7 q7) ∧ w.cell? ⟨B5, 2, none⟩ = some (.slice (some ⟨G2, 0, none⟩) k.c.length cap2) ∧ w.cell? ⟨B5, 0, none⟩ = some (.int .i64 k.w)) 16 17 #[false, false, false, false, false, false, false, false, false, false, false, false, false, false, false, false, false] rfl (by kernel_rfl) (by kernel_rfl) ?_
            generalize w9A.drew = wdC at *
            have hFF := And.intro b7_2 (And.intro bx_2 bx_0)
            refine F_free (v := .pointer (some ⟨B7, 2, none⟩)) 0 #[true, false, false, false, false, false, false, false, false, false, false, false, false, false, false, false, false] rfl (by kernel_rfl) (fun _ _ _ h => h) rfl (fun _ => e_val _ _ (Tryd.tf2 B7 _)) (hFF) ?_; simp only [Act.put, List.setIfInBounds_toArray, List.set_cons_succ, List.set_cons_zero]
            refine F_take (v := .slice p7 n7 q7) 1 #[true, true, false, false, false, false, false, false, false, false, false, false, false, false, false, false, false] rfl (by kernel_rfl) (fun _ _ _ h => h) rfl (fun w hF => e_load 35 (.tmp 65) ⟨B7, 2, none⟩ (.slice p7 n7 q7) rfl (Tryd.isAgg35 _) hF.1) (hFF) ?_; simp only [Act.put, List.setIfInBounds_toArray, List.set_cons_succ, List.set_cons_zero]
            refine F_free (v := .pointer (some ⟨B5, 2, none⟩)) 2 #[true, true, true, false, false, false, false, false, false, false, false, false, false, false, false, false, false] rfl (by kernel_rfl) (fun _ _ _ h => h) rfl (fun _ => e_val _ _ (Tryd.tf2 B5 _)) (hFF) ?_; simp only [Act.put, List.setIfInBounds_toArray, List.set_cons_succ, List.set_cons_zero]
            refine F_take (v := .slice (some ⟨G2, 0, none⟩) k.c.length cap2) 3 #[true, true, true, true, false, false, false, false, false, false, false, false, false, false, false, false, false] rfl (by kernel_rfl) (fun _ _ _ h => h) rfl (fun w hF => e_load 35 (.tmp 67) ⟨B5, 2, none⟩ (.slice (some ⟨G2, 0, none⟩) k.c.length cap2) rfl (Tryd.isAgg35 _) hF.2.1) (hFF) ?_; simp only [Act.put, List.setIfInBounds_toArray, List.set_cons_succ, List.set_cons_zero]
            refine F_free (v := .int .i64 y) 4 #[true, true, true, true, true, false, false, false, false, false, false, false, false, false, false, false, false] rfl (by kernel_rfl) (fun _ _ _ h => h) rfl (fun _ => rfl) (hFF) ?_; simp only [Act.put, List.setIfInBounds_toArray, List.set_cons_succ, List.set_cons_zero]
            refine F_free (v := .pointer (some ⟨B5, 0, none⟩)) 5 #[true, true, true, true, true, true, false, false, false, false, false, false, false, false, false, false, false] rfl (by kernel_rfl) (fun _ _ _ h => h) rfl (fun _ => e_val _ _ (Tryd.tf0 B5 _)) (hFF) ?_; simp only [Act.put, List.setIfInBounds_toArray, List.set_cons_succ, List.set_cons_zero]
            refine F_take (v := .int .i64 k.w) 6 #[true, true, true, true, true, true, true, false, false, false, false, false, false, false, false, false, false] rfl (by kernel_rfl) (fun _ _ _ h => h) rfl (fun w hF => e_load 3 (.tmp 70) ⟨B5, 0, none⟩ (.int .i64 k.w) rfl (Tryd.isAgg3 _) hF.2.2) (hFF) ?_; simp only [Act.put, List.setIfInBounds_toArray, List.set_cons_succ, List.set_cons_zero]
            refine F_free (v := .int .i64 (nn k.w y : Nat)) 7 #[true, true, true, true, true, true, true, true, false, false, false, false, false, false, false, false, false] rfl (by kernel_rfl) (fun _ _ _ h => h) rfl (fun _ => e_mul _ _ (y : Int) (k.w : Int) ((nn k.w y : Nat) : Int) rfl rfl (mul_nnB _ _) (by omega)) (hFF) ?_; simp only [Act.put, List.setIfInBounds_toArray, List.set_cons_succ, List.set_cons_zero]
            refine F_free (v := .int .i64 y) 8 #[true, true, true, true, true, true, true, true, true, false, false, false, false, false, false, false, false] rfl (by kernel_rfl) (fun _ _ _ h => h) rfl (fun _ => rfl) (hFF) ?_; simp only [Act.put, List.setIfInBounds_toArray, List.set_cons_succ, List.set_cons_zero]
            refine F_free (v := .int .i64 ((y : Int) + 1)) 9 #[true, true, true, true, true, true, true, true, true, true, false, false, false, false, false, false, false] rfl (by kernel_rfl) (fun _ _ _ h => h) rfl (fun _ => e_add _ _ _ _ _ rfl rfl rfl (by omega)) (hFF) ?_; simp only [Act.put, List.setIfInBounds_toArray, List.set_cons_succ, List.set_cons_zero]
            refine F_free (v := .pointer (some ⟨B5, 0, none⟩)) 10 #[true, true, true, true, true, true, true, true, true, true, true, false, false, false, false, false, false] rfl (by kernel_rfl) (fun _ _ _ h => h) rfl (fun _ => e_val _ _ (Tryd.tf0 B5 _)) (hFF) ?_; simp only [Act.put, List.setIfInBounds_toArray, List.set_cons_succ, List.set_cons_zero]
            refine F_take (v := .int .i64 k.w) 11 #[true, true, true, true, true, true, true, true, true, true, true, true, false, false, false, false, false] rfl (by kernel_rfl) (fun _ _ _ h => h) rfl (fun w hF => e_load 3 (.tmp 75) ⟨B5, 0, none⟩ (.int .i64 k.w) rfl (Tryd.isAgg3 _) hF.2.2) (hFF) ?_; simp only [Act.put, List.setIfInBounds_toArray, List.set_cons_succ, List.set_cons_zero]
            refine F_free (v := .int .i64 (nn k.w (y + 1) : Nat)) 12 #[true, true, true, true, true, true, true, true, true, true, true, true, true, false, false, false, false] rfl (by kernel_rfl) (fun _ _ _ h => h) rfl (fun _ => e_mul _ _ ((y : Int) + 1) (k.w : Int) ((nn k.w (y + 1) : Nat) : Int) rfl rfl (mul_nnB1 _ _) (by omega)) (hFF) ?_; simp only [Act.put, List.setIfInBounds_toArray, List.set_cons_succ, List.set_cons_zero]
            refine F_free (v := .slice (some ⟨G2, nn k.w y, none⟩) k.w (cap2 - nn k.w y)) 13 #[true, true, true, true, true, true, true, true, true, true, true, true, true, true, false, false, false] rfl (by kernel_rfl) (fun _ _ _ h => h) rfl (fun _ => e_cutB _ _ _ _ _ _ _ rfl rfl rfl (Tryd.slw G2 k.c.length cap2 (nn k.w y) (nn k.w (y + 1)) k.w (by omega) (by omega) (by omega) _)) (hFF) ?_; simp only [Act.put, List.setIfInBounds_toArray, List.set_cons_succ, List.set_cons_zero]
            refine F_one 14 #[true, true, true, true, true, true, true, true, true, true, true, true, true, true, true, false, false] rfl (by kernel_rfl) ?_
            refine r_append (.tmp 66) (.tmp 78) 35 5 _ 1 1 baseO Tryd.bytesI (.slice p7 n7 q7) (bsL g k y ++ rowL g.w g.c y).length (cellsV (bsL g k y ++ rowL g.w g.c y)) rfl own ⟨G2, nn k.w y, none⟩ k.w (cap2 - nn k.w y) (cellsV (rowL k.w k.c y)) rfl (by simp [cellsV, rowL_length]) (row_news hownk (by omega)) (cellsV_one _) (by omega) (by decide) (by omega) rfl ?_
            intro s8 w8C own8 g8
            simp only [Act.put, List.setIfInBounds_toArray, List.set_cons_succ, List.set_cons_zero]
            have e8 : (bsL g k y ++ rowL g.w g.c y).length + k.w = (bsL g k y ++ rowL g.w g.c y ++ rowL k.w k.c y).length := by simp only [List.length_append, rowL_length]
            rw [cellsV_append, e8] at own8
            have b2 := g8.blk b2 (own_below own tB2)
            have b5 := g8.blk b5 (own_below own tB5)
            have b7 := g8.blk b7 (own_below own tB7)
            have hown := g8.row hown (own_apartO hown own tG)
            have hownk := g8.row hownk (own_apartO hownk own tG2)
            have gg := g8.gr gg (own_gr own hbO)
            have z8 := g8.size
            obtain ⟨p8, n8, q8, rfl⟩ := own_slice own8
            obtain ⟨b7_0, b7_1, b7_2⟩ := tcells b7
            obtain ⟨bx_0, bx_1, bx_2⟩ := tcells b5
            refine ⟨fun _ => ⟨?_, bx_2, bx_0⟩, ?_⟩
            · exact b7_2
            refine F_one 15 #[true, true, true, true, true, true, true, true, true, true, true, true, true, true, true, true, false] rfl (by kernel_rfl) ?_
            refine r_val (.pointer (some ⟨B7, 2, none⟩)) (e_val _ _ (Tryd.tf2 B7 _)) rfl ?_
            simp only [Act.put, List.setIfInBounds_toArray, List.set_cons_succ, List.set_cons_zero]
            refine ⟨fun _ => ⟨b7_2, bx_2, bx_0⟩, ?_⟩
            refine F_one 16 #[true, true, true, true, true, true, true, true, true, true, true, true, true, true, true, true, true] rfl (by kernel_rfl) ?_
            refine r_store_cell 35 37 _ _ B7 2 rfl (.slice p8 n8 q8) rfl _ b7 (by show 2 < 3; decide) Tryd.sizeOf35 rfl rfl ?_
            intro w9C u9 b9
            have b7p := b7
            have b7 : Blk w9C B7 (tg W g.h (.slice p8 n8 q8)) 37 := b9
            clear b9
            refine ⟨fun h => (by cases h), ?_⟩
            simp only [Act.put]
            refine F_done (by kernel_rfl) ?_
            have b2 := u9.blk b2 (by omega)
            have b5 := u9.blk b5 (by omega)
            have hown := u9.row hown (own_ne hown b7p (by decide))
            have hownk := u9.row hownk (own_ne hownk b7p (by decide))
            have own := u9.row own8 (own_ne own8 b7p (by decide))
            have gg := u9.gr gg loB7
            have z9 := u9.size
            rw [← bsL_succ] at own
            go_wp2
            go_roundw
            case rel => exact ⟨y + 1, _, by omega, by go_num, b2, b5, b7, hown, hownk, own, gg, by omega⟩
            case measure => simp [intOf]; omega
          · obtain rfl : y = g.h := by omega
            clear hlt
            have hbl := HBL.out g.h
            have h196 := nn_le (x := W) (y := g.h) (a := 14) (b := 7) hW14 gh7
            go_wp2_with (refine r_load_row 37 _ _ rfl _ _ _ b7 Tryd.underlying37 rfl Tryd.tinfo rfl ?_)
            refine (tyIf_any W g.h baseO (bsL g k g.h).length (bsL g k g.h) sl7 _ hW1 gh1 hW14 (by omega) (by omega) hbl rfl own).mono ?_
            rintro e w9 ⟨rfl, g9⟩
            have gg := gg.trans g9
            go_wp2
            go_ret2
            exact ⟨fin_sb HV.out.1.symm HV.out.2.symm, gg⟩
      · have HV := hidI (be_no (l := s.data.toList) (m := t.data.toList) (by unfold beC; rw [hk1.1, hk2.1, hk1.2, hk2.2, decide_eq_false hh]; rfl))
        have hne : ((g.h : Int) != (k.h : Int)) = true := by rw [bne_iff_ne]; omega
        clear hp hq hk1 hk2 t1 t2 hh
        go_wp2_with (first | (refine r_alloc 37 _ Tryd.tzero rfl ?_; intro w5 B5 N5; have g5 := N5.gr; have b5 : Blk w5 B5 (tg 0 0 (.slice none 0 0)) 37 := N5.blk; have l5 := N5.lo; have t5 := N5.hi; have z5 := g5.size; have b2 := g5.blk b2; obtain ⟨b2_0, b2_1, b2_2⟩ := tcells b2; have gg := gg.trans g5; clear N5; obtain ⟨b5_0, b5_1, b5_2⟩ := tcells b5) | (refine r_store_row 37 37 _ _ _ rfl (tg _ _ _) _ rfl b5 Tryd.tsize rfl (tg_one honek) rfl ?_; intro w6 u6 b5'; have z6 := u6.size; have gg := u6.gr gg (by omega); have b2 := u6.blk b2 (by omega); obtain ⟨b2_0, b2_1, b2_2⟩ := tcells b2; clear b5; have b5 := b5'; clear b5'; obtain ⟨b5_0, b5_1, b5_2⟩ := tcells b5))
        go_ret2
        exact ⟨fin_sb HV.out.1.symm HV.out.2.symm, gg⟩
set_option maxHeartbeats 1000000 in
theorem lawBesideTrays (s t : ByteArray) (w : World) (hm : ML w) : Calls Tryd.prog 3 #[.string s, .string t] w (Ret (.bool true) w) := by
  have gg := Gr.refl w
  by_cases hs : 1048576 < s.size
  · go_enter Tryd.func3, Tryd.ntmps3
    go_wp2
    go_ret
    exact ⟨rfl, gg⟩
  · have hs' : s.size ≤ 1048576 := by omega
    clear hs
    by_cases hc : 1048576 < t.size
    · go_enter Tryd.func3, Tryd.ntmps3
      go_wp2
      go_ret
      exact ⟨rfl, gg⟩
    · have hc' : t.size ≤ 1048576 := by omega
      clear hc
      go_enter Tryd.func3, Tryd.ntmps3
      go_wp2_with (first | (go_at_call 8; refine (sBesideTrays s t _ hs' hc').mono ?_; rintro e w1 ⟨rfl, g1⟩; have z1 := g1.size; have gg := gg.trans g1) | (go_at_call 9; refine (iBesideTrays s t _ (gg.ml hm) hs' hc').mono ?_; rintro e w2 ⟨rfl, g2⟩; have z2 := g2.size; have gg := gg.trans g2))
      go_ret
      exact ⟨rfl, gg⟩
end Go.Proofs.YtppjlcmfmbpkjabDoor
