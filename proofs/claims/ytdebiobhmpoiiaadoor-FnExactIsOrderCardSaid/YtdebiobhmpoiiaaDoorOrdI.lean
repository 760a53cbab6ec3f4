/-
  Orders in the program: a form to be built, which balls can come next, the ways of a list.
-/
import Derived.Test.YtdebiobhmpoiiaaDoorOrdP
import Derived.Test.YtdebiobhmpoiiaaDoorDelI
import Derived.Test.YtdebiobhmpoiiaaDoorFormW
import Derived.Test.YtdebiobhmpoiiaaDoorFormI
import Derived.Test.YtdebiobhmpoiiaaDoorPeriI
import Derived.Test.YtdebiobhmpoiiaaDoorWayZ
namespace Go.Proofs.YtdebiobhmpoiiaaDoor
open Go.RowKit
/-- A form to be built, as a value: its grid, and the map of numbers that are counted. -/
def bdl (g : Grid) (m : Value) : List Value := (gvG g).toList ++ [m]
def bdv (g : Grid) (m : Value) : Array Value := (bdl g m).toArray
theorem gvlO (g : Grid) : (gvG g).toList.length = 38 := by rw [Array.length_toList]; exact gv_size _ _ _
theorem bdl_length (g : Grid) (m : Value) : (bdl g m).length = 39 := by unfold bdl; rw [List.length_append, gvlO]; rfl
theorem bdv_size (g : Grid) (m : Value) : (bdv g m).size = 39 := by unfold bdv; rw [List.size_toArray, bdl_length]
theorem bdv_one (g : Grid) {m : Value} (hm : m.oneCell' = true) : ∀ v ∈ (bdv g m).toList, v.oneCell' = true := by
  intro u hu
  unfold bdv bdl at hu
  rcases List.mem_append.1 hu with h | h
  · exact gv_one _ _ _ u h
  · simp only [List.mem_cons, List.not_mem_nil, or_false] at h
    subst h
    exact hm
theorem bdv_hd (g : Grid) (m : Value) (i : Nat) (hi : i < 38) : (bdv g m)[i]? = (gvG g)[i]? := by
  unfold bdv bdl
  rw [List.getElem?_toArray, List.getElem?_append_left (by rw [gvlO]; exact hi), Array.getElem?_toList]
theorem bdv_grid {w : World} {B : Nat} {g : Grid} {m : Value} {T : TypeId} (h : Blk w B (bdv g m) T) : w.rangeAt B 0 (gvG g).toList := fun j u hj => by
  have h38 : j < 38 := by
    rcases Nat.lt_or_ge j 38 with h | h
    · exact h
    · rw [List.getElem?_eq_none (by rw [gvlO]; exact h)] at hj; cases hj
  rw [Nat.zero_add, h.cell j, bdv_hd g m j h38, ← Array.getElem?_toList]
  exact hj
theorem bdv_wh {w : World} {B : Nat} {g : Grid} {m : Value} {T : TypeId} (h : Blk w B (bdv g m) T) : w.cell? ⟨B, 0, none⟩ = some (.int .i64 g.w) ∧ w.cell? ⟨B, 1, none⟩ = some (.int .i64 g.h) :=
  ⟨(h.cell 0).trans (bdv_hd g m 0 (by decide)), (h.cell 1).trans (bdv_hd g m 1 (by decide))⟩
/-- The balls that can come next. -/
def nxL (g : Grid) (c : List UInt8) : List Int := if c = genC (nn g.w g.h) (fun _ => 46) then blO g else (blO g).filter fun x => !!canB g.w g.h c x.toNat
theorem nx_or {g : Grid} {L : List Int} {k : Nat} (h : OrI g L k) : (nxL g (orC (nn g.w g.h) L k)).contains (gi L k) = orB g.w g.h (blO g) L k := by
  have hs := h.start
  unfold nxL orB
  by_cases h0 : k = 0
  · rw [if_pos (hs.2 h0), decide_eq_true h0, Bool.true_or, Bool.and_true]
  · rw [if_neg (fun e => h0 (hs.1 e)), decide_eq_false h0, Bool.false_or, Bool.eq_iff_iff, List.contains_iff_mem, List.mem_filter, Bool.and_eq_true, List.contains_iff_mem, Bool.not_not]
theorem nxL_le (g : Grid) (c : List UInt8) (h : nn g.w g.h ≤ 36) : (nxL g c).length ≤ 36 := by
  have h1 : (blO g).length ≤ nn g.w g.h := ballsTo_le _ _ _
  unfold nxL
  split
  · omega
  · exact Nat.le_trans (List.length_filter_le _ _) (by omega)
theorem bl_ball {g : Grid} (F : FormG g) : ballsTo ballB g.c (nn g.w g.h) = blO g := ballsTo_congr _ fun i hi => by
  rcases fo_two (F.all i (by rw [F.t.len]; exact hi)) with e | e <;> rw [e] <;> rfl
theorem Tryd.bdzero (w : World) : (zeroValue 82).run Tryd.prog w = .ok (.agg (bdv ⟨0, 0, []⟩ (.map none))) w := by kernel_rfl
theorem Tryd.bdsize0 (w : World) : (sizeOf 82).run Tryd.prog w = .ok 39 w := by kernel_rfl
theorem Tryd.bdinfo0 : (Tryd.prog.info? 82).map (·.size) = some 39 := by kernel_rfl
theorem Tryd.bdsize (g : Grid) (m : Value) (w : World) : (sizeOf 82).run Tryd.prog w = .ok (bdv g m).size w := by rw [bdv_size]; exact Tryd.bdsize0 w
theorem Tryd.bdinfo (g : Grid) (m : Value) : (Tryd.prog.info? 82).map (·.size) = some (bdv g m).size := by rw [bdv_size]; exact Tryd.bdinfo0
theorem Tryd.bdbuild (g : Grid) (B : Nat) (w : World) : (Instr.build 82 #[(0, .agg (gvG g)), (1, .map (some B))]).run Tryd.prog w = .ok (.agg (bdv g (.map (some B)))) w := by kernel_rfl
theorem Tryd.bdf0 (B : Nat) (w : World) : (Instr.fieldAt 82 (.pointer (some ⟨B, 0, none⟩)) 0).run Tryd.prog w = .ok (.pointer (some ⟨B, 0, none⟩)) w := by kernel_rfl
set_option maxHeartbeats 1000000 in
set_option maxRecDepth 100000 in
theorem start_any (g : Grid) (m : Value) (w : World) (w7 : g.w ≤ 7) (h7 : g.h ≤ 7) (n36 : nn g.w g.h ≤ 36) : Calls Tryd.prog 80 #[.agg (bdv g m)] w (Ret (.agg (gv g.w g.h (genC (nn g.w g.h) fun _ => 46))) w) := by
  have gg := Gr.refl w
  have HFG := hidI (fun w' => show Calls Tryd.prog 114 #[.int .i64 g.w, .int .i64 g.h, .int .u8 46] w' (Ret (.agg (gv g.w g.h (genC (nn g.w g.h) fun _ => 46))) w') from filledGrid_any g.w g.h 46 w' w7 h7 n36)
  obtain ⟨c, hc⟩ : ∃ c, c = genC (nn g.w g.h) (fun _ => (46 : UInt8)) := ⟨_, rfl⟩
  rw [← hc] at HFG ⊢
  clear hc
  go_enter Tryd.func80, Tryd.ntmps80
  go_wp2_with (first | (refine r_box (dst := some 1) 82 _ (bdv g m) rfl rfl ?_; intro w1 B1 N1; have g1 := N1.gr; have b1 : Blk w1 B1 (bdv g m) 82 := N1.blk; have l1 := N1.lo; have t1 := N1.hi; have z1 := g1.size; have gg := gg.trans g1; clear N1) | ((refine r_alloc (dst := some 2) 72 _ Tryd.gzero rfl ?_; intro w2 B2 N2; have g2 := N2.gr; have b2 : Blk w2 B2 (gv 0 0 []) 72 := N2.blk; have l2 := N2.lo; have t2 := N2.hi; have z2 := g2.size; have b1 := g2.blk b1; have gg := gg.trans g2; clear N2; obtain ⟨b2_0, b2_1, b2_2⟩ := gcells b2); obtain ⟨c0, c1⟩ := bdv_wh b1) | (refine r_fld 82 _ 0 (.pointer (some ⟨B1, 0, none⟩)) (.pointer (some ⟨B1, 0, none⟩)) rfl (Tryd.bdf0 _ _) rfl ?_) | (go_at_call 114; refine (HFG.out _).mono ?_; rintro e w3 ⟨rfl, g3⟩; have z3 := g3.size; have b2 := g3.blk b2; have gg := gg.trans g3) | (refine r_store_row 72 72 _ _ _ rfl (gv g.w g.h c) _ rfl b2 (Tryd.gsize' _ _ _) (by simp only [gv_size]) (gv_one _ _ _) rfl ?_; intro w4 u4 b2'; have z4 := u4.size; have gg := u4.gr gg (by omega); clear b2; have b2 := b2'; clear b2'; obtain ⟨b2_0, b2_1, b2_2⟩ := gcells b2))
  refine bodyPost_ret (results_row rfl _ _ _ _ _ _ rfl b2 Tryd.underlying72 rfl (Tryd.ginfo' _ _ _)) rfl ⟨?_, gg⟩
  rfl
set_option maxHeartbeats 1000000 in
set_option maxRecDepth 100000 in
theorem newBuilding_any (g : Grid) (w : World) : Calls Tryd.prog 78 #[.agg (gvG g)] w fun e w' => Gr w w' ∧ ∃ B, e = .returned (.agg (bdv g (.map (some B)))) := by
  have gg := Gr.refl w
  go_enter Tryd.func78, Tryd.ntmps78
  go_wp2_with (first | (refine r_box (dst := some 1) 72 _ (gv g.w g.h g.c) rfl rfl ?_; intro w1 B1 N1; have g1 := N1.gr; have b1 : Blk w1 B1 (gv g.w g.h g.c) 72 := N1.blk; have l1 := N1.lo; have t1 := N1.hi; have z1 := g1.size; have gg := gg.trans g1; clear N1; obtain ⟨b1_0, b1_1, b1_2⟩ := gcells b1) | (refine r_alloc (dst := some 2) 82 _ Tryd.bdzero rfl ?_; intro w2 B2 N2; have g2 := N2.gr; have b2 : Blk w2 B2 (bdv ⟨0, 0, []⟩ (.map none)) 82 := N2.blk; have l2 := N2.lo; have t2 := N2.hi; have z2 := g2.size; have b1 := g2.blk b1; have gg := gg.trans g2; clear N2) | (refine r_load_row 72 _ _ rfl _ _ _ b1 Tryd.underlying72 rfl (Tryd.ginfo' _ _ _) rfl ?_) | (refine r_mkmap 80 rfl ?_; intro w3 B3 hw3 hB3; have g3 : Gr w2 w3 := (by rw [hw3]; exact (Gr.refl _).alloc _); clear hw3 hB3; have b2 := g3.blk b2; have gg := gg.trans g3; have z3 := g3.size) | (refine r_build 82 [(0, .tmp 3), (1, .tmp 4)] [(0, .agg (gvG g)), (1, .map (some B3))] _ (Tryd.bdbuild g _ _) rfl rfl ?_) | (refine r_store_row 82 82 _ _ B2 rfl (bdv g (.map (some B3))) _ rfl b2 (Tryd.bdsize _ _) (by simp only [bdv_size]) (bdv_one _ rfl) rfl ?_; intro w4 u4 b24; have gg := u4.gr gg (by omega)))
  refine bodyPost_ret (results_row rfl _ _ _ _ _ _ rfl b24 Tryd.underlying82 rfl (Tryd.bdinfo _ _)) rfl ?_
  exact ⟨gg, _, rfl⟩
set_option maxHeartbeats 1000000 in
set_option maxRecDepth 100000 in
theorem readBuilding_any (s : ByteArray) (w : World) (hm : ML w) (hs : s.size ≤ 1048576) : Calls Tryd.prog 43 #[.string s] w fun e w' => Gr w w' ∧ ∃ B, e = .returned (.tuple #[.agg (bdv (fmG s.data.toList) (.map (some B))), .bool (fmOk s.data.toList)]) := by
  have gg := Gr.refl w
  have HRF := hidI (fun w (hm : ML w) => readForm_any s w hm hs)
  obtain ⟨g, hg⟩ : ∃ g, g = fmG s.data.toList := ⟨_, rfl⟩
  obtain ⟨ok, hok⟩ : ∃ ok, ok = fmOk s.data.toList := ⟨_, rfl⟩
  rw [← hg, ← hok] at HRF ⊢
  clear hg hok
  go_enter Tryd.func43, Tryd.ntmps43
  go_wp2_with (first | (refine r_alloc (dst := some 2) 82 _ Tryd.bdzero rfl ?_; intro w2 B2 N2; have g2 := N2.gr; have b2 : Blk w2 B2 (bdv ⟨0, 0, []⟩ (.map none)) 82 := N2.blk; have l2 := N2.lo; have t2 := N2.hi; have z2 := g2.size; have gg := gg.trans g2; clear N2) | (go_at_call 77; refine (HRF.out _ (gg.ml hm)).mono ?_; rintro e w3 ⟨rfl, g3⟩; have z3 := g3.size; have b2 := g3.blk b2; have gg := gg.trans g3) | (refine r_alloc (dst := some 4) 72 _ Tryd.gzero rfl ?_; intro w4 B4 N4; have g4 := N4.gr; have b4 : Blk w4 B4 (gv 0 0 []) 72 := N4.blk; have l4 := N4.lo; have t4 := N4.hi; have z4 := g4.size; have b2 := g4.blk b2; have gg := gg.trans g4; clear N4; obtain ⟨b4_0, b4_1, b4_2⟩ := gcells b4) | (refine r_store_row 72 72 _ _ _ rfl (gv g.w g.h g.c) _ rfl b4 (Tryd.gsize' _ _ _) (by simp only [gv_size]) (gv_one _ _ _) rfl ?_; intro w5 u5 b4'; have z5 := u5.size; have gg := u5.gr gg (by omega); have b2 := u5.blk b2 (by omega); clear b4; have b4 := b4'; clear b4'; obtain ⟨b4_0, b4_1, b4_2⟩ := gcells b4) | (refine r_load_row 72 _ _ rfl _ _ _ b4 Tryd.underlying72 rfl (Tryd.ginfo' _ _ _) rfl ?_) | (go_at_call 78; refine (newBuilding_any g _).mono ?_; rintro e w6 ⟨g6, B6, rfl⟩; have b2 := g6.blk b2; have gg := gg.trans g6; have z6 := g6.size) | (refine r_store_row 82 82 _ _ B2 rfl (bdv g (.map (some B6))) _ rfl b2 (Tryd.bdsize _ _) (by simp only [bdv_size]) (bdv_one _ rfl) rfl ?_; intro w7 u7 b27; have gg := u7.gr gg (by omega)))
  refine bodyPost_ret (results_row_bool rfl _ _ _ _ _ _ rfl b27 Tryd.underlying82 rfl (Tryd.bdinfo _ _)) rfl ?_
  exact ⟨gg, _, rfl⟩
set_option maxHeartbeats 1000000 in
set_option maxRecDepth 100000 in
theorem nextStays (W H i B : Nat) (c : List UInt8) (w : World) (hw1 : 1 ≤ W) (hw7 : W ≤ 7) (hh7 : H ≤ 7) (hi : i < nn W H) (h36 : nn W H ≤ 36) (hl : c.length = nn W H) (hc : ∀ j, j < c.length → isCellB (at0 c j) = true) (hb : Blk w B (gv W H c) 72) :
    Calls Tryd.prog 118 #[.int .i64 i, .pointer (some ⟨B, 0, none⟩)] w (Ret (.bool (!canB W H c i)) w) := by
  have gg := Gr.refl w
  have HCB := hidI (fun w' => canBeAdded_any W H i c w' hw1 hw7 hh7 hi h36 hl hc)
  obtain ⟨v, hv⟩ : ∃ v, v = canB W H c i := ⟨_, rfl⟩
  rw [← hv] at HCB ⊢
  clear hv hl hc
  go_enter Tryd.func118, Tryd.ntmps118
  go_wp2_with (first | (refine r_load_row 72 _ _ rfl _ _ _ hb Tryd.underlying72 rfl (Tryd.ginfo' _ _ _) rfl ?_) | (go_at_call 119; refine (HCB.out _).mono ?_; rintro e w2 ⟨rfl, g2⟩; have z2 := g2.size; have gg := gg.trans g2))
  go_ret
  exact ⟨rfl, gg⟩
set_option maxHeartbeats 2000000 in
set_option maxRecDepth 100000 in
theorem nextOf_any (g : Grid) (m : Value) (c : List UInt8) (w : World) (F : FormG g) (hl : c.length = nn g.w g.h) (hc : ∀ j, j < nn g.w g.h → foB (at0 c j) = true) :
    Calls Tryd.prog 82 #[.agg (bdv g m), .agg (gv g.w g.h c)] w fun e w' => Gr w w' ∧ ∃ v, e = .returned v ∧ w'.ownsRow w.heap.size 3 1 v (nxL g c).length (intsV (nxL g c)) := by
  have gg := Gr.refl w
  have hw1 := F.t.w1
  have hw7 := F.t.w7
  have hh7 := F.t.h7
  have h36 := F.t.n36
  have hcell : ∀ j, j < c.length → isCellB (at0 c j) = true := fun j hj => by
    rcases fo_two (hc j (by rw [← hl]; exact hj)) with e | e <;> rw [e] <;> rfl
  have HBI := hidI (fun w' => show Calls Tryd.prog 116 #[.agg (gvG g)] w' (fun e w'' => Gr w' w'' ∧ ∃ v, e = .returned v ∧ w''.ownsRow w'.heap.size 3 1 v (blO g).length (intsV (blO g))) from bl_ball F ▸ ballsIn_any g.w g.h g.c w' hw7 hh7 h36)
  have HSA := hidI (fun w' => start_any g m w' hw7 hh7 h36)
  have hsame : sameB ⟨g.w, g.h, c⟩ ⟨g.w, g.h, genC (nn g.w g.h) fun _ => 46⟩ = decide (c = genC (nn g.w g.h) fun _ => 46) := by
    unfold sameB
    rw [show (g.w == g.w) = true from beq_self_eq_true _, show (g.h == g.h) = true from beq_self_eq_true _, Bool.true_and, Bool.true_and, Bool.eq_iff_iff, List.all_eq_true, decide_eq_true_eq]
    constructor
    · intro h
      refine at0_list (by rw [hl, genC_length]) fun j hj => ?_
      have hj' : j < nn g.w g.h := hl ▸ hj
      have h2 := h j (List.mem_range.2 (by omega))
      have h3 : ((at0 c j).toNat : Int) = ((at0 (genC (nn g.w g.h) fun _ => 46) j).toNat : Int) := beq_iff_eq.1 h2
      exact UInt8.toNat_inj.1 (by omega)
    · intro h j _
      show (((at0 c j).toNat : Int) == ((at0 (genC (nn g.w g.h) fun _ => 46) j).toNat : Int)) = true
      rw [← h, beq_self_eq_true]
  have HPR := hidI (fun (w0 : World) (B : Nat) (hb : Blk w0 B (gv g.w g.h c) 72) (l : Int) (hlm : l ∈ blO g) (w' : World) (h : Gr w0 w') => show Calls Tryd.prog 118 #[.int .i64 l, .pointer (some ⟨B, 0, none⟩)] w' (Ret (.bool (!canB g.w g.h c l.toNat)) w') from by
    obtain ⟨i, hi, rfl, -⟩ := mem_ballsO.1 hlm
    exact nextStays g.w g.h i B c w' hw1 hw7 hh7 hi h36 hl hcell (h.blk hb))
  have hbl : (blO g).length ≤ 1000 := by have : (blO g).length ≤ nn g.w g.h := ballsTo_le _ _ _; omega
  obtain ⟨c0, hc0⟩ : ∃ c0, c0 = genC (nn g.w g.h) (fun _ => (46 : UInt8)) := ⟨_, rfl⟩
  rw [← hc0] at HSA hsame
  have HNX := hidI (show nxL g c = if c = c0 then blO g else (blO g).filter fun x => !!canB g.w g.h c x.toNat from by rw [hc0]; rfl)
  have HSM := hidI hsame
  have HBL := hidI hbl
  clear hl hc hcell hc0 hsame hbl hw1 hw7 hh7 h36 F
  go_enter Tryd.func82, Tryd.ntmps82
  go_wp2_with (first | (refine r_box (dst := some 2) 82 _ (bdv g m) rfl rfl ?_; intro w1 B1 N1; have g1 := N1.gr; have b1 : Blk w1 B1 (bdv g m) 82 := N1.blk; have l1 := N1.lo; have t1 := N1.hi; have z1 := g1.size; have gg := gg.trans g1; clear N1) | (refine r_box (dst := some 3) 72 _ (gv g.w g.h c) rfl rfl ?_; intro w2 B2 N2; have g2 := N2.gr; have b2 : Blk w2 B2 (gv g.w g.h c) 72 := N2.blk; have l2 := N2.lo; have t2 := N2.hi; have z2 := g2.size; have b1 := g2.blk b1; have gg := gg.trans g2; clear N2; obtain ⟨b2_0, b2_1, b2_2⟩ := gcells b2) | (refine r_fld 82 _ 0 (.pointer (some ⟨B1, 0, none⟩)) (.pointer (some ⟨B1, 0, none⟩)) rfl (Tryd.bdf0 _ _) rfl ?_) | (refine r_ldm 72 _ B1 0 (gvG g) _ rfl (bdv_grid b1) Tryd.underlying72 rfl (Tryd.ginfo' _ _ _) rfl ?_) | (have zp := gg.size; have gg0 := gg; have b20 := b2; go_at_call 116; refine (HBI.out _).mono ?_; rintro e w3 ⟨g3, v, rfl, own⟩; have own2 := own; have b1 := g3.blk b1; have b2 := g3.blk b2; have gg := gg.trans g3; have z3 := gg.size; have own := own_up own zp))
  have HSM2 := HSM.out
  by_cases hcc : c = c0
  · have HNX2 := hidI (show nxL g c = blO g from by rw [HNX.out, if_pos hcc])
    rw [decide_eq_true hcc] at HSM2
    have HSM := hidI HSM2
    clear hcc HSM2
    obtain ⟨p, q, rfl⟩ := own_slO own
    refine q_whole (by kernel_rfl) (by kernel_rfl) ?_
    refine q_take (.agg (gv g.w g.h c)) rfl (fun w' hw' => e_load_row 72 (.tmp 3) B2 _ _ _ rfl (hw'.blk b2) Tryd.underlying72 rfl (Tryd.ginfo' _ _ _)) ?_
    simp only [Act.put, List.setIfInBounds_toArray, List.set_cons_succ, List.set_cons_zero]
    refine q_take (.agg (bdv g m)) rfl (fun w' hw' => e_load_row 82 (.tmp 2) B1 _ _ _ rfl (hw'.blk b1) Tryd.underlying82 rfl (Tryd.bdinfo _ _)) ?_
    simp only [Act.put, List.setIfInBounds_toArray, List.set_cons_succ, List.set_cons_zero]
    refine q_call 80 [.tmp 10] _ [.agg (bdv g m)] (.agg (gv g.w g.h c0)) Tryd.call80 rfl rfl (fun w' hw' => ((HSA.out w').mono fun e w'' h => ⟨h.1, hw'.trans h.2⟩)) ?_; simp only [Act.put, List.setIfInBounds_toArray, List.set_cons_succ, List.set_cons_zero]
    refine q_take (.bool true) rfl (fun w' hw' => HSM.out ▸ e_eqlG _ _ ⟨g.w, g.h, c⟩ ⟨g.w, g.h, c0⟩ rfl rfl) ?_
    simp only [Act.put, List.setIfInBounds_toArray, List.set_cons_succ, List.set_cons_zero]
    refine wpQuiet_nil ?_
    intro w5 g5
    have gg := gg.trans g5
    have own := g5.row own
    go_wp2
    go_ret
    exact ⟨gg, _, rfl, by rw [HNX2.out]; exact own⟩
  · have HNX2 := hidI (show nxL g c = (blO g).filter fun x => !!canB g.w g.h c x.toNat from by rw [HNX.out, if_neg hcc])
    rw [decide_eq_false hcc] at HSM2
    have HSM := hidI HSM2
    clear hcc HSM2
    obtain ⟨p, q, rfl⟩ := own_slO own
    refine q_whole (by kernel_rfl) (by kernel_rfl) ?_
    refine q_take (.agg (gv g.w g.h c)) rfl (fun w' hw' => e_load_row 72 (.tmp 3) B2 _ _ _ rfl (hw'.blk b2) Tryd.underlying72 rfl (Tryd.ginfo' _ _ _)) ?_
    simp only [Act.put, List.setIfInBounds_toArray, List.set_cons_succ, List.set_cons_zero]
    refine q_take (.agg (bdv g m)) rfl (fun w' hw' => e_load_row 82 (.tmp 2) B1 _ _ _ rfl (hw'.blk b1) Tryd.underlying82 rfl (Tryd.bdinfo _ _)) ?_
    simp only [Act.put, List.setIfInBounds_toArray, List.set_cons_succ, List.set_cons_zero]
    refine q_call 80 [.tmp 10] _ [.agg (bdv g m)] (.agg (gv g.w g.h c0)) Tryd.call80 rfl rfl (fun w' hw' => ((HSA.out w').mono fun e w'' h => ⟨h.1, hw'.trans h.2⟩)) ?_; simp only [Act.put, List.setIfInBounds_toArray, List.set_cons_succ, List.set_cons_zero]
    refine q_take (.bool false) rfl (fun w' hw' => HSM.out ▸ e_eqlG _ _ ⟨g.w, g.h, c⟩ ⟨g.w, g.h, c0⟩ rfl rfl) ?_
    simp only [Act.put, List.setIfInBounds_toArray, List.set_cons_succ, List.set_cons_zero]
    refine wpQuiet_nil ?_
    intro w5 g5
    have gg := gg.trans g5
    have own2 := g5.row own2
    have HDF := hidI (deleteO_any (fun x => !canB g.w g.h c x.toNat) (blO g) B2 (.slice p (blO g).length q) w2 w5 HBL.out own2 (g3.trans g5) (HPR.out w2 B2 b20))
    go_wp2_with (go_at_call 117; refine HDF.out.mono ?_; rintro e w6 ⟨g6, v6, rfl, own6⟩)
    go_ret
    exact ⟨gg0.trans g6, _, rfl, by rw [HNX2.out]; exact own_up own6 zp⟩
theorem e_neqG {w : World} {a : Act} {dst : Option Tmp} {ty yt : TypeId} {pos : String} {aft : Array Edge} {gd : Option (Nat × Bool)} (x y : Operand) (g k : Grid) (hx : a.eval x = .agg (gvG g)) (hy : a.eval y = .agg (gvG k)) :
    (execOp a.eval ⟨dst, .binOp .neq 72 x y yt, ty, pos, aft, gd⟩).run Tryd.prog w = .ok (.value (.bool (!sameB g k))) w := by
  unfold execOp
  simp only [hx, hy, Sem.run_bind, run_eqGuard_agg (w := w) .neq 72 x y (gvG g) (gvG k) Tryd.gNoGuard, Result.andThen_ok, run_neq_struct, Tryd.eqG, Sem.run_pure]
def RetOd (ok : Bool) (s : ByteArray) (w : World) (e : Ending) (w' : World) : Prop := e = .returned (.tuple #[.string (if ok then s else ByteArray.empty), .bool ok]) ∧ Gr w w'
theorem fin_odN {ok : Bool} {s : ByteArray} (h : ok = false) : Ending.returned (.tuple #[.string ⟨#[]⟩, .bool false]) = .returned (.tuple #[.string (if ok then s else ByteArray.empty), .bool ok]) := by subst h; rfl
theorem fin_odY {ok : Bool} {s t : ByteArray} (h : ok = true) (hs : t = s) : Ending.returned (.tuple #[.string t, .bool true]) = .returned (.tuple #[.string (if ok then s else ByteArray.empty), .bool ok]) := by subst h; subst hs; rfl
theorem same_whole {g : Grid} {c : List UInt8} (F : FormG g) (hl : c.length = nn g.w g.h) : sameB ⟨g.w, g.h, c⟩ g = decide (c = g.c) := by
  have h36 := F.t.n36
  unfold sameB
  rw [show (g.w == g.w) = true from beq_self_eq_true _, show (g.h == g.h) = true from beq_self_eq_true _, Bool.true_and, Bool.true_and, Bool.eq_iff_iff, List.all_eq_true, decide_eq_true_eq]
  constructor
  · intro h
    refine at0_list (by rw [hl, F.t.len]) fun j hj => ?_
    have hj' : j < nn g.w g.h := hl ▸ hj
    have h2 := h j (List.mem_range.2 (by omega))
    have h3 : ((at0 c j).toNat : Int) = ((at0 g.c j).toNat : Int) := beq_iff_eq.1 h2
    exact UInt8.toNat_inj.1 (by omega)
  · intro h j _
    show (((at0 c j).toNat : Int) == ((at0 g.c j).toNat : Int)) = true
    rw [← h, beq_self_eq_true]
theorem mkS_idx0 {P : Program} {t : TypeId} (ht : P.underlying t = some (.string)) (l : List UInt8) (h : l ≠ []) (w : World) : (Instr.index t (.string (mkS l)) (.int .i64 0)).run P w = .ok (.int .u8 (l.headD 0).toNat) w := by
  cases l with
  | nil => exact absurd rfl h
  | cons b r =>
    have := run_index_string (P := P) w t (mkS (b :: r)) .i64 0 ht
    rw [this, dif_pos ⟨Int.le_refl _, by show (0 : Int) < (((b :: r).toArray.size : Nat) : Int); simp⟩]
    rfl
set_option maxHeartbeats 4000000 in
set_option maxRecDepth 100000 in
theorem waysOf_any (g : Grid) (m : Value) (L : List Int) (sl : Value) (bL : Nat) (w : World) (F : FormG g) (hL : L.length ≤ 1048576) (hown : w.ownsRow bL 3 1 sl L.length (intsV L)) :
    Calls Tryd.prog 46 #[.agg (bdv g m), sl] w (RetOd (orOkG g L) (mkS (orW g.w g.h L L.length)) w) := by
  have gg := Gr.refl w
  have hw1 := F.t.w1
  have hw7 := F.t.w7
  have hh7 := F.t.h7
  have h36 := F.t.n36
  obtain ⟨p, q, rfl⟩ := own_slO hown
  have HST := hidI (fun w' => start_any g m w' hw7 hh7 h36)
  have HNX := hidI (fun (k : Nat) (hI : OrI g L k) w' => nextOf_any g m (orC (nn g.w g.h) L k) w' F (orC_length _ _ _) hI.fo)
  have HOI := hidI (fun (k : Nat) (h : ∀ i, i < k → orB g.w g.h (blO g) L i = true) => OrI.of F h)
  have HLE := hidI (fun (k : Nat) (hI : OrI g L k) => hI.le F)
  have HAT := hidI (fun (k : Nat) (hI : OrI g L k) hb => hI.at F hb)
  have HWH := hidI (fun (hI : OrI g L L.length) => hI.whole F)
  have HSW := hidI (fun (c : List UInt8) hl => same_whole (c := c) F hl)
  have hb36 : (blO g).length ≤ 36 := Nat.le_trans (ballsTo_le _ _ _) h36
  have HROW := hidI hown
  obtain ⟨N, hN⟩ : ∃ N, N = L.length := ⟨_, rfl⟩
  have HN := hidI hN
  rw [← hN] at hL
  rw [← hN]
  clear hN hown F
  unfold gvG at *
  go_enter Tryd.func46, Tryd.ntmps46
  go_wp2_with (first | (refine r_box (dst := some 2) 82 _ (bdv g m) rfl rfl ?_; intro w1 B1 N1; have g1 := N1.gr; have b1 : Blk w1 B1 (bdv g m) 82 := N1.blk; have l1 := N1.lo; have t1 := N1.hi; have z1 := g1.size; have gg := gg.trans g1; clear N1) | (refine r_load_row 82 _ _ rfl _ _ _ b1 Tryd.underlying82 rfl (Tryd.bdinfo _ _) rfl ?_) | (go_at_call 80; refine (HST.out _).mono ?_; rintro e w2 ⟨rfl, g2⟩; have z2 := g2.size; have b1 := g2.blk b1; have gg := gg.trans g2) | (refine r_alloc (dst := some 6) 72 _ Tryd.gzero rfl ?_; intro w3 B3 N3; have g3 := N3.gr; have b3 : Blk w3 B3 (gv 0 0 []) 72 := N3.blk; have l3 := N3.lo; have t3 := N3.hi; have z3 := g3.size; have b1 := g3.blk b1; have gg := gg.trans g3; clear N3; obtain ⟨b3_0, b3_1, b3_2⟩ := gcells b3) | (refine r_store_row 72 72 _ _ _ rfl (gv g.w g.h (genC (nn g.w g.h) fun _ => 46)) _ rfl b3 (Tryd.gsize' _ _ _) (by simp only [gv_size]) (gv_one _ _ _) rfl ?_; intro w4 u4 b3'; have z4 := u4.size; have gg := u4.gr gg (by omega); have b1 := u4.blk b1 (by omega); clear b3; have b3 := b3'; clear b3'; obtain ⟨b3_0, b3_1, b3_2⟩ := gcells b3))
  have own0 : w4.ownsRow w.heap.size 5 1 (.slice none 0 0) (orW g.w g.h L 0).length (cellsV (orW g.w g.h L 0)) := World.ownsRow_nil _ _ _ _
  have lo1 : w.heap.size ≤ B1 := by omega
  have lo3 : w.heap.size ≤ B3 := by omega
  go_loopw [7, 14] (fun wv iv wr => ∃ k : Nat, k ≤ N ∧ iv = .int .i64 k ∧ Hid (∀ i, i < k → orB g.w g.h (blO g) L i = true) ∧ Blk wr B1 (bdv g m) 82 ∧ Blk wr B3 (gv g.w g.h (orC (nn g.w g.h) L k)) 72 ∧ wr.ownsRow w.heap.size 5 1 wv (orW g.w g.h L k).length (cellsV (orW g.w g.h L k)) ∧ Gr w wr) (fun _ iv _ => N - (intOf iv).toNat)
  case atStart => exact ⟨0, Nat.zero_le _, rfl, hidI (fun i hi => absurd hi (Nat.not_lt_zero _)), b1, b3, own0, gg⟩
  case round =>
    clear own0 b1 b3 gg
    obtain ⟨k, hk, rfl, HA, b1, b3, own, gg⟩ := hrel
    have hI := HOI.out k HA.out
    have hk36 : k ≤ 36 := Nat.le_trans (HLE.out k hI) hb36
    have HIH := hidI hI
    clear hI
    by_cases hlt : k < N
    · have rowL : wr.ownsRow bL 3 1 (.slice p N q) N (intsV L) := by
        have := gg.row HROW.out
        rwa [← HN.out] at this
      obtain ⟨G, cap, eG, -, -⟩ := own_shape rowL (by omega)
      obtain ⟨rfl, rfl⟩ : p = some ⟨G, 0, none⟩ ∧ q = cap := by
        simp only [Value.slice.injEq] at eG
        exact ⟨eG.1, eG.2.2⟩
      clear eG
      obtain ⟨n, hn⟩ : ∃ n, n = gi L k := ⟨_, rfl⟩
      have hck : wr.cell? ⟨G, k, none⟩ = some (.int .i64 n) := by
        rw [hn]
        exact (rowL.cellAt k (by omega)).trans (intsV_getO L k (by rw [← HN.out]; exact hlt))
      have HNO := hidI (fun hb => HAT.out k HIH.out hb)
      have HCT := hidI (nx_or HIH.out)
      have HNK := hidI (HNX.out k HIH.out)
      rw [← hn] at HNO HCT
      have HGN := hidI hn
      have HLN := hidI (nxL_le g (orC (nn g.w g.h) L k) h36)
      obtain ⟨c, hc⟩ : ∃ c, c = orC (nn g.w g.h) L k := ⟨_, rfl⟩
      have hcl : c.length = nn g.w g.h := by rw [hc]; exact orC_length _ _ _
      have HSC := hidI (show orC (nn g.w g.h) L (k + 1) = c.set n.toNat 111 from by rw [hc, hn]; rfl)
      have HSW1 := hidI (show k = 0 → orW g.w g.h L (k + 1) = [] from fun e => by rw [orW, if_pos e])
      have HSW2 := hidI (show k ≠ 0 → orW g.w g.h L (k + 1) = orW g.w g.h L k ++ [(wyL g.w g.h c n.toNat 4).headD 0] from fun e => by rw [orW, if_neg e, hc, hn])
      have HCN := hidI (show orB g.w g.h (blO g) L k = true → k ≠ 0 → canB g.w g.h c n.toNat = true from fun hb e => by
        unfold orB at hb
        rw [decide_eq_false e, Bool.false_or, Bool.and_eq_true] at hb
        rw [hc, hn]
        exact hb.2)
      rw [← hc] at HNO HCT HNK HLN b3
      obtain ⟨ways, hways⟩ : ∃ ways, ways = orW g.w g.h L k := ⟨_, rfl⟩
      have hwl : ways.length ≤ 36 := by rw [hways, orW_length]; omega
      rw [← hways] at own HSW2
      have HWY := hidI hways
      have HCL := hidI hcl
      have lo1b := b1.lt
      have lo3b := b3.lt
      have zr := gg.size
      clear hc hn hways hcl rowL
      cases hob : orB g.w g.h (blO g) L k with
      | false =>
        have HV := hidI (or_stop (g := g) (L := L) (k := k) (by rw [← HN.out]; exact hlt) hob)
        rw [hob] at HCT
        clear hob
        go_wp2_with (first | (refine r_idx 34 _ _ (.slice (some ⟨G, 0, none⟩) N q) (.int .i64 k) _ rfl rfl (Tryd.nixO G N q k hlt _) rfl ?_) | (refine r_ldc 3 _ ⟨G, k, none⟩ (.int .i64 n) rfl (Tryd.isAgg3 _) hck rfl ?_) | (refine r_load_row 82 _ _ rfl _ _ _ b1 Tryd.underlying82 rfl (Tryd.bdinfo _ _) rfl ?_) | (refine r_load_row 72 _ _ rfl _ _ _ b3 Tryd.underlying72 rfl (Tryd.ginfo' _ _ _) rfl ?_) | (go_at_call 82; refine (HNK.out _).mono ?_; rintro e w7 ⟨g7, v7, rfl, own7⟩; have gg := gg.trans g7) | (go_at_call 81; refine (contains_any _ _ _ n _ own7 (by have := HLN.out; omega)).mono ?_; rintro e w8 ⟨rfl, rfl⟩; rw [HCT.out]))
        go_ret2
        exact ⟨fin_odN HV.out, gg⟩
      | true =>
        obtain ⟨i, rfl, hi, -, h46⟩ := HNO.out hob
        have HOB := hidI hob
        have HAK := hidI (show ∀ i, i < k + 1 → orB g.w g.h (blO g) L i = true from fun i hi => if h : i < k then HA.out i h else by rw [show i = k by omega]; exact hob)
        rw [hob] at HCT
        have hgs := gv_set g.w g.h c i 111 (by omega) (by rw [HCL.out]; exact hi)
        clear hob
        have hi36 : i < 36 := by omega
        have hgs' : (gv g.w g.h c).setIfInBounds (2 + i) (.int .u8 111) = gv g.w g.h (c.set i 111) := hgs
        have HGS := hidI hgs'
        clear hgs hgs'
        by_cases h0 : k = 0
        · have HS2 := hidI (HSW1.out h0)
          have HW0 := hidI (show ways = [] from by rw [HWY.out, h0]; rfl)
          have hd0 : decide ((0 : Int) < (k : Int)) = false := decide_eq_false (by omega)
          clear h0
          go_wp2_with (first | (refine r_idx 34 _ _ (.slice (some ⟨G, 0, none⟩) N q) (.int .i64 k) _ rfl rfl (Tryd.nixO G N q k hlt _) rfl ?_) | (refine r_ldc 3 _ ⟨G, k, none⟩ (.int .i64 i) rfl (Tryd.isAgg3 _) hck rfl ?_) | (refine r_load_row 82 _ _ rfl _ _ _ b1 Tryd.underlying82 rfl (Tryd.bdinfo _ _) rfl ?_) | (refine r_load_row 72 _ _ rfl _ _ _ b3 Tryd.underlying72 rfl (Tryd.ginfo' _ _ _) rfl ?_) | (go_at_call 82; refine (HNK.out _).mono ?_; rintro e w7 ⟨g7, v7, rfl, own7⟩; have own := g7.row own; have b1 := g7.blk b1; have b3 := g7.blk b3; have gg := gg.trans g7; have z7 := g7.size) | (go_at_call 81; refine (contains_any _ _ _ _ _ own7 (by have := HLN.out; omega)).mono ?_; rintro e w8 ⟨rfl, rfl⟩; rw [HCT.out]) | (refine r_val (.bool false) (e_gtrF _ _ (k : Int) 0 false rfl rfl hd0) rfl ?_) | (refine r_fld 72 _ 2 (.pointer (some ⟨B3, 0, none⟩)) (.pointer (some ⟨B3, 2, none⟩)) rfl (Tryd.gf2 B3 _) rfl ?_) | (refine r_idx 70 _ _ (.pointer (some ⟨B3, 2, none⟩)) (.int .i64 i) _ rfl rfl (Tryd.gix B3 i hi36 _) rfl ?_) | (refine r_store_cell 5 72 _ _ B3 (2 + i) rfl (.int .u8 111) rfl _ b3 (by rw [gv_size]; omega) Tryd.sizeOf5 rfl rfl ?_; intro w9 u9 b39))
          rw [HGS.out] at b39
          have n13 := blk_ne b1 b3 (by decide)
          go_roundw
          case rel => exact ⟨k + 1, by omega, by go_num, HAK, u9.blk b1 n13, by rw [HSC.out]; exact b39, by rw [HS2.out]; have := u9.row own (own_ne own b3 (by decide)); rw [HW0.out] at this; exact this, u9.gr gg lo3⟩
          case measure => simp [intOf]; omega
        · have HS2 := hidI (HSW2.out h0)
          have HFW := hidI (fun w' => freeWays_any g.w g.h i c w' hi h36)
          have hne : wyL g.w g.h c i 4 ≠ [] := by
            have := HCN.out HOB.out h0
            unfold canB at this
            rw [Bool.and_eq_true, decide_eq_true_eq] at this
            exact this.2
          have hd0 : decide ((0 : Int) < (k : Int)) = true := decide_eq_true (by omega)
          have HIX := hidI (fun w' => mkS_idx0 (P := Tryd.prog) Tryd.underlying9 _ hne w')
          obtain ⟨bb, hbb⟩ : ∃ bb, bb = (wyL g.w g.h c i 4).headD 0 := ⟨_, rfl⟩
          rw [← hbb] at HIX
          have HS3 := hidI (show orW g.w g.h L (k + 1) = ways ++ [bb] from by rw [hbb]; exact HS2.out)
          obtain ⟨fw, hfw⟩ : ∃ fw, fw = mkS (wyL g.w g.h c i 4) := ⟨_, rfl⟩
          rw [← hfw] at HFW HIX
          clear h0 hne hbb hfw HS2 HSW1 HSW2
          go_wp2_with (first | (refine r_idx 34 _ _ (.slice (some ⟨G, 0, none⟩) N q) (.int .i64 k) _ rfl rfl (Tryd.nixO G N q k hlt _) rfl ?_) | (refine r_ldc 3 _ ⟨G, k, none⟩ (.int .i64 i) rfl (Tryd.isAgg3 _) hck rfl ?_) | (refine r_load_row 82 _ _ rfl _ _ _ b1 Tryd.underlying82 rfl (Tryd.bdinfo _ _) rfl ?_) | (refine r_load_row 72 _ _ rfl _ _ _ b3 Tryd.underlying72 rfl (Tryd.ginfo' _ _ _) rfl ?_) | (go_at_call 82; refine (HNK.out _).mono ?_; rintro e w7 ⟨g7, v7, rfl, own7⟩; have own := g7.row own; have b1 := g7.blk b1; have b3 := g7.blk b3; have gg := gg.trans g7; have z7 := g7.size) | (go_at_call 81; refine (contains_any _ _ _ _ _ own7 (by have := HLN.out; omega)).mono ?_; rintro e w8 ⟨rfl, rfl⟩; rw [HCT.out]) | (refine r_val (.bool true) (e_gtrF _ _ (k : Int) 0 true rfl rfl hd0) rfl ?_) | (go_at_call 83; refine (HFW.out _).mono ?_; rintro e w11 ⟨rfl, g11⟩; have own := g11.row own; have b1 := g11.blk b1; have b3 := g11.blk b3; have gg := gg.trans g11; have z11 := g11.size) | (refine r_val (.int .u8 bb.toNat) (e_val _ _ (HIX.out _)) rfl ?_) | (refine r_slice1 53 5 (.tmp 31) (.int .u8 bb.toNat) rfl (Tryd.bs1 _ _) rfl ?_; intro w12 B12 N12; have g12 := N12.gr; have b1 := g12.blk b1; have b3 := g12.blk b3; have own := g12.row own; have gg := gg.trans g12; have z12 := g12.size) | (refine r_append (.tmp 27) (.tmp 32) 53 5 _ 1 1 w.heap.size Tryd.bytesI _ _ (cellsV ways) rfl own ⟨B12, 0, none⟩ 1 1 [.int .u8 bb.toNat] rfl rfl N12.cell1 (by intro u hu; simp at hu; subst hu; rfl) (by omega) (by decide) (by omega) rfl ?_; intro v13 w13 own13 g13; have b1 := g13.blk b1 (own_ne own b1 (by decide)); have b3 := g13.blk b3 (own_ne own b3 (by decide)); have gg := g13.gr gg (own_gr own (Nat.le_refl _)); have z13 := g13.size) | (refine r_fld 72 _ 2 (.pointer (some ⟨B3, 0, none⟩)) (.pointer (some ⟨B3, 2, none⟩)) rfl (Tryd.gf2 B3 _) rfl ?_) | (refine r_idx 70 _ _ (.pointer (some ⟨B3, 2, none⟩)) (.int .i64 i) _ rfl rfl (Tryd.gix B3 i hi36 _) rfl ?_) | (refine r_store_cell 5 72 _ _ B3 (2 + i) rfl (.int .u8 111) rfl _ b3 (by rw [gv_size]; omega) Tryd.sizeOf5 rfl rfl ?_; intro w9 u9 b39))
          rw [HGS.out] at b39
          have n13 := blk_ne b1 b3 (by decide)
          have own14 : w13.ownsRow w.heap.size 5 1 v13 (ways ++ [bb]).length (cellsV (ways ++ [bb])) := by
            rw [List.length_append, ← cellsV_append]
            exact own13
          go_roundw
          case rel => exact ⟨k + 1, by omega, by go_num, HAK, u9.blk b1 n13, by rw [HSC.out]; exact b39, by rw [HS3.out]; exact u9.row own14 (own_ne own14 b3 (by decide)), u9.gr gg lo3⟩
          case measure => simp [intOf]; omega
    · obtain rfl : k = N := by omega
      have hiff : orC (nn g.w g.h) L k = g.c ↔ k = (blO g).length := by
        have := HWH.out
        rw [← HN.out] at this
        exact this HIH.out
      have hsw := HSW.out (orC (nn g.w g.h) L k) (orC_length _ _ _)
      have hwl : (orW g.w g.h L k).length ≤ 36 := by rw [orW_length]; omega
      obtain ⟨c, hc⟩ : ∃ c, c = orC (nn g.w g.h) L k := ⟨_, rfl⟩
      rw [← hc] at hiff hsw b3
      obtain ⟨ways, hways⟩ : ∃ ways, ways = orW g.w g.h L k := ⟨_, rfl⟩
      have HWY := hidI hways
      rw [← hways] at own hwl ⊢
      clear hways hc hlt
      by_cases hbl : k = (blO g).length
      · have HV := hidI (or_yes (g := g) (L := L) (by rw [← HN.out]; exact HA.out) (by rw [← HN.out]; exact hbl))
        have HNE := hidI (show (!sameB ⟨g.w, g.h, c⟩ g) = false from by rw [hsw, decide_eq_true (hiff.2 hbl)]; rfl)
        clear hbl hsw hiff hb36
        rcases Nat.eq_zero_or_pos ways.length with e0 | e0
        · obtain rfl : ways = [] := List.length_eq_zero_iff.1 e0
          obtain ⟨pw, nw, qw, rfl⟩ := own_slice own
          obtain rfl : nw = 0 := own_len own
          go_wp2_with (first | (refine r_load_row 72 _ _ rfl _ _ _ b3 Tryd.underlying72 rfl (Tryd.ginfo' _ _ _) rfl ?_) | (refine r_fld 82 _ 0 (.pointer (some ⟨B1, 0, none⟩)) (.pointer (some ⟨B1, 0, none⟩)) rfl (Tryd.bdf0 _ _) rfl ?_) | (refine r_ldm 72 _ B1 0 (gvG g) _ rfl (bdv_grid b1) Tryd.underlying72 rfl (Tryd.ginfo' _ _ _) rfl ?_) | (refine r_val (.bool false) (HNE.out ▸ e_neqG _ _ ⟨g.w, g.h, c⟩ g rfl rfl) rfl ?_) | (refine r_conv 53 9 _ _ (.string (mkS [])) rfl (Tryd.conv0 _ _ _) rfl ?_))
          go_ret2
          exact ⟨fin_odY HV.out (by rw [← HWY.out]), gg⟩
        · obtain ⟨Gw, qw, rfl, -, -⟩ := own_shape own e0
          have HB := hidI (own_bytes own)
          go_wp2_with (first | (refine r_load_row 72 _ _ rfl _ _ _ b3 Tryd.underlying72 rfl (Tryd.ginfo' _ _ _) rfl ?_) | (refine r_fld 82 _ 0 (.pointer (some ⟨B1, 0, none⟩)) (.pointer (some ⟨B1, 0, none⟩)) rfl (Tryd.bdf0 _ _) rfl ?_) | (refine r_ldm 72 _ B1 0 (gvG g) _ rfl (bdv_grid b1) Tryd.underlying72 rfl (Tryd.ginfo' _ _ _) rfl ?_) | (refine r_val (.bool false) (HNE.out ▸ e_neqG _ _ ⟨g.w, g.h, c⟩ g rfl rfl) rfl ?_) | (refine r_conv 53 9 _ _ (.string (mkS ways)) rfl (Tryd.conv Gw 0 _ _ _ HB.out ways.length (mkS_size ways)) rfl ?_))
          go_ret2
          exact ⟨fin_odY HV.out (by rw [← HWY.out]), gg⟩
      · have HV := hidI (or_len (g := g) (L := L) (by rw [← HN.out]; exact hbl))
        have HNE := hidI (show (!sameB ⟨g.w, g.h, c⟩ g) = true from by rw [hsw, decide_eq_false (fun e => hbl (hiff.1 e))]; rfl)
        clear hbl hsw hiff hb36
        go_wp2_with (first | (refine r_load_row 72 _ _ rfl _ _ _ b3 Tryd.underlying72 rfl (Tryd.ginfo' _ _ _) rfl ?_) | (refine r_fld 82 _ 0 (.pointer (some ⟨B1, 0, none⟩)) (.pointer (some ⟨B1, 0, none⟩)) rfl (Tryd.bdf0 _ _) rfl ?_) | (refine r_ldm 72 _ B1 0 (gvG g) _ rfl (bdv_grid b1) Tryd.underlying72 rfl (Tryd.ginfo' _ _ _) rfl ?_) | (refine r_val (.bool true) (HNE.out ▸ e_neqG _ _ ⟨g.w, g.h, c⟩ g rfl rfl) rfl ?_))
        go_ret2
        exact ⟨fin_odN HV.out, gg⟩
end Go.Proofs.YtdebiobhmpoiiaaDoor
