/-
  A puzzle solved by the program: the states of its tray and those to which solutions lead.
-/
import Derived.Test.YtdebiobhmpoiiaaGreatDoorPuzI
import Derived.Test.YtdebiobhmpoiiaaGreatDoorReachF
import Derived.Test.YtdebiobhmpoiiaaGreatDoorReachR
namespace Go.Proofs.YtdebiobhmpoiiaaGreatDoor
open Go.RowKit
def fsV (S : List (Sta Grid)) (b : UInt8) (k : Nat) : Int := match fsS S b k with
  | none => -1
  | some j => j
def slV (v u : Value) : Array Value := #[v, u]
theorem slV_one {v u : Value} (h1 : v.oneCell' = true) (h2 : u.oneCell' = true) : ∀ x ∈ (slV v u).toList, x.oneCell' = true := by
  intro x hx
  unfold slV at hx
  simp only [List.mem_cons, List.not_mem_nil, or_false] at hx
  rcases hx with rfl | rfl
  · exact h1
  · exact h2
theorem slcells {w : World} {B : Nat} {v u : Value} {T : TypeId} (h : Blk w B (slV v u) T) : w.cell? ⟨B, 0, none⟩ = some v ∧ w.cell? ⟨B, 1, none⟩ = some u := ⟨h.cell 0, h.cell 1⟩
theorem e_eqK {P : Program} {w : World} {a : Act} {dst : Option Tmp} {ty T yt : TypeId} {pos : String} {aft : Array Edge} {gd : Option (Nat × Bool)} {k : IntKind} (x y : Operand) (m n : Int) (v : Bool) (hx : a.eval x = .int k m) (hy : a.eval y = .int k n) (hv : decide (m = n) = v) :
    (execOp a.eval ⟨dst, .binOp .eql T x y yt, ty, pos, aft, gd⟩).run P w = .ok (.value (.bool v)) w := by
  subst hv
  unfold execOp
  have e : (m == n) = decide (m = n) := by rw [Bool.eq_iff_iff, beq_iff_eq, decide_eq_true_eq]
  simp [hx, hy, eqGuard, binOp, Op.intCmp, e]
theorem e_idxP {P : Program} {w : World} {a : Act} {dst : Option Tmp} {ty T : TypeId} {pos : String} {aft : Array Edge} {gd : Option (Nat × Bool)} (x y : Operand) (v i u : Value) (hx : a.eval x = v) (hy : a.eval y = i) (hr : (Instr.indexAt T v i).run P w = .ok u w) :
    (execOp a.eval ⟨dst, .indexAddr T x y, ty, pos, aft, gd⟩).run P w = .ok (.value u) w := by
  unfold execOp
  simp only [hx, hy, Sem.run_bind, hr, Result.andThen_ok, Sem.run_pure]
theorem natsK (L : List Nat) (m : Nat) : natsV L ++ [.int .i64 (m : Int)] = natsV (L ++ [m]) := by unfold natsV; simp
theorem own_nat {w : World} {base : Nat} {e : TypeId} {g n cap : Nat} {L : List Nat} (hr : w.ownsRow base e 1 (.slice (some ⟨g, 0, none⟩) n cap) n (natsV L)) (j : Nat) (hj : j < n) (hn : n = L.length) :
    w.cell? ⟨g, j, none⟩ = some (.int .i64 ((L.getD j 0 : Nat) : Int)) := by
  have e1 : natsV L = intsV (L.map fun x : Nat => (x : Int)) := by unfold natsV intsV; rw [List.map_map]; rfl
  rw [e1] at hr
  have := own_int hr j hj (by rw [List.length_map]; exact hn)
  rw [this]
  unfold gi
  rw [List.getD_eq_getElem?_getD, List.getD_eq_getElem?_getD, List.getElem?_map, List.getElem?_eq_getElem (by omega)]
  rfl
theorem Tryz.intsZ : ElemInfo Tryz.prog 35 3 (.int .i64 0) 1 8 := ⟨Tryz.underlying35, by kernel_rfl, rfl, by decide⟩
theorem Tryz.bsiZ (u : Int) (w : World) : (Instr.buildSlice 35 1 #[(0, .int .i64 u)]).run Tryz.prog w = .ok (.slice (some ⟨w.heap.size, 0, none⟩) 1 1) (w.alloc (.cells #[.int .i64 u] 3)) := by kernel_rfl
theorem Tryz.nsixP (g n cap k : Nat) (hk : k < n) (w : World) : (Instr.indexAt 35 (.slice (some ⟨g, 0, none⟩) n cap) (.int .i64 k)).run Tryz.prog w = .ok (.pointer (some ⟨g, k, none⟩)) w := by
  have he : Tryz.prog.elem 35 = 3 := by kernel_rfl
  have hu : Tryz.prog.underlying 35 = some (.slice (Tryz.prog.elem 35)) := by rw [he]; exact Tryz.underlying35
  have hs : (sizeOf 3).run Tryz.prog w = .ok 1 w := by kernel_rfl
  rw [run_indexAt_slice w 35 ⟨g, 0, none⟩ n cap .i64 k hu, if_pos (by omega), he]
  simp [hs, Result.andThen, add_flat]
set_option maxHeartbeats 1000000 in
set_option maxRecDepth 100000 in
theorem isSolvedIn_any (g t : Grid) (b : UInt8) (k : Nat) (w : World) (hk : k < 36) : Calls Tryz.prog 69 #[.agg (qv g b k), .agg (gvG t)] w (Ret (.bool (at0 t.c k == b)) w) := by
  have gg := Gr.refl w
  obtain ⟨v, hv⟩ : ∃ v, v = (at0 t.c k == b) := ⟨_, rfl⟩
  have hdec : decide (((at0 t.c k).toNat : Int) = (b.toNat : Int)) = v := by
    rw [hv, Bool.eq_iff_iff, decide_eq_true_eq, beq_iff_eq]
    exact ⟨fun h => UInt8.toNat_inj.1 (by omega), fun h => by rw [h]⟩
  rw [← hv]
  clear hv
  go_enter Tryz.func69, Tryz.ntmps69
  go_wp2_with (first | (refine r_box (dst := some 2) 96 _ (qv g b k) rfl rfl ?_; intro w2 B2 N2; have g2 := N2.gr; have b2 : Blk w2 B2 (qv g b k) 96 := N2.blk; have l2 := N2.lo; have t2 := N2.hi; have z2 := g2.size; have gg := gg.trans g2; clear N2) | (refine r_box (dst := some 3) 68 _ (gv t.w t.h t.c) rfl rfl ?_; intro w3 B3 N3; have g3 := N3.gr; have b3 : Blk w3 B3 (gv t.w t.h t.c) 68 := N3.blk; have l3 := N3.lo; have t3 := N3.hi; have z3 := g3.size; have b2 := g3.blk b2; have gg := gg.trans g3; clear N3; obtain ⟨b3_0, b3_1, b3_2⟩ := gcells b3))
  obtain ⟨-, q1, q2⟩ := qcells b2
  have hcl := b3_2 k hk
  refine q_whole (by kernel_rfl) (by kernel_rfl) ?_
  refine q_take (.pointer (some ⟨B2, 39, none⟩)) rfl (fun w' hw' => e_val _ _ (Tryz.qf2 _ _)) ?_; simp only [Act.put, List.setIfInBounds_toArray, List.set_cons_succ, List.set_cons_zero]
  refine q_take (.int .i64 k) rfl (fun w' hw' => e_load 3 (.tmp 5) _ _ rfl (Tryz.isAgg3 _) (hw'.cell q2)) ?_; simp only [Act.put, List.setIfInBounds_toArray, List.set_cons_succ, List.set_cons_zero]
  refine q_take (.pointer (some ⟨B3, 2, none⟩)) rfl (fun w' hw' => e_val _ _ (Tryz.gf2 B3 _)) ?_; simp only [Act.put, List.setIfInBounds_toArray, List.set_cons_succ, List.set_cons_zero]
  refine q_take (.pointer (some ⟨B3, 2 + k, none⟩)) rfl (fun w' hw' => e_val _ _ (Tryz.gix B3 k hk _)) ?_; simp only [Act.put, List.setIfInBounds_toArray, List.set_cons_succ, List.set_cons_zero]
  refine q_take (.int .u8 (at0 t.c k).toNat) rfl (fun w' hw' => e_load 5 (.tmp 8) _ _ rfl (Tryz.isAgg5 _) (hw'.cell hcl)) ?_; simp only [Act.put, List.setIfInBounds_toArray, List.set_cons_succ, List.set_cons_zero]
  refine q_take (.pointer (some ⟨B2, 38, none⟩)) rfl (fun w' hw' => e_val _ _ (Tryz.qf1 _ _)) ?_; simp only [Act.put, List.setIfInBounds_toArray, List.set_cons_succ, List.set_cons_zero]
  refine q_take (.int .u8 b.toNat) rfl (fun w' hw' => e_load 5 (.tmp 10) _ _ rfl (Tryz.isAgg5 _) (hw'.cell q1)) ?_; simp only [Act.put, List.setIfInBounds_toArray, List.set_cons_succ, List.set_cons_zero]
  refine q_take (.bool v) rfl (fun w' hw' => e_eqK _ _ _ _ _ rfl rfl hdec) ?_
  simp only [Act.put, List.setIfInBounds_toArray, List.set_cons_succ, List.set_cons_zero]
  refine q_assign _ (.bool v) rfl rfl ?_; simp only [Act.put, List.setIfInBounds_toArray, List.set_cons_succ, List.set_cons_zero]
  refine wpQuiet_nil ?_; intro w4 g4; have z4 := g4.size; have gg := gg.trans g4
  go_wp2
  go_ret
  exact ⟨rfl, gg⟩
theorem Tryz.stzeroP (w : World) : (zeroValue 101).run Tryz.prog w = .ok (.agg (newL ⟨0, 0, []⟩ 0 0 0 0).toArray) w := by kernel_rfl
theorem Tryz.stinfoP : (Tryz.prog.info? 101).map (·.size) = some 43 := by kernel_rfl
theorem wholeP {base g cap : Nat} {w : World} {S : List (Sta Grid)} {nx : Nat → Value} (h : w.ownsRow base 101 43 (.slice (some ⟨g, 0, none⟩) S.length cap) S.length (rowsI S nx).flatten) {j : Nat} (hj : j < S.length) :
    w.rangeAt g (j * 43) (cellS (sta S j) (nx j)).toArray.toList := by
  have := own_flat_range h (rowsI_wide _ _) (rowsI_length _ _) hj (o := 0) (cs := (cellS (sta S j) (nx j)).toArray.toList) (by simp [cellS_length]) (fun i hi => by
    rw [rowsI_get S nx j hj, Nat.zero_add])
  rwa [Nat.add_zero] at this
theorem zipS_fs (S : List (Sta Grid)) (nx : Nat → Value) (b : UInt8) (k : Nat) (d : Sta Grid × Value) : Lib.idxBy (fun _ y => (at0 y.1.t.c k == b)) ((zipS S nx).take S.length) d = fsV S b k := by
  unfold fsV
  cases hf : fsS S b k with
  | none =>
    refine Lib.idxBy_miss (fun _ (y : Sta Grid × Value) => (at0 y.1.t.c k == b)) _ _ _ fun j hj => ?_
    rw [zipS_at S nx j hj]
    exact beq_eq_false_iff_ne.2 (fsS_none hf j hj)
  | some i =>
    obtain ⟨h1, h2, h3⟩ := fsS_some hf
    refine Lib.idxBy_hit (fun _ (y : Sta Grid × Value) => (at0 y.1.t.c k == b)) _ _ i _ h1 (by rw [zipS_length]; exact Nat.le_refl _) ?_ fun j hj => ?_
    · rw [zipS_at S nx i h1]; exact beq_iff_eq.2 h2
    · rw [zipS_at S nx j (by omega)]; exact beq_eq_false_iff_ne.2 (h3 j hj)
set_option maxHeartbeats 1000000 in
set_option maxRecDepth 100000 in
theorem solvedPred (g : Grid) (b : UInt8) (k : Nat) (hk : k < 36) (B : Nat) (w : World) (hb : Blk w B (qv g b k) 96) : PredBelow Tryz.prog 68 #[.pointer (some ⟨B, 0, none⟩)] (fun x : Sta Grid × Value => .agg (cellS x.1 x.2).toArray) (fun x => (at0 x.1.t.c k == b)) w := fun W x hB => by
  have gg := Gr.refl W
  have b9 : Blk W B (qv g b k) 96 := (Below.block hB B hb.lt).trans hb
  show Calls Tryz.prog 68 #[.agg (cellS x.1 x.2).toArray, .pointer (some ⟨B, 0, none⟩)] W _
  obtain ⟨s, v⟩ := x
  have HR := hidI (fun (W' : World) (A : Nat) (b : Blk W' A (cellS s v).toArray 101) => show W'.rangeAt A 0 (gvG s.t).toList from fun j u hj => by
    have h38 : j < 38 := by
      rcases Nat.lt_or_ge j 38 with h | h
      · exact h
      · rw [List.getElem?_eq_none (by rw [gvl]; exact h)] at hj; cases hj
    rw [Nat.zero_add, b.cell j, List.getElem?_toArray, cellS_hd s v j h38, hj])
  go_enter Tryz.func68, Tryz.ntmps68
  go_wp2_with (first | (refine r_box 101 _ (cellS s v).toArray rfl rfl ?_; intro w1 B1 N1; have g1 := N1.gr; have b1 := N1.blk; have b9 := g1.blk b9; have gg := gg.trans g1; clear N1) | (refine r_fld 101 _ 0 (.pointer (some ⟨B1, 0, none⟩)) (.pointer (some ⟨B1, 0, none⟩)) rfl (Tryz.stf0 B1 0 _) rfl ?_) | (refine r_ldm 68 _ B1 0 (gvG s.t) _ rfl (HR.out _ _ b1) Tryz.underlying68 rfl (Tryz.ginfo' _ _ _) rfl ?_) | (refine r_load_row 96 _ _ rfl _ _ _ b9 Tryz.underlying96 rfl (Tryz.qinfo _ _ _) rfl ?_) | (go_at_call 69; refine (isSolvedIn_any g s.t b k _ hk).mono ?_; rintro e w2 ⟨rfl, g2⟩; have gg := gg.trans g2))
  go_ret
  exact ⟨rfl, hB.trans (Below.mono gg hB.size)⟩
set_option maxHeartbeats 1000000 in
set_option maxRecDepth 100000 in
theorem indexNil_any (f : Value) (w : World) : Calls Tryz.prog 67 #[.slice none 0 0, f] w (Ret (.int .i64 (-1)) w) := by
  have gg := Gr.refl w
  go_enter Tryz.func67, Tryz.ntmps67
  go_wp2
  go_loopw [8] (fun i wr => i = .int .i64 0 ∧ wr = w) (fun _ _ => 0)
  case atStart => exact ⟨rfl, rfl⟩
  case round =>
    obtain ⟨rfl, rfl⟩ := hrel
    go_wp2
    go_ret
    exact ⟨rfl, gg⟩
theorem Tryz.slvzero (w : World) : (zeroValue 49).run Tryz.prog w = .ok (.agg (slV (.slice none 0 0) (.slice none 0 0))) w := by kernel_rfl
theorem Tryz.slvsize (w : World) : (sizeOf 49).run Tryz.prog w = .ok 2 w := by kernel_rfl
theorem Tryz.slvinfo : (Tryz.prog.info? 49).map (·.size) = some 2 := by kernel_rfl
theorem Tryz.slvbuild0 (w : World) : (Instr.build 49 #[]).run Tryz.prog w = .ok (.agg (slV (.slice none 0 0) (.slice none 0 0))) w := by kernel_rfl
theorem Tryz.slvbuild (p : Option Addr) (n c : Nat) (w : World) : (Instr.build 49 #[(0, .slice p n c)]).run Tryz.prog w = .ok (.agg (slV (.slice p n c) (.slice none 0 0))) w := by kernel_rfl
theorem Tryz.slvf0 (B : Nat) (w : World) : (Instr.fieldAt 49 (.pointer (some ⟨B, 0, none⟩)) 0).run Tryz.prog w = .ok (.pointer (some ⟨B, 0, none⟩)) w := by kernel_rfl
theorem Tryz.slvf1 (B : Nat) (w : World) : (Instr.fieldAt 49 (.pointer (some ⟨B, 0, none⟩)) 1).run Tryz.prog w = .ok (.pointer (some ⟨B, 1, none⟩)) w := by kernel_rfl
/-- It returns the states and the numbers of those to which solutions lead, or fails. -/
def RetSl (o : Option (List (Sta Grid) × Nat)) (b : UInt8) (k : Nat) (w : World) (e : Ending) (w' : World) : Prop :=
  Gr w w' ∧ match o with
    | none => e = .returned (.tuple #[.agg (slV (.slice none 0 0) (.slice none 0 0)), .bool false])
    | some (S, j) => ∃ v u nx, e = .returned (.tuple #[.agg (slV v u), .bool true]) ∧ ISt w.heap.size w' v S nx ∧ w'.ownsRow w.heap.size 3 1 u (sdTo S b k (sta S j).far S.length).length (natsV (sdTo S b k (sta S j).far S.length))
set_option maxHeartbeats 4000000 in
set_option maxRecDepth 100000 in
theorem solve_any (g : Grid) (b : UInt8) (k : Nat) (w : World) (hg : Cel g) (hk : k < 36) : Calls Tryz.prog 47 #[.agg (qv g b k)] w (RetSl (slvG g b k) b k w) := by
  have gg := Gr.refl w
  have HS := hidI (fun w => statesFrom_any g w hg)
  cases hR : reachS tiltG g with
  | none =>
    have HV := hidI (show slvG g b k = none from by unfold slvG; rw [hR])
    have HS := hidI (fun w => show Calls Tryz.prog 66 #[.agg (gvG g)] w (Ret (.tuple #[.slice none 0 0, .bool false]) w) from (HS.out w).mono fun e w' h => by unfold RetI at h; rw [hR] at h; exact ⟨h.2, h.1⟩)
    clear hR
    go_enter Tryz.func47, Tryz.ntmps47
    go_wp2_with (first | (refine r_box 96 _ (qv g b k) rfl rfl ?_; intro w1 B1 N1; have g1 := N1.gr; have b1 : Blk w1 B1 (qv g b k) 96 := N1.blk; have l1 := N1.lo; have t1 := N1.hi; have z1 := g1.size; have gg := gg.trans g1; clear N1) | (refine r_alloc (dst := some 2) 49 _ Tryz.slvzero rfl ?_; intro w2 B2 N2; have g2 := N2.gr; have b2 : Blk w2 B2 (slV (.slice none 0 0) (.slice none 0 0)) 49 := N2.blk; have l2 := N2.lo; have t2 := N2.hi; have z2 := g2.size; have b1 := g2.blk b1; have gg := gg.trans g2; clear N2) | (refine r_fld 96 _ 0 (.pointer (some ⟨B1, 0, none⟩)) (.pointer (some ⟨B1, 0, none⟩)) rfl (Tryz.qf0 B1 _) rfl ?_) | (refine r_ldm 68 _ B1 0 (gvG g) _ rfl (qcells b1).1 Tryz.underlying68 rfl (Tryz.ginfo' _ _ _) rfl ?_) | (go_at_call 66; refine (HS.out _).mono ?_; rintro e w3 ⟨rfl, g3⟩; have z3 := g3.size; have b1 := g3.blk b1; have b2 := g3.blk b2; have gg := gg.trans g3) | (go_at_call 67; refine (indexNil_any _ _).mono ?_; rintro e w4 ⟨rfl, g4⟩; have z4 := g4.size; have b1 := g4.blk b1; have b2 := g4.blk b2; have gg := gg.trans g4) | (refine r_build 49 [] [] _ (Tryz.slvbuild0 _) rfl rfl ?_) | (refine r_store_row 49 49 _ _ _ rfl (slV (.slice none 0 0) (.slice none 0 0)) _ rfl b2 Tryz.slvsize rfl (slV_one rfl rfl) rfl ?_; intro w5 u5 b2'; have gg := u5.gr gg (by omega)))
    refine bodyPost_ret (results_row_bool rfl _ _ _ _ _ _ rfl b2' Tryz.underlying49 rfl Tryz.slvinfo) rfl ?_
    exact ⟨gg, by rw [HV.out]; rfl⟩
  | some S =>
    have hi := reachS_inv Sized.tilt ⟨hg, rfl, rfl⟩ hR
    have h0 := hi.pos
    have h300 := hi.le
    have HS := hidI (fun w => show Calls Tryz.prog 66 #[.agg (gvG g)] w (fun e w' => Gr w w' ∧ ∃ v nx, e = .returned (.tuple #[v, .bool true]) ∧ ISt w.heap.size w' v S nx) from (HS.out w).mono fun e w' h => by
      unfold RetI at h
      rw [hR] at h
      exact h)
    have eg : ∀ args w, (callFunc 68 args).run Tryz.prog w = .ok (.enter 68 args) w := enters_of Tryz.func68 (by kernel_rfl) rfl
    have HIX := hidI (fun (w' : World) (gB cap B base : Nat) (nx : Nat → Value) (hr : w'.ownsRow base 101 43 (.slice (some ⟨gB, 0, none⟩) S.length cap) S.length (rowsI S nx).flatten) (hb : Blk w' B (qv g b k) 96) =>
      show Calls Tryz.prog 67 #[.slice (some ⟨gB, 0, none⟩) S.length cap, .func (.func 68) #[] #[.pointer (some ⟨B, 0, none⟩)]] w' (Ret (.int .i64 (fsV S b k)) w') from by
        have h := AnyQ.slices_IndexFunc Tryz.ixL 43 Tryz.isAgg101 Tryz.sizeOf101 (fun x : Sta Grid × Value => cellS x.1 x.2) (fun x => cellS_length _ _) (fun x => (at0 x.1.t.c k == b)) 68 #[.pointer (some ⟨B, 0, none⟩)] eg gB 0 S.length cap (zipS S nx) w' (solvedPred g b k hk B w' hb) (by rw [zipS_length]; exact Nat.le_refl _) (by omega) (hr.lt gB rfl).2 (zipS_cells hr)
        change Calls Tryz.prog 67 _ _ _ at h
        rw [zipS_fs] at h
        exact h)
    cases hf : fsS S b k with
    | none =>
      have HV := hidI (show slvG g b k = none from by unfold slvG; rw [hR]; show (match fsS S b k with | none => _ | some j => _) = _; rw [hf])
      have HP := hidI (show fsV S b k = -1 from by unfold fsV; rw [hf])
      clear hR hf hi eg
      go_enter Tryz.func47, Tryz.ntmps47
      go_wp2_with (first | (refine r_box 96 _ (qv g b k) rfl rfl ?_; intro w1 B1 N1; have g1 := N1.gr; have b1 : Blk w1 B1 (qv g b k) 96 := N1.blk; have l1 := N1.lo; have t1 := N1.hi; have z1 := g1.size; have gg := gg.trans g1; clear N1) | (refine r_alloc (dst := some 2) 49 _ Tryz.slvzero rfl ?_; intro w2 B2 N2; have g2 := N2.gr; have b2 : Blk w2 B2 (slV (.slice none 0 0) (.slice none 0 0)) 49 := N2.blk; have l2 := N2.lo; have t2 := N2.hi; have z2 := g2.size; have b1 := g2.blk b1; have gg := gg.trans g2; clear N2) | (refine r_fld 96 _ 0 (.pointer (some ⟨B1, 0, none⟩)) (.pointer (some ⟨B1, 0, none⟩)) rfl (Tryz.qf0 B1 _) rfl ?_) | (refine r_ldm 68 _ B1 0 (gvG g) _ rfl (qcells b1).1 Tryz.underlying68 rfl (Tryz.ginfo' _ _ _) rfl ?_) | (go_at_call 66; refine (HS.out _).mono ?_; rintro e w3 ⟨g3, v, nx, rfl, IS⟩; obtain ⟨gB, cap, rfl, hlo, hcap⟩ := own_shape IS.row h0; have gg := gg.trans g3; have b1 := g3.blk b1; have b2 := g3.blk b2; have z3 := g3.size) | (go_at_call 67; refine (HIX.out _ gB cap B1 _ nx IS.row b1).mono ?_; rintro e w4 ⟨rfl, g4⟩; rw [HP.out]; have z4 := g4.size; have b1 := g4.blk b1; have b2 := g4.blk b2; have gg := gg.trans g4) | (refine r_build 49 [] [] _ (Tryz.slvbuild0 _) rfl rfl ?_) | (refine r_store_row 49 49 _ _ _ rfl (slV (.slice none 0 0) (.slice none 0 0)) _ rfl b2 Tryz.slvsize rfl (slV_one rfl rfl) rfl ?_; intro w5 u5 b2'; have gg := u5.gr gg (by omega)))
      refine bodyPost_ret (results_row_bool rfl _ _ _ _ _ _ rfl b2' Tryz.underlying49 rfl Tryz.slvinfo) rfl ?_
      exact ⟨gg, by rw [HV.out]; rfl⟩
    | some j =>
      obtain ⟨hj, -, -⟩ := fsS_some hf
      have HP := hidI (show fsV S b k = (j : Int) from by unfold fsV; rw [hf])
      obtain ⟨far, hfar⟩ : ∃ far, far = (sta S j).far := ⟨_, rfl⟩
      by_cases h40 : 40 < far
      · have HV := hidI (show slvG g b k = none from by unfold slvG; rw [hR]; show (match fsS S b k with | none => _ | some j => _) = _; rw [hf]; exact if_neg (by omega))
        clear hR hf hi eg
        go_enter Tryz.func47, Tryz.ntmps47
        go_wp2_with (first | (refine r_box 96 _ (qv g b k) rfl rfl ?_; intro w1 B1 N1; have g1 := N1.gr; have b1 : Blk w1 B1 (qv g b k) 96 := N1.blk; have l1 := N1.lo; have t1 := N1.hi; have z1 := g1.size; have gg := gg.trans g1; clear N1) | (refine r_alloc (dst := some 2) 49 _ Tryz.slvzero rfl ?_; intro w2 B2 N2; have g2 := N2.gr; have b2 : Blk w2 B2 (slV (.slice none 0 0) (.slice none 0 0)) 49 := N2.blk; have l2 := N2.lo; have t2 := N2.hi; have z2 := g2.size; have b1 := g2.blk b1; have gg := gg.trans g2; clear N2) | (refine r_fld 96 _ 0 (.pointer (some ⟨B1, 0, none⟩)) (.pointer (some ⟨B1, 0, none⟩)) rfl (Tryz.qf0 B1 _) rfl ?_) | (refine r_ldm 68 _ B1 0 (gvG g) _ rfl (qcells b1).1 Tryz.underlying68 rfl (Tryz.ginfo' _ _ _) rfl ?_) | (go_at_call 66; refine (HS.out _).mono ?_; rintro e w3 ⟨g3, v, nx, rfl, IS⟩; obtain ⟨gB, cap, rfl, hlo, hcap⟩ := own_shape IS.row h0; have gg := gg.trans g3; have b1 := g3.blk b1; have b2 := g3.blk b2; have z3 := g3.size) | ((go_at_call 67; refine (HIX.out _ gB cap B1 _ nx IS.row b1).mono ?_; rintro e w4 ⟨rfl, g4⟩; rw [HP.out]; have z4 := g4.size; have b1 := g4.blk b1; have b2 := g4.blk b2; have gg := gg.trans g4); have cf := ORel.cell (g4.row IS.row) hj 0 (by omega); rw [← hfar] at cf) | (refine r_idx 47 _ _ (.slice (some ⟨gB, 0, none⟩) S.length cap) (.int .i64 j) _ rfl rfl (Tryz.stix gB S.length cap j hj _) rfl ?_) | (refine r_fld 101 _ 1 (.pointer (some ⟨gB, j * 43, none⟩)) (.pointer (some ⟨gB, j * 43 + 38, none⟩)) rfl (Tryz.stf1 gB (j * 43) _) rfl ?_) | (refine r_ldc 3 _ ⟨gB, j * 43 + 38, none⟩ (.int .i64 (far : Int)) rfl (Tryz.isAgg3 _) cf rfl ?_) | (refine r_build 49 [] [] _ (Tryz.slvbuild0 _) rfl rfl ?_) | (refine r_store_row 49 49 _ _ _ rfl (slV (.slice none 0 0) (.slice none 0 0)) _ rfl b2 Tryz.slvsize rfl (slV_one rfl rfl) rfl ?_; intro w5 u5 b2'; have gg := u5.gr gg (by omega)))
        refine bodyPost_ret (results_row_bool rfl _ _ _ _ _ _ rfl b2' Tryz.underlying49 rfl Tryz.slvinfo) rfl ?_
        exact ⟨gg, by rw [HV.out]; rfl⟩
      · have HV := hidI (show slvG g b k = some (S, j) from by unfold slvG; rw [hR]; show (match fsS S b k with | none => _ | some j => _) = _; rw [hf]; exact if_pos (by omega))
        have h40' : far ≤ 40 := by omega
        have HF := hidI hfar
        clear hR hf hi eg
        go_enter Tryz.func47, Tryz.ntmps47
        go_wp2_with (first | (refine r_box 96 _ (qv g b k) rfl rfl ?_; intro w1 B1 N1; have g1 := N1.gr; have b1 : Blk w1 B1 (qv g b k) 96 := N1.blk; have l1 := N1.lo; have t1 := N1.hi; have z1 := g1.size; have gg := gg.trans g1; clear N1) | (refine r_alloc (dst := some 2) 49 _ Tryz.slvzero rfl ?_; intro w2 B2 N2; have g2 := N2.gr; have b2 : Blk w2 B2 (slV (.slice none 0 0) (.slice none 0 0)) 49 := N2.blk; have l2 := N2.lo; have t2 := N2.hi; have z2 := g2.size; have b1 := g2.blk b1; have gg := gg.trans g2; clear N2) | (refine r_fld 96 _ 0 (.pointer (some ⟨B1, 0, none⟩)) (.pointer (some ⟨B1, 0, none⟩)) rfl (Tryz.qf0 B1 _) rfl ?_) | (refine r_ldm 68 _ B1 0 (gvG g) _ rfl (qcells b1).1 Tryz.underlying68 rfl (Tryz.ginfo' _ _ _) rfl ?_) | (go_at_call 66; refine (HS.out _).mono ?_; rintro e w3 ⟨g3, v, nx, rfl, IS⟩; obtain ⟨gB, cap, rfl, hlo, hcap⟩ := own_shape IS.row h0; have gg := gg.trans g3; have b1 := g3.blk b1; have b2 := g3.blk b2; have z3 := g3.size) | ((go_at_call 67; refine (HIX.out _ gB cap B1 _ nx IS.row b1).mono ?_; rintro e w4 ⟨rfl, g4⟩; rw [HP.out]; have z4 := g4.size; have b1 := g4.blk b1; have b2 := g4.blk b2; have gg := gg.trans g4); have cf := ORel.cell (g4.row IS.row) hj 0 (by omega); rw [← hfar] at cf; have row := g4.row IS.row; have row4 := row; have b14 := b1; have b24 := b2; have gg4 := gg; have nx4 := fun i (hi : i < S.length) => g4.row (IS.nxt i hi)) | (refine r_idx 47 _ _ (.slice (some ⟨gB, 0, none⟩) S.length cap) (.int .i64 j) _ rfl rfl (Tryz.stix gB S.length cap j hj _) rfl ?_) | (refine r_fld 101 _ 1 (.pointer (some ⟨gB, j * 43, none⟩)) (.pointer (some ⟨gB, j * 43 + 38, none⟩)) rfl (Tryz.stf1 gB (j * 43) _) rfl ?_) | (refine r_ldc 3 _ ⟨gB, j * 43 + 38, none⟩ (.int .i64 (far : Int)) rfl (Tryz.isAgg3 _) cf rfl ?_) | (refine r_build 49 [(0, .tmp 34)] [(0, .slice (some ⟨gB, 0, none⟩) S.length cap)] _ (Tryz.slvbuild _ _ _ _) rfl rfl ?_) | ((refine r_alloc (dst := some 7) 49 _ Tryz.slvzero rfl ?_; intro w7 B7 N7; have g7 := N7.gr; have b7 : Blk w7 B7 (slV (.slice none 0 0) (.slice none 0 0)) 49 := N7.blk; have l7 := N7.lo; have t7 := N7.hi; have z7 := g7.size; have b1 := g7.blk b1; have b2 := g7.blk b2; have gg := gg.trans g7; clear N7); have row := g7.row row) | (refine r_store_row 49 49 _ _ _ rfl (slV (.slice (some ⟨gB, 0, none⟩) S.length cap) (.slice none 0 0)) _ rfl b7 Tryz.slvsize rfl (slV_one rfl rfl) rfl ?_; intro w8 u8 b7'; have b1 := u8.blk b1 (by omega); have b2 := u8.blk b2 (by omega); have row := u8.row row (own_ne row b7 (by decide)); have gg := u8.gr gg (by omega); have z8 := u8.size))
        have k4 : Gr w4 w8 := u8.gr g7 l7
        have l7' : w.heap.size ≤ B7 ∧ w.heap.size ≤ B2 ∧ w.heap.size ≤ w4.heap.size ∧ B2 < w4.heap.size := ⟨by omega, by omega, by omega, b24.lt⟩
        have l4 := l7
        have own0 : w8.ownsRow w4.heap.size 3 1 (.slice none 0 0) (sdTo S b k far 0).length (natsV (sdTo S b k far 0)) := World.ownsRow_nil _ _ _ _
        go_loopw [38] (fun iv wr => ∃ (m : Nat) (u : Value), m ≤ S.length ∧ iv = .int .i64 m ∧ Blk wr B7 (slV (.slice (some ⟨gB, 0, none⟩) S.length cap) u) 49 ∧ wr.ownsRow w4.heap.size 3 1 u (sdTo S b k far m).length (natsV (sdTo S b k far m)) ∧ Gr w4 wr) (fun iv _ => S.length - (intOf iv).toNat)
        case atStart => exact ⟨0, _, Nat.zero_le _, rfl, b7', own0, k4⟩
        case round =>
          clear own0 k4 b7' b1 b2 row gg
          obtain ⟨m, u, hm, rfl, b7, own, k4⟩ := hrel
          have row := k4.row row4
          have b1 := k4.blk b14
          have b2 := k4.blk b24
          have zr := k4.size
          have gg := gg4.trans k4
          by_cases hlt : m < S.length
          · have cr := wholeP row hlt
            obtain ⟨st, hst⟩ : ∃ st, st = sta S m := ⟨_, rfl⟩
            obtain ⟨v0, hv0⟩ : ∃ v0, v0 = nx m := ⟨_, rfl⟩
            have HON := hidI (show ∀ u ∈ (cellS st v0).toArray.toList, u.oneCell' = true from cellS_one _ _ (by rw [hv0]; exact own_one (IS.nxt m hlt)))
            have HSZ := hidI (show (cellS st v0).toArray.size = 43 from by rw [List.size_toArray, cellS_length])
            have HRG := hidI (fun (W' : World) (A : Nat) (h : Blk W' A (cellS st v0).toArray 101) => show W'.rangeAt A 0 (gvG st.t).toList ∧ W'.cell? ⟨A, 38, none⟩ = some (.int .i64 (st.far : Int)) from ⟨fun i u hi => by
              have h38 : i < 38 := by
                rcases Nat.lt_or_ge i 38 with h | h
                · exact h
                · rw [List.getElem?_eq_none (by rw [gvl]; exact h)] at hi; cases hi
              rw [Nat.zero_add, h.cell i, List.getElem?_toArray, cellS_hd st v0 i h38, hi], (h.cell 38).trans (by rw [List.getElem?_toArray]; exact cellS_tl st v0 0)⟩)
            have HSD := hidI (sdTo_succ S b k far m)
            rw [← hst] at HSD
            have hsl := sdTo_le S b k far m
            obtain ⟨L, hL⟩ : ∃ L, L = sdTo S b k far m := ⟨_, rfl⟩
            rw [← hL] at own hsl HSD
            rw [← hst, ← hv0] at cr
            have hgB := (row.lt gB rfl).2
            clear hst hv0 hL
            obtain ⟨p5, n5, k5, rfl⟩ := own_slice own
            obtain rfl : n5 = L.length := own_len own
            go_wp2_with (first | (refine r_idx 47 _ _ (.slice (some ⟨gB, 0, none⟩) S.length cap) (.int .i64 m) _ rfl rfl (Tryz.stix gB S.length cap m hlt _) rfl ?_) | (refine r_ldm 101 _ gB (m * 43) (cellS st v0).toArray _ rfl cr Tryz.underlying101 rfl (by rw [HSZ.out]; exact Tryz.stinfoP) rfl ?_) | (refine r_alloc (dst := some 9) 101 _ Tryz.stzeroP rfl ?_; intro w9 B9 N9; have g9 := N9.gr; have b9 : Blk w9 B9 (newL ⟨0, 0, []⟩ 0 0 0 0).toArray 101 := N9.blk; have l9 := N9.lo; have z9 := g9.size; have own := g9.row own; have b7 := g9.blk b7; have k4 := k4.trans g9; clear N9) | (refine r_store_row 101 101 _ _ B9 rfl (cellS st v0).toArray _ rfl b9 (by intro w; rw [HSZ.out]; exact Tryz.sizeOf101 w) (by rw [HSZ.out, List.size_toArray, newL_length]) HON.out rfl ?_; intro w10 u10 b10; have own := u10.row own (own_ne own b9 (by decide)); have b7 := u10.blk b7 (blk_ne b7 b9 (by decide)); have k4 := u10.gr k4 (by omega); have z10 := u10.size))
            have row := k4.row row4
            have b1 := k4.blk b14
            obtain ⟨hr9, hc9⟩ := HRG.out _ _ b10
            have cf := ORel.cell row hj 0 (by omega)
            rw [← HF.out] at cf
            refine q_whole (by kernel_rfl) (by kernel_rfl) ?_
            refine q_take (.pointer (some ⟨B9, 38, none⟩)) rfl (fun w' hw' => e_val _ _ (Tryz.stf1 B9 0 _)) ?_; simp only [Act.put, List.setIfInBounds_toArray, List.set_cons_succ, List.set_cons_zero]
            refine q_take (.int .i64 (st.far : Int)) rfl (fun w' hw' => e_load 3 (.tmp 43) _ _ rfl (Tryz.isAgg3 _) (hw'.cell hc9)) ?_; simp only [Act.put, List.setIfInBounds_toArray, List.set_cons_succ, List.set_cons_zero]
            refine q_move _ (.slice (some ⟨gB, 0, none⟩) S.length cap) rfl rfl ?_; simp only [Act.put, List.setIfInBounds_toArray, List.set_cons_succ, List.set_cons_zero]
            refine q_move _ (.int .i64 j) rfl rfl ?_; simp only [Act.put, List.setIfInBounds_toArray, List.set_cons_succ, List.set_cons_zero]
            refine q_take (.pointer (some ⟨gB, j * 43, Option.none⟩)) rfl (fun w' hw' => e_idxP _ _ _ _ _ rfl rfl (Tryz.stix gB S.length cap j hj _)) ?_
            simp only [Act.put, List.setIfInBounds_toArray, List.set_cons_succ, List.set_cons_zero]
            refine q_take (.pointer (some ⟨gB, j * 43 + 38, none⟩)) rfl (fun w' hw' => e_val _ _ (Tryz.stf1 gB (j * 43) _)) ?_; simp only [Act.put, List.setIfInBounds_toArray, List.set_cons_succ, List.set_cons_zero]
            refine q_take (.int .i64 (far : Int)) rfl (fun w' hw' => e_load 3 (.tmp 48) _ _ rfl (Tryz.isAgg3 _) (hw'.cell cf)) ?_; simp only [Act.put, List.setIfInBounds_toArray, List.set_cons_succ, List.set_cons_zero]
            by_cases hff : st.far = far
            · have hdec : decide ((st.far : Int) = (far : Int)) = true := decide_eq_true (by omega)
              refine q_take (.bool true) rfl (fun w' hw' => e_eqK _ _ _ _ _ rfl rfl hdec) ?_
              simp only [Act.put, List.setIfInBounds_toArray, List.set_cons_succ, List.set_cons_zero]
              refine q_move _ (.bool true) rfl rfl ?_; simp only [Act.put, List.setIfInBounds_toArray, List.set_cons_succ, List.set_cons_zero]
              refine q_take (.agg (qv g b k)) rfl (fun w' hw' => e_load_row 96 (.tmp 1) _ _ _ _ rfl (hw'.blk b1) Tryz.underlying96 rfl (Tryz.qinfo _ _ _)) ?_
              simp only [Act.put, List.setIfInBounds_toArray, List.set_cons_succ, List.set_cons_zero]
              refine q_take (.pointer (some ⟨B9, 0, none⟩)) rfl (fun w' hw' => e_val _ _ (Tryz.stf0 B9 0 _)) ?_; simp only [Act.put, List.setIfInBounds_toArray, List.set_cons_succ, List.set_cons_zero]
              refine q_take (.agg (gvG st.t)) rfl (fun w' hw' => e_load_mid 68 (.tmp 53) B9 0 (gvG st.t).toList _ rfl (fun i u hi => hw'.cell (hr9 i u hi)) Tryz.underlying68 rfl (by rw [gvl]; exact Tryz.ginfo)) ?_
              simp only [Act.put, List.setIfInBounds_toArray, List.set_cons_succ, List.set_cons_zero]
              by_cases hbb : at0 st.t.c k = b
              · have HIS := hidI (fun w' => show Calls Tryz.prog 69 #[.agg (qv g b k), .agg (gvG st.t)] w' (Ret (.bool true) w') from by have := isSolvedIn_any g st.t b k w' hk; rwa [hbb, beq_self_eq_true] at this)
                have HS2 := hidI (show natsV L ++ [.int .i64 (m : Int)] = natsV (sdTo S b k far (m + 1)) ∧ L.length + 1 = (sdTo S b k far (m + 1)).length from by rw [HSD.out, if_pos ⟨hff, hbb⟩]; exact ⟨natsK _ _, by simp⟩)
                clear hbb hff
                refine q_call 69 [.tmp 52, .tmp 54] _ [.agg (qv g b k), .agg (gvG st.t)] (.bool true) Tryz.call69 rfl rfl (fun w' hw' => ((HIS.out w').mono fun e w'' h => ⟨h.1, hw'.trans h.2⟩)) ?_; simp only [Act.put, List.setIfInBounds_toArray, List.set_cons_succ, List.set_cons_zero]
                refine q_take (.bool true) rfl (fun w' hw' => by first | rfl | (unfold execOp; simp [go_sem, Act.eval])) ?_
                simp only [Act.put, List.setIfInBounds_toArray, List.set_cons_succ, List.set_cons_zero]
                refine wpQuiet_nil ?_
                intro wq gq
                have k4 := k4.trans gq
                have b7 := gq.blk b7
                have own := gq.row own
                have zq := gq.size
                go_wp2_with (first | (refine r_fld 49 _ 1 (.pointer (some ⟨B7, 0, none⟩)) (.pointer (some ⟨B7, 1, none⟩)) rfl (Tryz.slvf1 B7 _) rfl ?_) | (refine r_ldc 35 _ ⟨B7, 1, none⟩ (.slice p5 L.length k5) rfl (Tryz.isAgg35 _) (slcells b7).2 rfl ?_) | (refine r_slice1 35 3 (.tmp 59) (.int .i64 m) rfl (Tryz.bsiZ _ _) rfl ?_; intro we Be Ne; have ge := Ne.gr; have own := ge.row own; have b7 := ge.blk b7; have k4 := k4.trans ge; have ze := ge.size) | (refine r_append (.tmp 58) (.tmp 60) 35 3 _ 1 8 w4.heap.size Tryz.intsZ (.slice p5 L.length k5) L.length (natsV L) rfl own ⟨Be, 0, none⟩ 1 1 [.int .i64 m] rfl rfl Ne.cell1 (by intro u hu; simp at hu; subst hu; rfl) (by omega) (by decide) (by omega) rfl ?_; intro vf wf ownf gf; have b7 := gf.blk b7 (own_ne own b7 (by decide)); have k4 := gf.gr k4 (own_gr own (Nat.le_refl _)); have zf := gf.size; have hof := own_one ownf) | (refine r_store_cell 35 49 _ _ B7 1 rfl vf rfl _ b7 (by show 1 < 2; decide) Tryz.sizeOf35 hof rfl ?_; intro wg ug bg; have ownf := ug.row ownf (own_ne ownf b7 (by decide)); have k4 := ug.gr k4 (by omega)))
                rw [HS2.out.1, HS2.out.2] at ownf
                go_roundw
                case rel => exact ⟨m + 1, vf, by omega, by go_num, bg, ownf, k4⟩
                case measure => simp [intOf]; omega
              · have HIS := hidI (fun w' => show Calls Tryz.prog 69 #[.agg (qv g b k), .agg (gvG st.t)] w' (Ret (.bool false) w') from by have := isSolvedIn_any g st.t b k w' hk; rwa [beq_eq_false_iff_ne.2 hbb] at this)
                have HS2 := hidI (show L = sdTo S b k far (m + 1) from by rw [HSD.out, if_neg (fun h => hbb h.2)])
                clear hbb hff
                refine q_call 69 [.tmp 52, .tmp 54] _ [.agg (qv g b k), .agg (gvG st.t)] (.bool false) Tryz.call69 rfl rfl (fun w' hw' => ((HIS.out w').mono fun e w'' h => ⟨h.1, hw'.trans h.2⟩)) ?_; simp only [Act.put, List.setIfInBounds_toArray, List.set_cons_succ, List.set_cons_zero]
                refine q_take (.bool false) rfl (fun w' hw' => by first | rfl | (unfold execOp; simp [go_sem, Act.eval])) ?_
                simp only [Act.put, List.setIfInBounds_toArray, List.set_cons_succ, List.set_cons_zero]
                refine wpQuiet_nil ?_
                intro wq gq
                have k4 := k4.trans gq
                have b7 := gq.blk b7
                have own := gq.row own
                go_wp2
                go_roundw
                case rel => exact ⟨m + 1, _, by omega, by go_num, b7, by rw [← HS2.out]; exact own, k4⟩
                case measure => simp [intOf]; omega
            · have hdec : decide ((st.far : Int) = (far : Int)) = false := decide_eq_false (by omega)
              have HS2 := hidI (show L = sdTo S b k far (m + 1) from by rw [HSD.out, if_neg (fun h => hff h.1)])
              clear hff
              refine q_take (.bool false) rfl (fun w' hw' => e_eqK _ _ _ _ _ rfl rfl hdec) ?_
              simp only [Act.put, List.setIfInBounds_toArray, List.set_cons_succ, List.set_cons_zero]
              refine q_move _ (.bool false) rfl rfl ?_; simp only [Act.put, List.setIfInBounds_toArray, List.set_cons_succ, List.set_cons_zero]
              refine BigFrame.wpQuiet_skip rfl ?_
              simp only [Act.put, List.setIfInBounds_toArray, List.set_cons_succ, List.set_cons_zero]
              refine BigFrame.wpQuiet_skip rfl ?_
              simp only [Act.put, List.setIfInBounds_toArray, List.set_cons_succ, List.set_cons_zero]
              refine BigFrame.wpQuiet_skip rfl ?_
              simp only [Act.put, List.setIfInBounds_toArray, List.set_cons_succ, List.set_cons_zero]
              refine BigFrame.wpQuiet_skip rfl ?_
              simp only [Act.put, List.setIfInBounds_toArray, List.set_cons_succ, List.set_cons_zero]
              refine q_take (.bool false) rfl (fun w' hw' => by first | rfl | (unfold execOp; simp [go_sem, Act.eval])) ?_
              simp only [Act.put, List.setIfInBounds_toArray, List.set_cons_succ, List.set_cons_zero]
              refine wpQuiet_nil ?_
              intro wq gq
              have k4 := k4.trans gq
              have b7 := gq.blk b7
              have own := gq.row own
              go_wp2
              go_roundw
              case rel => exact ⟨m + 1, _, by omega, by go_num, b7, by rw [← HS2.out]; exact own, k4⟩
              case measure => simp [intOf]; omega
          · obtain rfl : m = S.length := by omega
            have hon := own_one own
            clear hlt
            go_wp2_with (first | (refine r_load_row 49 _ _ rfl _ _ _ b7 Tryz.underlying49 rfl Tryz.slvinfo rfl ?_) | (refine r_store_row 49 49 _ _ _ rfl (slV (.slice (some ⟨gB, 0, none⟩) S.length cap) u) _ rfl b2 Tryz.slvsize rfl (slV_one rfl hon) rfl ?_; intro w12 u12 b12; have own := u12.row own (own_ne own b2 (by decide)); have gg := u12.gr gg (by omega); have row := u12.row row (own_ne row b2 (by decide))))
            refine bodyPost_ret (results_row_bool rfl _ _ _ _ _ _ rfl b12 Tryz.underlying49 rfl Tryz.slvinfo) rfl ?_
            refine ⟨gg, ?_⟩
            rw [HV.out]
            show ∃ v u nx, _
            rw [← HF.out]
            exact ⟨_, u, nx, rfl, ⟨own_up row (by omega), fun i hi => own_up (u12.row (k4.row (nx4 i hi)) (own_ne (k4.row (nx4 i hi)) b2 (by decide))) (by omega)⟩, own_up own (by omega)⟩
end Go.Proofs.YtdebiobhmpoiiaaGreatDoor
