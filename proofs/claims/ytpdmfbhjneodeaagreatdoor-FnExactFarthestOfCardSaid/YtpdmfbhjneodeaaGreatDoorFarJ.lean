/-
  The greatest distance and the first one of the farthest trays: in the program, in the model, and the law.
-/
import Derived.Test.YtpdmfbhjneodeaaGreatDoorFarI
namespace Go.Proofs.YtpdmfbhjneodeaaGreatDoor
open Go.RowKit
theorem e_idxF {P : Program} {w : World} {a : Act} {dst : Option Tmp} {ty T : TypeId} {pos : String} {aft : Array Edge} {gd : Option (Nat × Bool)} (x y : Operand) (v i u : Value) (hx : a.eval x = v) (hy : a.eval y = i) (hr : (Instr.indexAt T v i).run P w = .ok u w) :
    (execOp a.eval ⟨dst, .indexAddr T x y, ty, pos, aft, gd⟩).run P w = .ok (.value u) w := by
  unfold execOp
  simp only [hx, hy, Sem.run_bind, hr, Result.andThen_ok, Sem.run_pure]
theorem greatest_n (S : List (Sta Grid)) (base g cap n : Nat) (nx : Nat → Value) (w : World) (hn : n = S.length) (h : w.ownsRow base 45 43 (.slice (some ⟨g, 0, none⟩) n cap) n (rowsI S nx).flatten) (h0 : 0 < n) (h300 : n ≤ 300) :
    Calls Tryz.prog 9 #[.slice (some ⟨g, 0, none⟩) n cap] w (Ret (.int .i64 (gstF S : Nat)) w) := by
  subst hn
  have gg := Gr.refl w
  obtain ⟨m, hm⟩ : ∃ m, m = S.length - 1 := ⟨_, rfl⟩
  have hlt : m < S.length := by omega
  have c38 := ORel.cell h hlt 0 (by omega)
  have HV := hidI (show (((sta S m).far : Nat) : Int) = (gstF S : Nat) from by unfold gstF; rw [hm])
  have HS := hidI (show (S.length : Int) - 1 = (m : Int) from by omega)
  clear hm
  go_enter Tryz.func9, Tryz.ntmps9
  go_wp2_with (first | (refine r_subI _ _ (S.length : Int) 1 (m : Int) rfl rfl HS.out (by omega) rfl ?_) | (refine r_idx 36 _ _ (.slice (some ⟨g, 0, none⟩) S.length cap) (.int .i64 m) _ rfl rfl (Tryz.stix g S.length cap m hlt _) rfl ?_) | (refine r_fld 45 _ 1 (.pointer (some ⟨g, m * 43, none⟩)) (.pointer (some ⟨g, m * 43 + 38, none⟩)) rfl (Tryz.stf1 g (m * 43) _) rfl ?_) | (refine r_ldc 3 _ ⟨g, m * 43 + 38, none⟩ (.int .i64 (sta S m).far) rfl (Tryz.isAgg3 _) c38 rfl ?_))
  go_ret
  exact ⟨ret_int HV.out, gg⟩
theorem textsOf_n (v : Value) (S : List (Sta Grid)) (nx : Nat → Value) (base n : Nat) (w : World) (hn : n = S.length) (h : w.ownsRow base 45 43 v n (rowsI S nx).flatten) (hnx : ∀ j, j < n → (nx j).oneCell' = true) (hC : ∀ j, j < n → Okt (sta S j).t) (h300 : n ≤ 300) :
    Calls Tryz.prog 12 #[v] w fun e w' => Gr w w' ∧ ∃ u, e = .returned u ∧ w'.ownsRow w.heap.size 9 1 u n (strV (srtT (trT S S.length))) := by
  subst hn
  exact textsOf_any v S nx base w h hnx hC h300
theorem Tryz.int0F (w : World) : (zeroValue 3).run Tryz.prog w = .ok (.int .i64 0) w := by kernel_rfl
theorem Tryz.strixF (B n cap x : Nat) (hx : x < n) (w : World) : (Instr.indexAt 47 (.slice (some ⟨B, 0, none⟩) n cap) (.int .i64 x)).run Tryz.prog w = .ok (.pointer (some ⟨B, x, none⟩)) w := by
  have hu : Tryz.prog.underlying 47 = some (.slice (Tryz.prog.elem 47)) := by kernel_rfl
  have he : Tryz.prog.elem 47 = 9 := by kernel_rfl
  rw [run_indexAt_slice w 47 ⟨B, 0, none⟩ n cap .i64 x hu, if_pos (by omega), he]
  simp [Tryz.sizeOf9, Result.andThen, add_flat]
set_option maxHeartbeats 2000000 in
set_option maxRecDepth 100000 in
theorem iFarthestOf (s : ByteArray) (w : World) (hm : ML w) (hs : s.size ≤ 1048576) : Calls Tryz.prog 5 #[.string s] w fun e w' => Gr w w' ∧ ∃ t : List UInt8, IsFar s.data.toList t ∧ e = .returned (.tuple #[.int .i64 (farN s.data.toList : Nat), tx t, .bool (crOk s.data.toList)]) := by
  have gg := Gr.refl w
  have HA := readStates_any s w hm hs
  unfold RetI at HA
  cases hR : rcS s.data.toList with
  | none =>
    rw [hR] at HA
    have HO := hidI (show crOk s.data.toList = false from by unfold crOk; rw [hR]; rfl)
    have HF := hidI (show farN s.data.toList = 0 from by unfold farN; rw [hR])
    have HI := hidI (show IsFar s.data.toList [] from by unfold IsFar; rw [hR])
    clear hR
    go_enter Tryz.func5, Tryz.ntmps5
    go_wp2_with (go_at_call 8; refine HA.mono ?_; rintro e w1 ⟨g1, rfl⟩; have gg := gg.trans g1)
    go_ret3
    exact ⟨gg, [], HI.out, by rw [HO.out, HF.out]; rfl⟩
  | some S =>
    rw [hR] at HA
    obtain ⟨g, -, hi⟩ := rcS_inv hR
    have h0 := hi.pos
    have h300 := hi.le
    obtain ⟨i0, hi0, h1, h2⟩ := fst_ex h0 hi.mono
    have HL := hidI (LstK.sorted hi0 h1 h2)
    have HO := hidI (show crOk s.data.toList = true from by unfold crOk; rw [hR]; rfl)
    have HF := hidI (show farN s.data.toList = gstF S from by unfold farN; rw [hR])
    have HI := hidI (fun t (h : LstK S S.length t) => show IsFar s.data.toList t from by unfold IsFar; rw [hR]; exact h)
    have hG := hi.far_le (S.length - 1) (by omega)
    obtain ⟨G, hGd⟩ : ∃ G, G = gstF S := ⟨_, rfl⟩
    rw [← hGd] at h1 h2 HF
    have HGD := hidI hGd
    have H1 := hidI h1
    have H2 := hidI h2
    obtain ⟨n, hn⟩ : ∃ n, n = S.length := ⟨_, rfl⟩
    obtain ⟨m, hm'⟩ : ∃ m, m = n - i0 := ⟨_, rfl⟩
    have HN := hidI hn
    have HM := hidI (show m = (S.drop i0).length from by rw [hm', List.length_drop, hn])
    have HM0 := hidI hm'
    have HK := hidI (fun j (hj : j < m) => show Okt (sta (S.drop i0) j).t from by rw [sta_drop]; exact rcS_okt hR _ (by omega))
    have hm0 : 0 < m := by omega
    have hm3 : m ≤ 300 := by omega
    have hn3 : n ≤ 300 := by omega
    have hi0n : i0 < n := by omega
    rw [← hn] at h0
    clear hR hi hG hGd h1 h2 h300 hn hm' hi0
    go_enter Tryz.func5, Tryz.ntmps5
    go_wp2_with (first | (go_at_call 8; refine HA.mono ?_; rintro e w1 ⟨g1, v, nx, rfl, IS⟩; have row := IS.row; have hnx : ∀ j, j < n → (nx j).oneCell' = true := (fun j hj => own_one (IS.nxt j (by rw [← HN.out]; exact hj))); have HNX := hidI hnx; clear hnx; have gg := gg.trans g1; have z1 := g1.size; rw [← HN.out] at row; obtain ⟨gB, cap, rfl, hlo, hcap⟩ := own_shape row h0) | (go_at_call 9; refine (greatest_n S _ gB cap n nx _ HN.out row h0 hn3).mono ?_; rintro e w2 ⟨rfl, g2⟩; rw [← HGD.out]; have gg := gg.trans g2; have z2 := g2.size; have row := g2.row row) | ((refine r_alloc 3 _ Tryz.int0F rfl ?_; intro w3 B3 N3; have g3 := N3.gr; have b3 : Blk w3 B3 (#[.int .i64 0]) 3 := N3.blk; have l3 := N3.lo; have t3 := N3.hi; have z3 := g3.size; have gg := gg.trans g3; clear N3); have row := g3.row row) | (refine r_store_cell 3 3 _ _ B3 0 rfl (.int .i64 G) rfl _ b3 (by decide) Tryz.sizeOf3 rfl rfl ?_; intro w4 u4 b4; have row := u4.row row (own_ne row b3 (by decide)); have z4 := u4.size; have gg := u4.gr gg (by omega)) | (go_at_call 10; refine (deleteF_any S nx gB cap w.heap.size G B3 n i0 w _ HN.out hn3 HNX.out row b4 gg (Nat.le_refl _) hi0n H1.out (fun j hj1 hj2 => H2.out j hj1 (by rw [← HN.out]; exact hj2))).mono ?_; rintro e w5 ⟨gg, b5, rfl, row5⟩; rw [← HM0.out] at row5; rw [← HM0.out]))
    have gd := (Gr.refl w5).drew
    have b5 := gd.blk b5
    have row5 := gd.row row5
    have gg := gg.trans gd
    have hnxm : ∀ j, j < m → (nx (i0 + j)).oneCell' = true := fun j hj => HNX.out _ (by have := HM0.out; omega)
    have HTX := hidI (textsOf_n (.slice (some ⟨gB, 0, none⟩) m cap) (S.drop i0) (fun x => nx (i0 + x)) w.heap.size m w5.drew HM.out row5 hnxm HK.out hm3)
    clear hnxm
    refine F_begin (fun w => w.cell? ⟨B3, 0, none⟩ = some (.int .i64 G)) 7 8 #[false, false, false, false, false, false, false, false] rfl (by kernel_rfl) (by kernel_rfl) ?_
    generalize w5.drew = wd at *
    refine F_take (v := .int .i64 G) 0 #[true, false, false, false, false, false, false, false] rfl (by kernel_rfl) (fun _ _ _ h => h) rfl (fun w hF => e_load 3 (.tmp 7) _ _ rfl (Tryz.isAgg3 _) hF) (b5.cell 0) ?_; simp only [Act.put, List.setIfInBounds_toArray, List.set_cons_succ, List.set_cons_zero]
    refine F_free (v := .slice (some ⟨gB, 0, Option.none⟩) m cap) 1 #[true, true, false, false, false, false, false, false] rfl (by kernel_rfl) (fun _ _ _ h => h) rfl (fun _ => rfl) (b5.cell 0) ?_; simp only [Act.put, List.setIfInBounds_toArray, List.set_cons_succ, List.set_cons_zero]
    refine F_one 2 #[true, true, true, false, false, false, false, false] rfl (by kernel_rfl) ?_
    refine r_callx 12 [.tmp 22] _ [.slice (some ⟨gB, 0, none⟩) m cap] (fun v w' => Gr wd w' ∧ w'.ownsRow wd.heap.size 9 1 v m (strV (srtT (trT (S.drop i0) (S.drop i0).length)))) Tryz.call12 rfl rfl (HTX.out.mono fun e w' h => by obtain ⟨g, u, h1, h2⟩ := h; exact ⟨u, h1, g, h2⟩) ?_
    rintro v6 w6 ⟨g6, own6⟩
    have b5 := g6.blk b5
    have gg := gg.trans g6
    obtain ⟨X, cX, rfl, -, -⟩ := own_shape own6 hm0
    have HIT := hidI (HI.out _ HL.out)
    have c25 : w6.cell? ⟨X, 0, none⟩ = some (tx (ts (srtT (trT (S.drop i0) (S.drop i0).length)) 0)) := own_val own6 0 _ hm0 (strV_get _ _ (by rw [srtT_length, trT_length, ← HM.out]; exact hm0))
    obtain ⟨t, ht⟩ : ∃ t, t = ts (srtT (trT (S.drop i0) (S.drop i0).length)) 0 := ⟨_, rfl⟩
    rw [← ht] at c25 HIT
    clear ht own6 HL
    refine ⟨fun _ => b5.cell 0, ?_⟩
    simp only [Act.put, List.setIfInBounds_toArray, List.set_cons_succ, List.set_cons_zero]
    refine F_free (v := .int .i64 G) 5 #[true, true, true, false, false, true, false, false] rfl (by kernel_rfl) (fun _ _ _ h => h) rfl (fun _ => rfl) (b5.cell 0) ?_; simp only [Act.put, List.setIfInBounds_toArray, List.set_cons_succ, List.set_cons_zero]
    refine F_free (v := .pointer (some ⟨X, 0, Option.none⟩)) 3 #[true, true, true, true, false, true, false, false] rfl (by kernel_rfl) (fun _ _ _ h => h) rfl (fun _ => e_idxF _ _ _ _ _ rfl rfl (Tryz.strixF X m cX 0 hm0 _)) (b5.cell 0) ?_; simp only [Act.put, List.setIfInBounds_toArray, List.set_cons_succ, List.set_cons_zero]
    refine F_one 4 #[true, true, true, true, true, true, false, false] rfl (by kernel_rfl) ?_
    refine r_ldc 9 _ ⟨X, 0, none⟩ (tx t) rfl (Tryz.isAgg9 _) c25 rfl ?_
    refine ⟨fun _ => b5.cell 0, ?_⟩
    simp only [Act.put, List.setIfInBounds_toArray, List.set_cons_succ, List.set_cons_zero]
    refine F_free (v := tx t) 6 #[true, true, true, true, true, true, true, false] rfl (by kernel_rfl) (fun _ _ _ h => h) rfl (fun _ => rfl) (b5.cell 0) ?_; simp only [Act.put, List.setIfInBounds_toArray, List.set_cons_succ, List.set_cons_zero]
    refine F_one 7 #[true, true, true, true, true, true, true, true] rfl (by kernel_rfl) ?_
    refine r_val (.bool true) rfl rfl ?_
    refine ⟨fun h => (by cases h), ?_⟩
    simp only [Act.put, List.setIfInBounds_toArray, List.set_cons_succ, List.set_cons_zero]
    refine F_done (by kernel_rfl) ?_
    go_wp2
    go_ret3
    exact ⟨gg, t, HIT.out, by rw [HO.out, HF.out]; rfl⟩
section
variable {P : Program} {w : World} {a : Act} {dst : Option Tmp} {ty : TypeId} {pos : String} {aft : Array Edge} {gd : Option (Nat × Bool)}
theorem e_gtrF {T yt : TypeId} {k : IntKind} (x y : Operand) (m n : Int) (v : Bool) (hx : a.eval x = .int k m) (hy : a.eval y = .int k n) (hv : decide (n < m) = v) :
    (execOp a.eval ⟨dst, .binOp .gtr T x y yt, ty, pos, aft, gd⟩).run P w = .ok (.value (.bool v)) w := by
  subst hv
  unfold execOp
  simp [hx, hy, eqGuard, binOp, Op.intCmp]
theorem e_eqlF {T yt : TypeId} {k : IntKind} (x y : Operand) (m n : Int) (v : Bool) (hx : a.eval x = .int k m) (hy : a.eval y = .int k n) (hv : decide (m = n) = v) :
    (execOp a.eval ⟨dst, .binOp .eql T x y yt, ty, pos, aft, gd⟩).run P w = .ok (.value (.bool v)) w := by
  subst hv
  unfold execOp
  have e : (m == n) = decide (m = n) := by rw [Bool.eq_iff_iff, beq_iff_eq, decide_eq_true_eq]
  simp [hx, hy, eqGuard, binOp, Op.intCmp, e]
end
theorem mostF_any (x y : Int) (w : World) : Calls Tryz.prog 7 #[.int .i64 x, .int .i64 y] w fun e w' => e = .returned (.int .i64 (if x > y then x else y)) ∧ w' = w := by
  by_cases h : x > y
  · have HV := hidI (if_pos h : (if x > y then x else y) = x)
    go_enter Tryz.func7, Tryz.ntmps7
    go_wp2
    go_ret
    exact ⟨ret_int (by first | rw [HV.out] | rfl | simp [h]), rfl⟩
  · have HV := hidI (if_neg h : (if x > y then x else y) = y)
    go_enter Tryz.func7, Tryz.ntmps7
    go_wp2
    go_ret
    exact ⟨ret_int (by first | rw [HV.out] | rfl | simp [h]), rfl⟩
def farT (S : List (Sta Grid)) (j : Nat) (M : Int) (t : List UInt8) : Prop := (j = 0 ∧ M = -1 ∧ t = []) ∨ (0 < j ∧ M = (sta S (j - 1)).far ∧ LstK S j t)
set_option maxHeartbeats 2000000 in
set_option maxRecDepth 100000 in
theorem sFarthestOf (s : ByteArray) (w : World) (hs : s.size ≤ 1048576) : Calls Tryz.prog 4 #[.string s] w fun e w' => Gr w w' ∧ ∃ t : List UInt8, IsFar s.data.toList t ∧ e = .returned (.tuple #[.int .i64 (farN s.data.toList : Nat), tx t, .bool (crOk s.data.toList)]) := by
  have gg := Gr.refl w
  have HA := reAll_any s w hs
  unfold RetM at HA
  cases hR : rcS s.data.toList with
  | none =>
    rw [hR] at HA
    have HO := hidI (show crOk s.data.toList = false from by unfold crOk; rw [hR]; rfl)
    have HF := hidI (show farN s.data.toList = 0 from by unfold farN; rw [hR])
    have HI := hidI (show IsFar s.data.toList [] from by unfold IsFar; rw [hR])
    clear hR
    go_enter Tryz.func4, Tryz.ntmps4
    go_wp2_with (go_at_call 6; refine HA.mono ?_; rintro e w1 ⟨g1, rfl⟩)
    have gg := gg.trans g1
    go_loopw [7, 8, 18] (fun mv fv iv wr => mv = .int .i64 (-1) ∧ fv = .string ⟨#[]⟩ ∧ iv = .int .i64 0 ∧ wr = w1) (fun _ _ _ _ => 0)
    case atStart => exact ⟨rfl, rfl, rfl, rfl⟩
    case round =>
      obtain ⟨rfl, rfl, rfl, rfl⟩ := hrel
      go_wp2
      go_ret3
      exact ⟨gg, [], HI.out, by rw [HO.out, HF.out]; rfl⟩
  | some S =>
    rw [hR] at HA
    obtain ⟨g, -, hi⟩ := rcS_inv hR
    have h0 := hi.pos
    have h300 := hi.le
    have HO := hidI (show crOk s.data.toList = true from by unfold crOk; rw [hR]; rfl)
    have HF := hidI (show farN s.data.toList = (sta S (S.length - 1)).far from by unfold farN; rw [hR]; rfl)
    have HI := hidI (fun t (h : LstK S S.length t) => show IsFar s.data.toList t from by unfold IsFar; rw [hR]; exact h)
    have HMO := hidI hi.mono
    obtain ⟨n, hn⟩ : ∃ n, n = S.length := ⟨_, rfl⟩
    rw [← hn] at h0 h300 HMO HF
    have HN := hidI hn
    clear hR hi
    have HM2 := hidI (fun (w' : World) (gB cap : Nat) (bk : Nat → Nat) (sl nx : Nat → Value) (M0 : SSt w.heap.size w' (.slice (some ⟨gB, 0, none⟩) n cap) S bk sl nx) (j : Nat) (hj : j < n) => show w'.cell? ⟨gB, j, none⟩ = some (ptrV (bk j)) ∧ w'.cell? ⟨bk j, 3, none⟩ = some (tx (txG (sta S j))) ∧ w'.cell? ⟨bk j, 4, none⟩ = some (.int .i64 (sta S j).far) from by
      subst hn
      exact ⟨M0.ptr hj, M0.cell hj 3, M0.cell hj 4⟩)
    have HAA := hidI (show Calls Tryz.prog 6 #[.string s] w fun e w' => Gr w w' ∧ ∃ gB cap bk sl nx, e = .returned (.tuple #[.slice (some ⟨gB, 0, none⟩) n cap, .bool true]) ∧ SSt w.heap.size w' (.slice (some ⟨gB, 0, none⟩) n cap) S bk sl nx from HA.mono (by
      rintro e w1 ⟨g1, v, bk, sl, nx, rfl, M0, -⟩
      subst hn
      obtain ⟨gB, cap, rfl, -, -⟩ := own_shape M0.row h0
      exact ⟨g1, gB, cap, bk, sl, nx, rfl, M0⟩))
    have HT1 := hidI (fun (M : Int) (t : List UInt8) (h : farT S n M t) => show M = (sta S (n - 1)).far ∧ LstK S n t from by
      rcases h with ⟨e, -⟩ | ⟨-, h1, h2⟩
      · omega
      · exact ⟨h1, h2⟩)
    rw [← hn] at HI
    have HSF := hidI (fun j (M : Int) (t : List UInt8) (hj : j < n) (h : farT S j M t) => show (decide (M < ((sta S j).far : Int)) = true ∧ farT S (j + 1) ((sta S j).far : Nat) (txG (sta S j))) ∨ (decide (M < ((sta S j).far : Int)) = false ∧ decide (((sta S j).far : Int) = M) = true ∧ ((decide (txG (sta S j) < t) = true ∧ farT S (j + 1) ((sta S j).far : Nat) (txG (sta S j))) ∨ (decide (txG (sta S j) < t) = false ∧ farT S (j + 1) M t))) from by
      rcases h with ⟨rfl, rfl, rfl⟩ | ⟨h1, rfl, h2⟩
      · exact .inl ⟨decide_eq_true (by omega), .inr ⟨Nat.one_pos, rfl, LstK.one⟩⟩
      · have hmo := HMO.out (j - 1) j (by omega) hj
        by_cases hlt : (sta S (j - 1)).far < (sta S j).far
        · exact .inl ⟨decide_eq_true (by omega), .inr ⟨by omega, rfl, LstK.new (by rw [hn] at HMO; exact HMO.out) (by omega) h1 hlt⟩⟩
        · have e : (sta S j).far = (sta S (j - 1)).far := by omega
          refine .inr ⟨decide_eq_false (by omega), decide_eq_true (by omega), ?_⟩
          by_cases hl : txG (sta S j) < t
          · exact .inl ⟨decide_eq_true hl, .inr ⟨by omega, rfl, h2.less e hl⟩⟩
          · exact .inr ⟨decide_eq_false hl, .inr ⟨by omega, by rw [Nat.add_sub_cancel, e], h2.stay e hl⟩⟩)
    clear HA hn
    go_enter Tryz.func4, Tryz.ntmps4
    go_wp2_with (go_at_call 6; refine HAA.out.mono ?_; rintro e w1 ⟨g1, gB, cap, bk, sl, nx, rfl, M0⟩; have gg := gg.trans g1)
    go_loopw [7, 8, 18] (fun mv fv iv wr => ∃ (j : Nat) (M : Int) (t : List UInt8), j ≤ n ∧ iv = .int .i64 j ∧ mv = .int .i64 M ∧ fv = tx t ∧ SSt w.heap.size wr (.slice (some ⟨gB, 0, none⟩) n cap) S bk sl nx ∧ Gr w wr ∧ farT S j M t) (fun _ _ iv _ => n - (intOf iv).toNat)
    case atStart => exact ⟨0, -1, [], Nat.zero_le _, rfl, rfl, rfl, M0, gg, .inl ⟨rfl, rfl, rfl⟩⟩
    case round =>
      clear M0 gg
      obtain ⟨j, M, t, hj, rfl, rfl, rfl, M0, gg, hT⟩ := hrel
      by_cases hlt : j < n
      · have HS := hidI (HSF.out j M t hlt hT)
        obtain ⟨cp, c3, c4⟩ := HM2.out _ gB cap bk sl nx M0 j hlt
        obtain ⟨b, hb⟩ : ∃ b, b = bk j := ⟨_, rfl⟩
        obtain ⟨f, hf⟩ : ∃ f, f = (sta S j).far := ⟨_, rfl⟩
        obtain ⟨u, hu⟩ : ∃ u, u = txG (sta S j) := ⟨_, rfl⟩
        rw [← hb] at cp c3 c4
        rw [← hu] at c3 HS
        rw [← hf] at c4 HS
        clear hb hf hu hT
        rcases HS.out with ⟨hg, hn⟩ | ⟨hg, hq, ⟨hl, hn⟩ | ⟨hl, hn⟩⟩
        · have HNX := hidI hn
          clear hn
          go_upto_region 6 with (first | (refine r_idx 25 _ _ (.slice (some ⟨gB, 0, none⟩) n cap) (.int .i64 j) _ rfl rfl (Tryz.psix gB n cap j hlt _) rfl ?_) | (refine r_ldc 28 _ ⟨gB, j, none⟩ (ptrV b) rfl (Tryz.isAgg28 _) cp rfl ?_))
          go_step
          refine r_val (ptrV b) rfl rfl ?_
          simp only [Act.put, List.setIfInBounds_toArray, List.set_cons_succ, List.set_cons_zero]
          refine r_nil _ ⟨b, 0, none⟩ rfl rfl ?_
          simp only [Act.put, List.setIfInBounds_toArray, List.set_cons_succ, List.set_cons_zero]
          refine r_fld 34 _ 2 (.pointer (some ⟨b, 0, none⟩)) (.pointer (some ⟨b, 4, none⟩)) rfl (Tryz.rf2 _ _) rfl ?_
          simp only [Act.put, List.setIfInBounds_toArray, List.set_cons_succ, List.set_cons_zero]
          refine r_ldc 3 _ ⟨b, 4, none⟩ (.int .i64 f) rfl (Tryz.isAgg3 _) c4 rfl ?_
          simp only [Act.put, List.setIfInBounds_toArray, List.set_cons_succ, List.set_cons_zero]
          refine r_val (.int .i64 M) rfl rfl ?_
          simp only [Act.put, List.setIfInBounds_toArray, List.set_cons_succ, List.set_cons_zero]
          refine r_val (.bool true) (e_gtrF _ _ (f : Int) M true rfl rfl hg) rfl ?_
          simp only [Act.put, List.setIfInBounds_toArray, List.set_cons_succ, List.set_cons_zero]
          refine r_val (.bool true) rfl rfl ?_
          simp only [Act.put, List.setIfInBounds_toArray, List.set_cons_succ, List.set_cons_zero]
          go_wp2_with (first | (refine r_nil _ ⟨b, 0, none⟩ rfl rfl ?_) | (refine r_fld 34 _ 2 (.pointer (some ⟨b, 0, none⟩)) (.pointer (some ⟨b, 4, none⟩)) rfl (Tryz.rf2 _ _) rfl ?_) | (refine r_ldc 3 _ ⟨b, 4, none⟩ (.int .i64 f) rfl (Tryz.isAgg3 _) c4 rfl ?_) | (refine r_fld 34 _ 1 (.pointer (some ⟨b, 0, none⟩)) (.pointer (some ⟨b, 3, none⟩)) rfl (Tryz.rf1 _ _) rfl ?_) | (refine r_ldc 9 _ ⟨b, 3, none⟩ (tx u) rfl (Tryz.isAgg9 _) c3 rfl ?_))
          go_roundw
          case rel => exact ⟨j + 1, f, u, by omega, by go_num, rfl, rfl, M0, gg, HNX.out⟩
          case measure => simp [intOf]; omega
        · have HNX := hidI hn
          clear hn
          go_upto_region 6 with (first | (refine r_idx 25 _ _ (.slice (some ⟨gB, 0, none⟩) n cap) (.int .i64 j) _ rfl rfl (Tryz.psix gB n cap j hlt _) rfl ?_) | (refine r_ldc 28 _ ⟨gB, j, none⟩ (ptrV b) rfl (Tryz.isAgg28 _) cp rfl ?_))
          go_step
          refine r_val (ptrV b) rfl rfl ?_
          simp only [Act.put, List.setIfInBounds_toArray, List.set_cons_succ, List.set_cons_zero]
          refine r_nil _ ⟨b, 0, none⟩ rfl rfl ?_
          simp only [Act.put, List.setIfInBounds_toArray, List.set_cons_succ, List.set_cons_zero]
          refine r_fld 34 _ 2 (.pointer (some ⟨b, 0, none⟩)) (.pointer (some ⟨b, 4, none⟩)) rfl (Tryz.rf2 _ _) rfl ?_
          simp only [Act.put, List.setIfInBounds_toArray, List.set_cons_succ, List.set_cons_zero]
          refine r_ldc 3 _ ⟨b, 4, none⟩ (.int .i64 f) rfl (Tryz.isAgg3 _) c4 rfl ?_
          simp only [Act.put, List.setIfInBounds_toArray, List.set_cons_succ, List.set_cons_zero]
          refine r_val (.int .i64 M) rfl rfl ?_
          simp only [Act.put, List.setIfInBounds_toArray, List.set_cons_succ, List.set_cons_zero]
          refine r_val (.bool false) (e_gtrF _ _ (f : Int) M false rfl rfl hg) rfl ?_
          simp only [Act.put, List.setIfInBounds_toArray, List.set_cons_succ, List.set_cons_zero]
          refine r_val (.bool false) rfl rfl ?_
          simp only [Act.put, List.setIfInBounds_toArray, List.set_cons_succ, List.set_cons_zero]
          refine r_val (ptrV b) rfl rfl ?_
          simp only [Act.put, List.setIfInBounds_toArray, List.set_cons_succ, List.set_cons_zero]
          refine r_nil _ ⟨b, 0, none⟩ rfl rfl ?_
          simp only [Act.put, List.setIfInBounds_toArray, List.set_cons_succ, List.set_cons_zero]
          refine r_fld 34 _ 2 (.pointer (some ⟨b, 0, none⟩)) (.pointer (some ⟨b, 4, none⟩)) rfl (Tryz.rf2 _ _) rfl ?_
          simp only [Act.put, List.setIfInBounds_toArray, List.set_cons_succ, List.set_cons_zero]
          refine r_ldc 3 _ ⟨b, 4, none⟩ (.int .i64 f) rfl (Tryz.isAgg3 _) c4 rfl ?_
          simp only [Act.put, List.setIfInBounds_toArray, List.set_cons_succ, List.set_cons_zero]
          refine r_val (.int .i64 M) rfl rfl ?_
          simp only [Act.put, List.setIfInBounds_toArray, List.set_cons_succ, List.set_cons_zero]
          refine r_val (.bool true) (e_eqlF _ _ (f : Int) M true rfl rfl hq) rfl ?_
          simp only [Act.put, List.setIfInBounds_toArray, List.set_cons_succ, List.set_cons_zero]
          refine r_val (.bool true) rfl rfl ?_
          simp only [Act.put, List.setIfInBounds_toArray, List.set_cons_succ, List.set_cons_zero]
          refine r_val (ptrV b) rfl rfl ?_
          simp only [Act.put, List.setIfInBounds_toArray, List.set_cons_succ, List.set_cons_zero]
          refine r_nil _ ⟨b, 0, none⟩ rfl rfl ?_
          simp only [Act.put, List.setIfInBounds_toArray, List.set_cons_succ, List.set_cons_zero]
          refine r_fld 34 _ 1 (.pointer (some ⟨b, 0, none⟩)) (.pointer (some ⟨b, 3, none⟩)) rfl (Tryz.rf1 _ _) rfl ?_
          simp only [Act.put, List.setIfInBounds_toArray, List.set_cons_succ, List.set_cons_zero]
          refine r_ldc 9 _ ⟨b, 3, none⟩ (tx u) rfl (Tryz.isAgg9 _) c3 rfl ?_
          simp only [Act.put, List.setIfInBounds_toArray, List.set_cons_succ, List.set_cons_zero]
          refine r_val (tx t) rfl rfl ?_
          simp only [Act.put, List.setIfInBounds_toArray, List.set_cons_succ, List.set_cons_zero]
          refine r_binC .lss _ _ (tx u) (tx t) (.bool true) rfl rfl (fun w => by unfold tx; rfl) (lsT_run _ _ u t true hl _) rfl ?_
          simp only [Act.put, List.setIfInBounds_toArray, List.set_cons_succ, List.set_cons_zero]
          refine r_val (.bool true) rfl rfl ?_
          simp only [Act.put, List.setIfInBounds_toArray, List.set_cons_succ, List.set_cons_zero]
          refine r_val (.bool true) rfl rfl ?_
          simp only [Act.put, List.setIfInBounds_toArray, List.set_cons_succ, List.set_cons_zero]
          go_wp2_with (first | (refine r_nil _ ⟨b, 0, none⟩ rfl rfl ?_) | (refine r_fld 34 _ 2 (.pointer (some ⟨b, 0, none⟩)) (.pointer (some ⟨b, 4, none⟩)) rfl (Tryz.rf2 _ _) rfl ?_) | (refine r_ldc 3 _ ⟨b, 4, none⟩ (.int .i64 f) rfl (Tryz.isAgg3 _) c4 rfl ?_) | (refine r_fld 34 _ 1 (.pointer (some ⟨b, 0, none⟩)) (.pointer (some ⟨b, 3, none⟩)) rfl (Tryz.rf1 _ _) rfl ?_) | (refine r_ldc 9 _ ⟨b, 3, none⟩ (tx u) rfl (Tryz.isAgg9 _) c3 rfl ?_))
          go_roundw
          case rel => exact ⟨j + 1, f, u, by omega, by go_num, rfl, rfl, M0, gg, HNX.out⟩
          case measure => simp [intOf]; omega
        · have HNX := hidI hn
          clear hn
          go_upto_region 6 with (first | (refine r_idx 25 _ _ (.slice (some ⟨gB, 0, none⟩) n cap) (.int .i64 j) _ rfl rfl (Tryz.psix gB n cap j hlt _) rfl ?_) | (refine r_ldc 28 _ ⟨gB, j, none⟩ (ptrV b) rfl (Tryz.isAgg28 _) cp rfl ?_))
          go_step
          refine r_val (ptrV b) rfl rfl ?_
          simp only [Act.put, List.setIfInBounds_toArray, List.set_cons_succ, List.set_cons_zero]
          refine r_nil _ ⟨b, 0, none⟩ rfl rfl ?_
          simp only [Act.put, List.setIfInBounds_toArray, List.set_cons_succ, List.set_cons_zero]
          refine r_fld 34 _ 2 (.pointer (some ⟨b, 0, none⟩)) (.pointer (some ⟨b, 4, none⟩)) rfl (Tryz.rf2 _ _) rfl ?_
          simp only [Act.put, List.setIfInBounds_toArray, List.set_cons_succ, List.set_cons_zero]
          refine r_ldc 3 _ ⟨b, 4, none⟩ (.int .i64 f) rfl (Tryz.isAgg3 _) c4 rfl ?_
          simp only [Act.put, List.setIfInBounds_toArray, List.set_cons_succ, List.set_cons_zero]
          refine r_val (.int .i64 M) rfl rfl ?_
          simp only [Act.put, List.setIfInBounds_toArray, List.set_cons_succ, List.set_cons_zero]
          refine r_val (.bool false) (e_gtrF _ _ (f : Int) M false rfl rfl hg) rfl ?_
          simp only [Act.put, List.setIfInBounds_toArray, List.set_cons_succ, List.set_cons_zero]
          refine r_val (.bool false) rfl rfl ?_
          simp only [Act.put, List.setIfInBounds_toArray, List.set_cons_succ, List.set_cons_zero]
          refine r_val (ptrV b) rfl rfl ?_
          simp only [Act.put, List.setIfInBounds_toArray, List.set_cons_succ, List.set_cons_zero]
          refine r_nil _ ⟨b, 0, none⟩ rfl rfl ?_
          simp only [Act.put, List.setIfInBounds_toArray, List.set_cons_succ, List.set_cons_zero]
          refine r_fld 34 _ 2 (.pointer (some ⟨b, 0, none⟩)) (.pointer (some ⟨b, 4, none⟩)) rfl (Tryz.rf2 _ _) rfl ?_
          simp only [Act.put, List.setIfInBounds_toArray, List.set_cons_succ, List.set_cons_zero]
          refine r_ldc 3 _ ⟨b, 4, none⟩ (.int .i64 f) rfl (Tryz.isAgg3 _) c4 rfl ?_
          simp only [Act.put, List.setIfInBounds_toArray, List.set_cons_succ, List.set_cons_zero]
          refine r_val (.int .i64 M) rfl rfl ?_
          simp only [Act.put, List.setIfInBounds_toArray, List.set_cons_succ, List.set_cons_zero]
          refine r_val (.bool true) (e_eqlF _ _ (f : Int) M true rfl rfl hq) rfl ?_
          simp only [Act.put, List.setIfInBounds_toArray, List.set_cons_succ, List.set_cons_zero]
          refine r_val (.bool true) rfl rfl ?_
          simp only [Act.put, List.setIfInBounds_toArray, List.set_cons_succ, List.set_cons_zero]
          refine r_val (ptrV b) rfl rfl ?_
          simp only [Act.put, List.setIfInBounds_toArray, List.set_cons_succ, List.set_cons_zero]
          refine r_nil _ ⟨b, 0, none⟩ rfl rfl ?_
          simp only [Act.put, List.setIfInBounds_toArray, List.set_cons_succ, List.set_cons_zero]
          refine r_fld 34 _ 1 (.pointer (some ⟨b, 0, none⟩)) (.pointer (some ⟨b, 3, none⟩)) rfl (Tryz.rf1 _ _) rfl ?_
          simp only [Act.put, List.setIfInBounds_toArray, List.set_cons_succ, List.set_cons_zero]
          refine r_ldc 9 _ ⟨b, 3, none⟩ (tx u) rfl (Tryz.isAgg9 _) c3 rfl ?_
          simp only [Act.put, List.setIfInBounds_toArray, List.set_cons_succ, List.set_cons_zero]
          refine r_val (tx t) rfl rfl ?_
          simp only [Act.put, List.setIfInBounds_toArray, List.set_cons_succ, List.set_cons_zero]
          refine r_binC .lss _ _ (tx u) (tx t) (.bool false) rfl rfl (fun w => by unfold tx; rfl) (lsT_run _ _ u t false hl _) rfl ?_
          simp only [Act.put, List.setIfInBounds_toArray, List.set_cons_succ, List.set_cons_zero]
          refine r_val (.bool false) rfl rfl ?_
          simp only [Act.put, List.setIfInBounds_toArray, List.set_cons_succ, List.set_cons_zero]
          refine r_val (.bool false) rfl rfl ?_
          simp only [Act.put, List.setIfInBounds_toArray, List.set_cons_succ, List.set_cons_zero]
          go_wp2
          go_roundw
          case rel => exact ⟨j + 1, M, t, by omega, by go_num, rfl, rfl, M0, gg, HNX.out⟩
          case measure => simp [intOf]; omega
      · obtain rfl : j = n := by omega
        obtain ⟨hM, hL⟩ := HT1.out M t hT
        have HIT := hidI (HI.out t hL)
        have HX := hidI (show (if M > 0 then M else 0) = ((sta S (j - 1)).far : Int) from by rw [hM]; split <;> omega)
        clear hM hL hT
        go_wp2_with (go_at_call 7; refine (mostF_any _ _ _).mono ?_; rintro e wSame ⟨rfl, rfl⟩; rw [HX.out])
        go_ret3
        exact ⟨gg, t, HIT.out, by rw [HO.out, HF.out]; rfl⟩
set_option maxHeartbeats 2000000 in
set_option maxRecDepth 100000 in
theorem lawFarthestOf (s : ByteArray) (w : World) (hm : ML w) : Calls Tryz.prog 3 #[.string s] w (Ret (.bool true) w) := by
  have gg := Gr.refl w
  by_cases hs : 1048576 < s.size
  · go_enter Tryz.func3, Tryz.ntmps3
    go_wp2
    go_ret
    exact ⟨rfl, gg⟩
  · have hs' : s.size ≤ 1048576 := by omega
    have HS := hidI (fun w => sFarthestOf s w hs')
    have HI := hidI (fun w hm => iFarthestOf s w hm hs')
    have HU := hidI (fun (t u : List UInt8) (h : IsFar s.data.toList t) (g : IsFar s.data.toList u) => h.uniq g)
    obtain ⟨d, hd⟩ : ∃ d, d = farN s.data.toList := ⟨_, rfl⟩
    obtain ⟨ok, hok⟩ : ∃ ok, ok = crOk s.data.toList := ⟨_, rfl⟩
    rw [← hd, ← hok] at HS HI
    clear hd hok hs
    cases ok <;>
    · go_enter Tryz.func3, Tryz.ntmps3
      go_wp2_with (first | (go_at_call 4; refine (HS.out _).mono ?_; rintro e w1 ⟨g1, t, ht, rfl⟩; have gg := gg.trans g1; have HT := hidI ht; clear ht) | (go_at_call 5; refine (HI.out _ (gg.ml hm)).mono ?_; rintro e w2 ⟨g2, u, hu, rfl⟩; have gg := gg.trans g2; obtain rfl := HU.out _ _ HT.out hu; unfold tx))
      go_ret
      exact ⟨rfl, gg⟩
end Go.Proofs.YtpdmfbhjneodeaaGreatDoor
