/-
  The order of a word: in the program and in the model; and the law.
-/
import Derived.Test.YtbppbbkcampglaaGreatDoorMachR
import Derived.Test.YtbppbbkcampglaaGreatDoorMachN
namespace Go.Proofs.YtbppbbkcampglaaGreatDoor
open Go.RowKit
/-- An arrangement's cells. -/
def avA (a : List Nat) : Array Value := (intsV (zz a)).toArray
theorem avA_size (a : List Nat) : (avA a).size = a.length := by unfold avA; rw [List.size_toArray]; unfold intsV; rw [List.length_map, zz_length]
theorem avA_set (a : List Nat) (k x : Nat) : (avA a).setIfInBounds k (.int .i64 (x : Int)) = avA (a.set k x) := by
  unfold avA
  rw [List.setIfInBounds_toArray, intsV_set, zz_set]
theorem avA_one (a : List Nat) : ∀ v ∈ (avA a).toList, v.oneCell' = true := intsV_one _
theorem avA_get (a : List Nat) (k : Nat) (h : k < a.length) : (avA a)[k]? = some (.int .i64 ((a.getD k 0 : Nat) : Int)) := by
  unfold avA intsV zz
  rw [List.getElem?_toArray, List.map_map, List.getElem?_map, List.getElem?_eq_getElem h, List.getD_eq_getElem?_getD, List.getElem?_eq_getElem h]
  rfl
theorem run_equal_arrI {P : Program} {w : World} (d : Nat) (t e : TypeId) (n : Nat) (hu : P.underlying t = some (.array n e)) (he : P.underlying e = some (.int .i64)) (hs : ∀ w, (sizeOf e).run P w = .ok 1 w) (ha : ∀ w, (isAgg e).run P w = .ok false w)
    (xs ys : Array Value) (f g : Nat → Int) (hx : ∀ i, i < n → xs[i]? = some (.int .i64 (f i))) (hy : ∀ i, i < n → ys[i]? = some (.int .i64 (g i))) :
    (Op.equalIn (d + 2) t (.agg xs) (.agg ys)).run P w = .ok ((List.range n).all fun i => f i == g i) w := by
  unfold Op.equalIn
  simp only [Sem.run_bind, run_underlying hu, Result.andThen_ok, hs]
  rw [run_forIn_all n _ (fun i => f i == g i)]
  · simp only [Result.andThen_ok]
    cases hc : (List.range n).all fun i => f i == g i
    · simp [Sem.run_pure]
    · simp [Sem.run_pure]
  · intro i hi s
    have p1 : (part e xs (i * 1)).run P w = .ok (.int .i64 (f i)) w := by
      unfold part
      simp [Sem.run_bind, ha, hx i hi, Sem.run_pure, Result.andThen]
    have p2 : (part e ys (i * 1)).run P w = .ok (.int .i64 (g i)) w := by
      unfold part
      simp [Sem.run_bind, ha, hy i hi, Sem.run_pure, Result.andThen]
    simp only [Sem.run_bind, p1, p2, Result.andThen_ok]
    have p3 : (Op.equalIn (d + 1) e (.int .i64 (f i)) (.int .i64 (g i))).run P w = .ok (f i == g i) w := by
      unfold Op.equalIn
      simp [Sem.run_bind, run_underlying he, Sem.run_pure, Result.andThen]
    rw [p3]
    cases hb : f i == g i
    · simp [Sem.run_pure, Result.andThen]
    · simp [Sem.run_pure, Result.andThen]
section
variable {P : Program} {w : World} {ops : Array Oper} {rest : List Oper} {a : Act} {Q : Exit → Act → World → Prop} {dst : Option Tmp} {ty : TypeId} {pos : String} {aft : Array Edge} {gd : Option (Nat × Bool)}
/-- Two arrangements compared. -/
theorem r_neq_av (t e : TypeId) (x y : Operand) (yt : TypeId) (hu : P.underlying t = some (.array 36 e)) (he : P.underlying e = some (.int .i64)) (hs : ∀ w, (sizeOf e).run P w = .ok 1 w) (ha : ∀ w, (isAgg e).run P w = .ok false w) (hm : P.eqGuardType P.depth t = false)
    (c d : List Nat) (hc : c.length = 36) (hd : d.length = 36) (v : Bool) (hv : decide (c = d) = !v) (hx0 : a.eval x = .agg (avA c)) (hy0 : a.eval y = .agg (avA d))
    (hgd : Region.wanted ⟨dst, .binOp .neq t x y yt, ty, pos, aft, gd⟩ (yielded ops a.tmps) = true)
    (h : wpList P ops Q rest (a.put dst (.bool v)) w) : wpList P ops Q (⟨dst, .binOp .neq t x y yt, ty, pos, aft, gd⟩ :: rest) a w :=
  wpList_want hgd fun _ hK => by
    have e1 : ((List.range 36).all fun i => ((c.getD i 0 : Nat) : Int) == ((d.getD i 0 : Nat) : Int)) = decide (c = d) := by
      rw [Bool.eq_iff_iff, decide_eq_true_eq, List.all_eq_true]
      constructor
      · intro h
        apply List.ext_getElem (by rw [hc, hd])
        intro i h1 h2
        have := h i (List.mem_range.2 (by omega))
        rw [beq_iff_eq, List.getD_eq_getElem?_getD, List.getD_eq_getElem?_getD, List.getElem?_eq_getElem h1, List.getElem?_eq_getElem h2] at this
        exact Int.ofNat_inj.1 this
      · intro h i _
        rw [h]
        simp
    have hr := run_equal_arrI (P := P) (w := w) 9998 t e 36 hu he hs ha (avA c) (avA d) (fun i => ((c.getD i 0 : Nat) : Int)) (fun i => ((d.getD i 0 : Nat) : Int)) (fun i hi => avA_get c i (by omega)) (fun i hi => avA_get d i (by omega))
    rw [e1, hv] at hr
    unfold Oper.wp execOp
    simp only [hx0, hy0, Sem.run_bind, run_eqGuard_agg (w := w) .neq t x y (avA c) (avA d) hm, Result.andThen_ok, run_neq_struct, hr, Sem.run_pure, Oper.upon, Bool.not_not]
    exact hK _ _ h
end
theorem Tryz.azero (w : World) : (zeroValue 65).run Tryz.prog w = .ok (.agg (avA (List.replicate 36 0))) w := by kernel_rfl
theorem Tryz.asize (a : List Nat) (h : a.length = 36) (w : World) : (sizeOf 65).run Tryz.prog w = .ok (avA a).size w := by
  rw [avA_size, h]
  have : (sizeOf 65).run Tryz.prog w = .ok 36 w := by kernel_rfl
  exact this
theorem Tryz.ainfo (a : List Nat) (h : a.length = 36) : (Tryz.prog.info? 65).map (·.size) = some (avA a).size := by
  rw [avA_size, h]
  have : (Tryz.prog.info? 65).map (·.size) = some 36 := by kernel_rfl
  exact this
theorem Tryz.aix (B k : Nat) (hk : k < 36) (w : World) : (Instr.indexAt 65 (.pointer (some ⟨B, 0, none⟩)) (.int .i64 k)).run Tryz.prog w = .ok (.pointer (some ⟨B, k, none⟩)) w := by
  have hl : Tryz.prog.arrayLen 65 = 36 := by kernel_rfl
  have he : Tryz.prog.elem 65 = 3 := by kernel_rfl
  rw [run_indexAt_array w 65 ⟨B, 0, none⟩ .i64 k (by rw [hl, he]; exact Tryz.underlying65), if_pos (by rw [hl]; omega), he]
  have hs : (sizeOf 3).run Tryz.prog w = .ok 1 w := by kernel_rfl
  simp [hs, Result.andThen, Addr.add]
  exact fun h => h.symm
def peV (B : Nat) : Value := .func (.func 77) #[] #[.pointer (some ⟨B, 0, none⟩)]
set_option maxHeartbeats 600000 in
set_option maxRecDepth 100000 in
theorem permuting1_any (p a : List Nat) (B b0 : Nat) (pv : Value) (w : World) (hlt0 : ∀ i, i < p.length → p.getD i 0 < p.length) (h36 : p.length ≤ 36) (ha : a.length = 36) (hb : Blk w B #[pv] 25) (hown : w.ownsRow b0 3 1 pv p.length (intsV (zz p))) :
    Calls Tryz.prog 77 #[.agg (avA a), .pointer (some ⟨B, 0, none⟩)] w (Ret (.agg (avA (arN p a))) w) := by
  have gg := Gr.refl w
  obtain ⟨pp, m, cp, rfl⟩ := own_slice hown
  obtain rfl : m = p.length := own_len hown
  obtain ⟨m, hm⟩ : ∃ m, m = p.length := ⟨_, rfl⟩
  have HE := hidI (show arTo p a m = arN p a from by rw [hm]; rfl)
  have HP := hidI hown
  have HLT := hidI hlt0
  have HM := hidI hm.symm
  rw [← hm] at h36 HP HLT hb
  obtain ⟨z, hz⟩ : ∃ z, z = List.replicate 36 0 := ⟨_, rfl⟩
  have HZ := hidI (show arTo p a 0 = z from hz.symm)
  have HAZ := hidI (fun (w : World) => hz ▸ Tryz.azero w : ∀ w : World, (zeroValue 65).run Tryz.prog w = .ok (.agg (avA z)) w)
  have hzl : z.length = 36 := by rw [hz]; simp
  have HAL := hidI (fun j => arTo_length p a j)
  clear hown hlt0 hm hz
  go_enter Tryz.func77, Tryz.ntmps77
  go_wp2_with (first | (refine r_box 65 _ (avA a) rfl rfl ?_; intro w1 B1 N1; have g1 := N1.gr; have b1 : Blk w1 B1 (avA a) 65 := N1.blk; have l1 := N1.lo; have t1 := N1.hi; have z1 := g1.size; have hb := g1.blk hb; have gg := gg.trans g1; clear N1) | (refine r_alloc (dst := some 3) 65 _ HAZ.out rfl ?_; intro w2 B2 N2; have g2 := N2.gr; have b2 : Blk w2 B2 (avA z) 65 := N2.blk; have l2 := N2.lo; have t2 := N2.hi; have z2 := g2.size; have b1 := g2.blk b1; have hb := g2.blk hb; have gg := gg.trans g2; clear N2) | (refine r_alloc (dst := some 4) 65 _ HAZ.out rfl ?_; intro w3 B3 N3; have g3 := N3.gr; have b3 : Blk w3 B3 (avA z) 65 := N3.blk; have l3 := N3.lo; have t3 := N3.hi; have z3 := g3.size; have b1 := g3.blk b1; have b2 := g3.blk b2; have hb := g3.blk hb; have gg := gg.trans g3; clear N3) | (refine r_ldc 25 (.tmp 1) ⟨B, 0, none⟩ (.slice pp m cp) rfl (Tryz.isAgg25 _) (box_cell hb) rfl ?_))
  have b3 : Blk w3 B3 (avA (arTo p a 0)) 65 := by rw [HZ.out]; exact b3
  have n13 : B1 ≠ B3 := by omega
  have n23 : B2 ≠ B3 := by omega
  have lo3 : w.heap.size ≤ B3 := by omega
  have lo2 : w.heap.size ≤ B2 := by omega
  go_loopw [9] (fun iv wr => ∃ k : Nat, k ≤ m ∧ iv = .int .i64 k ∧ Blk wr B1 (avA a) 65 ∧ Blk wr B2 (avA z) 65 ∧ Blk wr B3 (avA (arTo p a k)) 65 ∧ Gr w wr) (fun iv _ => m - (intOf iv).toNat)
  case atStart => exact ⟨0, Nat.zero_le _, rfl, b1, b2, b3, gg⟩
  case round =>
    clear b1 b2 b3 gg
    obtain ⟨k, hk, rfl, b1, b2, b3, gg⟩ := hrel
    by_cases hlt : k < m
    · have own := gg.row HP.out
      obtain ⟨G, c9, e9, -, -⟩ := own_shape own (by omega)
      cases e9
      obtain ⟨x, hx⟩ : ∃ x, x = p.getD k 0 := ⟨_, rfl⟩
      have cx := own_int own k hlt (by rw [zz_length, HM.out])
      rw [zz_get (by rw [HM.out]; exact hlt), ← hx] at cx
      have hxm := HLT.out k hlt
      rw [← hx] at hxm
      have hx36 : x < 36 := by omega
      have hk36 : k < 36 := by omega
      obtain ⟨y, hy⟩ : ∃ y, y = a.getD k 0 := ⟨_, rfl⟩
      have cy : wr.cell? ⟨B1, k, none⟩ = some (.int .i64 (y : Nat)) := by rw [b1.cell k, avA_get a k (by omega), hy]
      have HS := hidI (show (avA (arTo p a k)).setIfInBounds x (.int .i64 (y : Nat)) = avA (arTo p a (k + 1)) from by rw [avA_set, arTo, ← hx, ← hy])
      have HSZ := hidI (show x < (avA (arTo p a k)).size from by rw [avA_size, HAL.out]; exact hx36)
      clear hx hy own
      go_wp2_with (first | (refine r_idx 25 _ _ (.slice (some ⟨G, 0, none⟩) m cp) (.int .i64 k) _ rfl rfl (Tryz.nsix G m cp k hlt _) rfl ?_) | (refine r_ldc 3 _ ⟨G, k, none⟩ (.int .i64 x) rfl (Tryz.isAgg3 _) cx rfl ?_) | (refine r_idx 65 _ _ (.pointer (some ⟨B1, 0, none⟩)) (.int .i64 k) _ rfl rfl (Tryz.aix B1 k hk36 _) rfl ?_) | (refine r_ldc 3 _ ⟨B1, k, none⟩ (.int .i64 y) rfl (Tryz.isAgg3 _) cy rfl ?_) | (refine r_idx 65 _ _ (.pointer (some ⟨B3, 0, none⟩)) (.int .i64 x) _ rfl rfl (Tryz.aix B3 x hx36 _) rfl ?_) | (refine r_store_cell 3 65 _ _ B3 x rfl (.int .i64 (y : Nat)) rfl _ b3 HSZ.out Tryz.sizeOf3 rfl rfl ?_; intro w4 u4 b34; rw [HS.out] at b34))
      have b14 := u4.blk b1 n13
      have b24 := u4.blk b2 n23
      have gg4 := u4.gr gg lo3
      go_roundw
      case rel => exact ⟨k + 1, by omega, by go_num, b14, b24, b34, gg4⟩
      case measure => simp [intOf]; omega
    · obtain rfl : k = m := by omega
      have hal := HAL.out k
      clear hlt
      go_wp2_with (first | (refine r_load_row 65 _ _ rfl _ _ _ b3 Tryz.underlying65 rfl (Tryz.ainfo _ hal) rfl ?_) | (refine r_store_row 65 65 _ _ B2 rfl (avA (arTo p a k)) _ rfl b2 (Tryz.asize _ hal) (by rw [avA_size, avA_size, hal, hzl]) (avA_one _) rfl ?_; intro w5 u5 b25; have gg := u5.gr gg lo2))
      refine bodyPost_ret (results_row rfl _ _ _ _ _ _ rfl b25 Tryz.underlying65 rfl (Tryz.ainfo _ hal)) rfl ⟨by rw [HE.out], gg⟩
set_option maxHeartbeats 600000 in
set_option maxRecDepth 100000 in
theorem permuting_any (pp : Option Addr) (n c : Nat) (w : World) : Calls Tryz.prog 48 #[.slice pp n c] w fun e w' => Gr w w' ∧ ∃ B, e = .returned (peV B) ∧ Blk w' B #[.slice pp n c] 25 := by
  have gg := Gr.refl w
  go_enter Tryz.func48, Tryz.ntmps48
  go_wp2_with (refine r_box1 25 _ (.slice pp n c) rfl (fun _ => rfl) rfl ?_; intro w1 B1 N1; have g1 := N1.gr; have b1 : Blk w1 B1 #[.slice pp n c] 25 := N1.blk; have gg := gg.trans g1; clear N1)
  go_ret
  exact ⟨gg, B1, rfl, b1⟩
theorem Tryz.aguard : Tryz.prog.eqGuardType Tryz.prog.depth 65 = false := by kernel_rfl
set_option maxHeartbeats 600000 in
set_option maxRecDepth 100000 in
theorem orderOf_any (p : List Nat) (B b0 : Nat) (pv : Value) (w : World) (hp : Prm p) (h36 : p.length ≤ 36) (hb : Blk w B #[pv] 25) (hown : w.ownsRow b0 3 1 pv p.length (intsV (zz p))) :
    Calls Tryz.prog 47 #[.agg (avA (arT p 0)), peV B] w (Ret (.int .i64 (ordP p)) w) := by
  have gg := Gr.refl w
  have HCL := hidI (fun (t : Nat) (w0 : World) (g : Gr w w0) => show Calls Tryz.prog 77 #[.agg (avA (arT p t)), .pointer (some ⟨B, 0, none⟩)] w0 (Ret (.agg (avA (arT p (t + 1)))) w0) from permuting1_any p (arT p t) B b0 pv w0 hp.lt h36 (arT_length p t) (g.blk hb) (g.row hown))
  have HST := hidI (fun t => arT_start hp h36 t)
  have hN := ordP_pos hp
  have hN2 : ordP p ≤ 2 ^ 36 := ordP_le hp h36 _
  have HAL := hidI (fun t => arT_length p t)
  obtain ⟨N, hNe⟩ : ∃ N, N = ordP p := ⟨_, rfl⟩
  rw [← hNe] at HST hN hN2 ⊢
  have hal0 := HAL.out 0
  obtain ⟨a0, ha0⟩ : ∃ a0, a0 = arT p 0 := ⟨_, rfl⟩
  have HCL0 := hidI (fun (w0 : World) (g : Gr w w0) => show Calls Tryz.prog 77 #[.agg (avA a0), .pointer (some ⟨B, 0, none⟩)] w0 (Ret (.agg (avA (arT p 1))) w0) from ha0 ▸ HCL.out 0 w0 g)
  rw [← ha0] at HST hal0 ⊢
  obtain ⟨z, hz⟩ : ∃ z, z = List.replicate 36 0 := ⟨_, rfl⟩
  have HAZ := hidI (fun (w : World) => hz ▸ Tryz.azero w : ∀ w : World, (zeroValue 65).run Tryz.prog w = .ok (.agg (avA z)) w)
  have hzl : z.length = 36 := by rw [hz]; simp
  have hal1 := HAL.out 1
  have HDN := hidI (show N ∣ N from Nat.dvd_refl N)
  have HLE := hidI (fun t (h1 : 1 ≤ t) (h2 : N ∣ t) => Nat.le_of_dvd h1 h2)
  clear hp h36 hb hown hNe ha0 hz
  go_enter Tryz.func47, Tryz.ntmps47
  go_wp2_with (first | (refine r_box 65 _ (avA a0) rfl rfl ?_; intro w1 B1 N1; have g1 := N1.gr; have b1 : Blk w1 B1 (avA a0) 65 := N1.blk; have l1 := N1.lo; have t1 := N1.hi; have z1 := g1.size; have gg := gg.trans g1; clear N1) | (refine r_load_row 65 _ _ rfl _ _ _ b1 Tryz.underlying65 rfl (Tryz.ainfo _ hal0) rfl ?_) | (refine r_callc 77 (.tmp 7) [.tmp 8] _ [.agg (avA a0)] [.pointer (some ⟨B, 0, none⟩)] (.agg (avA (arT p 1))) (fun w' => Gr w1 w') Tryz.call77 rfl rfl rfl (HCL0.out w1 gg) ?_; intro w2 g2; have b1 := g2.blk b1; have gg := gg.trans g2; have z2 := g2.size) | (refine r_alloc 65 _ HAZ.out rfl ?_; intro w3 B3 N3; have g3 := N3.gr; have b3 : Blk w3 B3 (avA z) 65 := N3.blk; have l3 := N3.lo; have t3 := N3.hi; have z3 := g3.size; have b1 := g3.blk b1; have gg := gg.trans g3; clear N3) | (refine r_store_row 65 65 _ _ B3 rfl (avA (arT p 1)) _ rfl b3 (Tryz.asize _ hal1) (by rw [avA_size, avA_size, hal1, hzl]) (avA_one _) rfl ?_; intro w4 u4 b34; have b1 := u4.blk b1 (by omega); have gg := u4.gr gg (by omega)))
  have lo1 : w.heap.size ≤ B1 := by omega
  have n13 : B1 < B3 := by omega
  simp only [Act.put, List.setIfInBounds_toArray, List.set_cons_succ, List.set_cons_zero]
  go_loopw [5, 6] (fun tv vv wr => ∃ t Bv : Nat, 1 ≤ t ∧ t ≤ N ∧ tv = .int .i64 t ∧ vv = .pointer (some ⟨Bv, 0, none⟩) ∧ B1 < Bv ∧ Blk wr Bv (avA (arT p t)) 65 ∧ Blk wr B1 (avA a0) 65 ∧ Gr w wr) (fun tv _ _ => N - (intOf tv).toNat)
  case atStart => exact ⟨1, B3, Nat.le_refl _, hN, rfl, rfl, n13, b34, b1, gg⟩
  case round =>
    clear b34 b1 gg n13
    obtain ⟨t, Bv, ht1, htN, rfl, rfl, hBv, bv, b1, gg⟩ := hrel
    have zr := gg.size
    have halt := HAL.out t
    have halt1 := HAL.out (t + 1)
    have tbv := bv.lt
    by_cases hd : N ∣ t
    · have hle := HLE.out t ht1 hd
      have hdec : decide (arT p t = a0) = !false := by rw [decide_eq_true ((HST.out t).2 hd)]; rfl
      obtain rfl : t = N := by omega
      clear hd
      go_wp2_with (first | (refine r_load_row 65 (.tmp 6) _ rfl _ _ _ bv Tryz.underlying65 rfl (Tryz.ainfo _ halt) rfl ?_) | (refine r_load_row 65 (.tmp 2) _ rfl _ _ _ b1 Tryz.underlying65 rfl (Tryz.ainfo _ hal0) rfl ?_) | (refine r_neq_av 65 3 _ _ _ Tryz.underlying65 Tryz.underlying3 Tryz.sizeOf3 Tryz.isAgg3 Tryz.aguard (arT p t) a0 halt hal0 false hdec rfl rfl rfl ?_))
      go_ret
      exact ⟨rfl, gg⟩
    · have hne : t ≠ N := fun e => hd (by rw [e]; exact HDN.out)
      have hdec : decide (arT p t = a0) = !true := by rw [decide_eq_false (fun e => hd ((HST.out t).1 e))]; rfl
      have htl : t + 1 ≤ N := by omega
      have t9 : t ≤ 68719476736 := by omega
      clear hd
      go_wp2_with (first | (refine r_load_row 65 (.tmp 2) _ rfl _ _ _ b1 Tryz.underlying65 rfl (Tryz.ainfo _ hal0) rfl ?_) | (have hfirst := b5; refine r_load_row 65 (.tmp 6) _ rfl _ _ _ b6 Tryz.underlying65 rfl (Tryz.ainfo _ halt) rfl ?_) | (refine r_load_row 65 (.tmp 6) _ rfl _ _ _ bv Tryz.underlying65 rfl (Tryz.ainfo _ halt) rfl ?_) | (refine r_neq_av 65 3 _ _ _ Tryz.underlying65 Tryz.underlying3 Tryz.sizeOf3 Tryz.isAgg3 Tryz.aguard (arT p t) a0 halt hal0 true hdec rfl rfl rfl ?_) | ((refine r_alloc 65 _ HAZ.out rfl ?_; intro w5 B5 N5; have g5 := N5.gr; have b5 : Blk w5 B5 (avA z) 65 := N5.blk; have l5 := N5.lo; have t5 := N5.hi; have z5 := g5.size; have b1 := g5.blk b1; have gg := gg.trans g5; clear N5); have n15 : B1 < B5 := (by omega); have lo5 : w.heap.size ≤ B5 := (by omega)) | (refine r_store_row 65 65 _ _ B5 rfl (avA (arT p (t + 1))) _ rfl b6 (Tryz.asize _ halt1) (by rw [avA_size, avA_size, halt1, halt]) (avA_one _) rfl ?_; intro w8 u8 b8; have b1 := u8.blk b1 (by omega); have gg := u8.gr gg lo5) | (refine r_store_row 65 65 _ _ B5 rfl (avA (arT p t)) _ rfl b5 (Tryz.asize _ halt) (by rw [avA_size, avA_size, halt, hzl]) (avA_one _) rfl ?_; intro w6 u6 b6; have b1 := u6.blk b1 (by omega); have gg := u6.gr gg lo5; have z6 := u6.size) | (refine r_callc 77 (.tmp 13) [.tmp 14] _ [.agg (avA (arT p t))] [.pointer (some ⟨B, 0, none⟩)] (.agg (avA (arT p (t + 1)))) (fun w' => Gr w6 w') Tryz.call77 rfl rfl rfl (HCL.out t w6 gg) ?_; intro w7 g7; have b1 := g7.blk b1; have b6 := g7.blk b6; have gg := gg.trans g7; have z7 := g7.size))
      try simp only [Act.put, List.setIfInBounds_toArray, List.set_cons_succ, List.set_cons_zero]
      go_roundw
      case rel => exact ⟨t + 1, B5, by omega, htl, by go_num, rfl, n15, b8, b1, gg⟩
      case measure => simp [intOf]; omega
theorem prN_prm (l : List UInt8) (u : ByteArray) : Prm (prN l u) := by
  refine ⟨prN_lt l u, fun i j hi hj e => ?_⟩
  unfold prN at hi hj e
  cases h : cbB l u with
  | false => rw [h] at hi; exact absurd hi (Nat.not_lt_zero _)
  | true =>
    rw [h] at hi hj e
    obtain ⟨g, hp, hg, -, hu, hcb⟩ := mc_parts (cb_yes' h)
    obtain ⟨hc, -, -, -⟩ := cel_of hp
    rw [if_pos rfl] at hi hj e
    rw [hg] at hi hj e
    have hls := (ls_perm hc.wal (wds_lt hu) (back_lab hc (wds_lt hu) (by rw [← hcb]; exact h))).1
    rw [← lsOf_length (runB (wds u) (labG g)).c (bpos g.c (nn g.w g.h))] at hls
    rw [prmG_length, ← lsOf_length (runB (wds u) (labG g)).c (bpos g.c (nn g.w g.h))] at hi hj
    exact prmL_inj hls hi hj e
def orI (l : List UInt8) (u : ByteArray) : Int := if cbB l u then (ordP (prN l u) : Nat) else 0
set_option maxHeartbeats 600000 in
set_option maxRecDepth 100000 in
theorem iOrderOfWord (s u : ByteArray) (w : World) (hm : ML w) (hs : s.size ≤ 1048576) : Calls Tryz.prog 21 #[.string s, .string u] w (Ret (.tuple #[.int .i64 (orI s.data.toList u), .bool (cbB s.data.toList u)]) w) := by
  have gg := Gr.refl w
  have hprm := prN_prm s.data.toList u
  have hle := prN_le s.data.toList u
  have HPZ := hidI (prL_zz s.data.toList u)
  have HNO := hidI (show cbB s.data.toList u = false → orI s.data.toList u = 0 from fun h => by unfold orI; rw [h]; rfl)
  have HYE := hidI (show cbB s.data.toList u = true → orI s.data.toList u = (ordP (prN s.data.toList u) : Nat) from fun h => by unfold orI; rw [h]; rfl)
  obtain ⟨p, hp⟩ : ∃ p, p = prN s.data.toList u := ⟨_, rfl⟩
  rw [← hp] at hprm hle HPZ HYE
  have HPR := hidI hprm
  obtain ⟨z, hz⟩ : ∃ z, z = List.replicate 36 0 := ⟨_, rfl⟩
  have HAZ := hidI (fun (w : World) => hz ▸ Tryz.azero w : ∀ w : World, (zeroValue 65).run Tryz.prog w = .ok (.agg (avA z)) w)
  have HZ := hidI (show z = stTo 0 from hz)
  have HSL := hidI (fun j => stTo_length j)
  clear hprm hp hz
  go_enter Tryz.func21, Tryz.ntmps21
  go_wp2_with fail
  refine (iPermutationOf s u _ hm hs).mono ?_
  rintro e w1 ⟨g1, v1, rfl, own1⟩
  rw [HPZ.out, zz_length] at own1
  have z1 := g1.size
  have gg := gg.trans g1
  cases hcb : cbB s.data.toList u with
  | false =>
    have HE := hidI (HNO.out hcb)
    have HCB := hidI hcb
    clear hcb
    go_wp2
    go_ret2
    exact ⟨fin_ib HE.out.symm HCB.out.symm, gg⟩
  | true =>
    have HE := hidI (HYE.out hcb)
    have HCB := hidI hcb
    clear hcb
    obtain ⟨pp, m, cp, rfl⟩ := own_slice own1
    obtain rfl : m = p.length := own_len own1
    obtain ⟨m, hm'⟩ : ∃ m, m = p.length := ⟨_, rfl⟩
    rw [← hm'] at hle
    have HM := hidI hm'.symm
    have HO1 := hidI own1
    have own1' := own1
    rw [← hm'] at own1' ⊢
    clear own1 hm'
    go_wp2_with ((refine r_alloc 65 _ HAZ.out rfl ?_; intro w2 B2 N2; have g2 := N2.gr; have b2 : Blk w2 B2 (avA z) 65 := N2.blk; have l2 := N2.lo; have t2 := N2.hi; have z2 := g2.size; have gg := gg.trans g2; clear N2))
    have b2 : Blk w2 B2 (avA (stTo 0)) 65 := by rw [← HZ.out]; exact b2
    have g12 := g2
    have lo2 : w.heap.size ≤ B2 := by omega
    go_loopw [20] (fun iv wr => ∃ k : Nat, k ≤ m ∧ iv = .int .i64 k ∧ Blk wr B2 (avA (stTo k)) 65 ∧ Gr w wr ∧ Gr w1 wr) (fun iv _ => m - (intOf iv).toNat)
    case atStart => exact ⟨0, Nat.zero_le _, rfl, b2, gg, g12⟩
    case round =>
      clear b2 gg g12
      obtain ⟨k, hk, rfl, b2, gg, g12⟩ := hrel
      by_cases hlt : k < m
      · have hk36 : k < 36 := by omega
        have HS := hidI (show (avA (stTo k)).setIfInBounds k (.int .i64 (k : Nat)) = avA (stTo (k + 1)) from by rw [avA_set, stTo])
        have HSZ := hidI (show k < (avA (stTo k)).size from by rw [avA_size, HSL.out]; exact hk36)
        go_wp2_with (first | (refine r_idx 65 _ _ (.pointer (some ⟨B2, 0, none⟩)) (.int .i64 k) _ rfl rfl (Tryz.aix B2 k hk36 _) rfl ?_) | (refine r_store_cell 3 65 _ _ B2 k rfl (.int .i64 (k : Nat)) rfl _ b2 HSZ.out Tryz.sizeOf3 rfl rfl ?_; intro w4 u4 b24; rw [HS.out] at b24; have gg := u4.gr gg lo2; have g12 := u4.gr g12 l2))
        go_roundw
        case rel => exact ⟨k + 1, by omega, by go_num, b24, gg, g12⟩
        case measure => simp [intOf]; omega
      · obtain rfl : k = m := by omega
        have hal := HSL.out k
        have HA0 := hidI (show stTo k = arT p 0 from by rw [← HM.out]; rfl)
        clear hlt
        go_wp2
        have gd := (Gr.refl wr).drew
        have b2 := gd.blk b2
        have gg := gg.trans gd
        have g12 := g12.trans gd
        refine F_begin (fun w => Blk w B2 (avA (stTo k)) 65) 3 6 #[false, false, false, false, false, false] rfl (by kernel_rfl) (by kernel_rfl) ?_
        generalize wr.drew = wd at *
        refine F_take (v := .agg (avA (stTo k))) 0 #[true, false, false, false, false, false] rfl (by kernel_rfl) (fun _ _ _ h => h) rfl (fun w hF => e_load_row 65 (.tmp 8) B2 _ _ _ rfl hF Tryz.underlying65 rfl (Tryz.ainfo _ hal)) (b2) ?_; simp only [Act.put, List.setIfInBounds_toArray, List.set_cons_succ, List.set_cons_zero]
        refine F_free (v := .slice pp k cp) 1 #[true, true, false, false, false, false] rfl (by kernel_rfl) (fun _ _ _ h => h) rfl (fun _ => rfl) (b2) ?_; simp only [Act.put, List.setIfInBounds_toArray, List.set_cons_succ, List.set_cons_zero]
        refine F_one 2 #[true, true, true, false, false, false] rfl (by kernel_rfl) ?_
        refine r_callx 48 [.tmp 28] _ [.slice pp k cp] (fun v w' => Gr wd w' ∧ ∃ B, v = peV B ∧ Blk w' B #[.slice pp k cp] 25) Tryz.call48 rfl rfl ((permuting_any pp k cp wd).mono fun e w' ⟨a, B, b, c⟩ => ⟨_, b, a, B, rfl, c⟩) ?_
        rintro v5 w5 ⟨g5, B5, rfl, b5⟩
        have b2 := g5.blk b2
        have gg := gg.trans g5
        have g12 := g12.trans g5
        refine ⟨fun _ => b2, ?_⟩
        simp only [Act.put, List.setIfInBounds_toArray, List.set_cons_succ, List.set_cons_zero]
        refine F_one 3 #[true, true, true, true, false, false] rfl (by kernel_rfl) ?_
        have hO1 := HO1.out
        rw [HM.out] at hO1
        rw [HA0.out]
        refine r_call 47 [.tmp 27, .tmp 29] _ [.agg (avA (arT p 0)), peV B5] (.int .i64 (ordP p)) (fun w' => Gr w5 w') Tryz.call47 rfl rfl (orderOf_any p B5 w.heap.size (.slice pp k cp) w5 HPR.out (by rw [HM.out]; exact hle) b5 (by rw [HM.out]; exact g12.row hO1)) ?_
        intro w6 g6
        have gg := gg.trans g6
        refine ⟨fun h => (by cases h), ?_⟩
        simp only [Act.put, List.setIfInBounds_toArray, List.set_cons_succ, List.set_cons_zero]
        refine F_one 4 #[true, true, true, true, true, false] rfl (by kernel_rfl) ?_
        refine r_val (.int .i64 (ordP p)) rfl rfl ?_
        simp only [Act.put, List.setIfInBounds_toArray, List.set_cons_succ, List.set_cons_zero]
        refine ⟨fun h => (by cases h), ?_⟩
        refine F_one 5 #[true, true, true, true, true, true] rfl (by kernel_rfl) ?_
        refine r_val (.bool true) rfl rfl ?_
        simp only [Act.put, List.setIfInBounds_toArray, List.set_cons_succ, List.set_cons_zero]
        refine ⟨fun h => (by cases h), ?_⟩
        refine F_done (by kernel_rfl) ?_
        go_wp2
        go_ret2
        exact ⟨fin_ib HE.out.symm HCB.out.symm, gg⟩
end Go.Proofs.YtbppbbkcampglaaGreatDoor
