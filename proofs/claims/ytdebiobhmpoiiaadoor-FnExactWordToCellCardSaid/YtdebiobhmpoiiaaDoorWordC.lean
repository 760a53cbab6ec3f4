/-
  The shortest word behind which a ball stands in a cell: plain mathematics, the program, the model, and the law.
-/
import Derived.Test.YtdebiobhmpoiiaaDoorBWo
import Derived.Test.YtdebiobhmpoiiaaDoorBCe
import Derived.Test.YtdebiobhmpoiiaaDoorPuzS
namespace Go.Proofs.YtdebiobhmpoiiaaDoor
open Go.RowKit
theorem rcS_mono {l : List UInt8} {S : List (Sta Grid)} (h : rcS l = some S) : ∀ i j, i ≤ j → j < S.length → (sta S i).far ≤ (sta S j).far := by
  obtain ⟨g, hp, hi⟩ := rcS_inv h
  exact hi.mono
/-- The states, and the first one with the ball in the cell. -/
def wcS (l : List UInt8) (n : ByteArray) (z : Int) : Option (List (Sta Grid) × Nat) := match rbS l n with
  | none => none
  | some S => if inB z (sta S 0).t.c.length then (fsS S (hd n) z.toNat).map fun j => (S, j) else none
def wcB (l : List UInt8) (n : ByteArray) (z : Int) : ByteArray := match wcS l n z with
  | none => ByteArray.empty
  | some (S, j) => wdTo S (some j)
def wcOk (l : List UInt8) (n : ByteArray) (z : Int) : Bool := match wcS l n z with
  | none => false
  | some (S, j) => wdOk S (some j)
theorem wc_no {l : List UInt8} {n : ByteArray} {z : Int} (h : rbS l n = none) : wcS l n z = none := by unfold wcS; rw [h]
theorem wc_out {l : List UInt8} {n : ByteArray} {z : Int} {S : List (Sta Grid)} (h : rbS l n = some S) (hz : inB z (sta S 0).t.c.length = false) : wcS l n z = none := by unfold wcS; rw [h]; show (if _ then _ else _) = _; rw [hz]; rfl
theorem wc_in {l : List UInt8} {n : ByteArray} {z : Int} {S : List (Sta Grid)} (h : rbS l n = some S) (hz : inB z (sta S 0).t.c.length = true) : wcS l n z = (fsS S (hd n) z.toNat).map fun j => (S, j) := by unfold wcS; rw [h]; show (if _ then _ else _) = _; rw [hz]; rfl
theorem wc_none {l : List UInt8} {n : ByteArray} {z : Int} (h : wcS l n z = none) : wcB l n z = ByteArray.empty ∧ wcOk l n z = false := by unfold wcB wcOk; rw [h]; exact ⟨rfl, rfl⟩
theorem wc_some {l : List UInt8} {n : ByteArray} {z : Int} {S : List (Sta Grid)} {j : Nat} (h : wcS l n z = some (S, j)) : wcB l n z = wdTo S (some j) ∧ wcOk l n z = wdOk S (some j) := by unfold wcB wcOk; rw [h]; exact ⟨rfl, rfl⟩
/-- The ball stands in the cell in a state. -/
def hitB (S : List (Sta Grid)) (b : UInt8) (z : Int) (j : Nat) : Bool := inB z (sta S 0).t.c.length && (at0 (sta S j).t.c z.toNat == b)
theorem wc_found {l : List UInt8} {n : ByteArray} {z : Int} {S : List (Sta Grid)} {m : Nat} (hR : rbS l n = some S) (hm : m < S.length) (hh : hitB S (hd n) z m = true) (h40 : (sta S m).far ≤ 40) (hb : ∀ i, i < m → hitB S (hd n) z i = true → 40 < (sta S i).far) :
    wcB l n z = wrdB S m ∧ wcOk l n z = true := by
  unfold hitB at hh
  rw [Bool.and_eq_true, beq_iff_eq] at hh
  have hmo := rcS_mono (rbS_some hR).1
  have hf : fsS S (hd n) z.toNat = some m := fsS_of hm hh.2 fun i hi e => by
    have := hb i hi (by unfold hitB; rw [Bool.and_eq_true, beq_iff_eq]; exact ⟨hh.1, e⟩)
    have := hmo i m (by omega) hm
    omega
  obtain ⟨e1, e2⟩ := wc_some (l := l) (n := n) (z := z) (S := S) (j := m) (by rw [wc_in hR hh.1, hf]; rfl)
  rw [e1, e2]
  exact ⟨if_pos h40, decide_eq_true h40⟩
theorem wc_nowhere {l : List UInt8} {n : ByteArray} {z : Int} {S : List (Sta Grid)} (hR : rbS l n = some S) (hb : ∀ i, i < S.length → hitB S (hd n) z i = true → 40 < (sta S i).far) :
    wcB l n z = ByteArray.empty ∧ wcOk l n z = false := by
  cases hz : inB z (sta S 0).t.c.length with
  | false => exact wc_none (wc_out hR hz)
  | true =>
    have hw := wc_in hR hz
    cases hf : fsS S (hd n) z.toNat with
    | none => rw [hf] at hw; exact wc_none hw
    | some j =>
      rw [hf] at hw
      obtain ⟨h1, h2, -⟩ := fsS_some hf
      have := hb j h1 (by unfold hitB; rw [hz, Bool.true_and, beq_iff_eq]; exact h2)
      obtain ⟨e1, e2⟩ := wc_some hw
      rw [e1, e2]
      exact ⟨if_neg (by omega), decide_eq_false (by omega)⟩
/-- The place that the model finds is the cell exactly where the ball stands in it. -/
theorem hit_ix {l : List UInt8} {n : ByteArray} {S : List (Sta Grid)} (hR : rbS l n = some S) (z : Int) {j : Nat} (hj : j < S.length) : decide (ixC (sta S j).t.c (hd n) (sta S j).t.c.length = z) = hitB S (hd n) z j := by
  have hR' := hR
  unfold rbS at hR'
  cases hp : parse l with
  | none => rw [hp] at hR'; cases hR'
  | some g =>
    rw [hp] at hR'
    have h' : (if nameS n && decide (0 ≤ ixC g.c (hd n) g.c.length) then rcS l else none) = some S := hR'
    split at h'
    · rename_i hc
      rw [Bool.and_eq_true, decide_eq_true_eq] at hc
      have hnm := hc.1
      unfold nameS at hnm
      rw [Bool.and_eq_true] at hnm
      have h1 := rc_one hp hnm.2 hc.2 h'
      have h0 : 0 < S.length := by omega
      have l0 := h1.len 0 h0
      have lj := h1.len j hj
      unfold hitB
      rw [l0]
      cases hz : inB z g.c.length with
      | true =>
        obtain ⟨z0, z1⟩ := inB_true.1 hz
        have := h1.iff hj (k := z.toNat) (by omega)
        rw [Bool.true_and, Bool.eq_iff_iff, decide_eq_true_eq, beq_iff_eq, ← this]
        omega
      | false =>
        rw [Bool.false_and, decide_eq_false_iff_not]
        intro e
        have hcn := h1.cnt j hj
        rcases ixC_cases (sta S j).t.c (hd n) (sta S j).t.c.length with ⟨e1, e2⟩ | ⟨k, hk, e1, -⟩
        · have := ix_cnt (sta S j).t.c (hd n) (sta S j).t.c.length
          rw [lj] at this e1
          rw [hcn, e1] at this
          exact absurd this (by decide)
        · have : inB z g.c.length = true := inB_true.2 ⟨by omega, by omega⟩
          rw [hz] at this
          cases this
    · cases h'
theorem fin_sbC {a b : ByteArray} {c d : Bool} (h1 : a = b) (h2 : c = d) : Ending.returned (.tuple #[.string a, .bool c]) = .returned (.tuple #[.string b, .bool d]) := by rw [h1, h2]
theorem zipS_fsC (S : List (Sta Grid)) (nx : Nat → Value) (b : UInt8) (k : Nat) (d : Sta Grid × Value) : Lib.idxBy (fun _ y => (at0 y.1.t.c k == b)) ((zipS S nx).take S.length) d = fsV S b k := by
  unfold fsV
  cases hf : fsS S b k with
  | none =>
    refine Lib.idxBy_miss (fun _ (y : Sta Grid × Value) => (at0 y.1.t.c k == b)) _ _ _ fun j hj => ?_
    rw [zipS_at S nx j hj]
    exact beq_eq_false_iff_ne.2 (fsS_none hf j hj)
  | some i =>
    obtain ⟨h1, h2, h3⟩ := fsS_some hf
    refine Lib.idxBy_hit (fun _ (y : Sta Grid × Value) => (at0 y.1.t.c k == b)) _ _ i _ h1 (by rw [zipS_length]; exact Nat.le_refl _) ?_ fun j hj => ?_
    · rw [zipS_at S nx i h1]; exact beq_iff_eq.2 h2
    · rw [zipS_at S nx j (by omega)]; exact beq_eq_false_iff_ne.2 (h3 j hj)
set_option maxHeartbeats 1000000 in
set_option maxRecDepth 100000 in
theorem wcPred (b : UInt8) (k : Nat) (hk : k < 36) (Bz Bn : Nat) (w : World) (hz : Blk w Bz #[.int .i64 k] 3) (hn : Blk w Bn #[.string ⟨#[b]⟩] 9) : PredBelow Tryd.prog 40 #[.pointer (some ⟨Bz, 0, none⟩), .pointer (some ⟨Bn, 0, none⟩)] (fun x : Sta Grid × Value => .agg (cellS x.1 x.2).toArray) (fun x => (at0 x.1.t.c k == b)) w := fun W x hB => by
  have gg := Gr.refl W
  have b8 : Blk W Bz #[.int .i64 k] 3 := (Below.block hB Bz hz.lt).trans hz
  have b9 : Blk W Bn #[.string ⟨#[b]⟩] 9 := (Below.block hB Bn hn.lt).trans hn
  show Calls Tryd.prog 40 #[.agg (cellS x.1 x.2).toArray, .pointer (some ⟨Bz, 0, none⟩), .pointer (some ⟨Bn, 0, none⟩)] W _
  obtain ⟨s, v⟩ := x
  obtain ⟨r, hr⟩ : ∃ r, r = (at0 s.t.c k == b) := ⟨_, rfl⟩
  have hdec : decide (((at0 s.t.c k).toNat : Int) = (b.toNat : Int)) = r := by
    rw [hr, Bool.eq_iff_iff, decide_eq_true_eq, beq_iff_eq]
    exact ⟨fun h => UInt8.toNat_inj.1 (by omega), fun h => by rw [h]⟩
  have HR := hidI (fun (W' : World) (A : Nat) (h : Blk W' A (cellS s v).toArray 74) => show W'.cell? ⟨A, 2 + k, none⟩ = some (.int .u8 (at0 s.t.c k).toNat) from by
    rw [h.cell (2 + k), List.getElem?_toArray, cellS_hd s v (2 + k) (by omega)]
    have e := gv_c s.t.w s.t.h s.t.c k hk
    rw [← Array.getElem?_toList] at e
    exact e)
  have HRR := hidI hr
  clear hr
  go_enter Tryd.func40, Tryd.ntmps40
  go_wp2_with (first | (refine r_box 74 _ (cellS s v).toArray rfl rfl ?_; intro w1 B1 N1; have g1 := N1.gr; have b1 := N1.blk; have b8 := g1.blk b8; have b9 := g1.blk b9; have gg := gg.trans g1; clear N1))
  have hcl := HR.out _ _ b1
  have cz : w1.cell? ⟨Bz, 0, none⟩ = some (.int .i64 k) := b8.cell 0
  have cn : w1.cell? ⟨Bn, 0, none⟩ = some (.string ⟨#[b]⟩) := b9.cell 0
  refine q_whole (by kernel_rfl) (by kernel_rfl) ?_
  refine q_take (.int .i64 k) rfl (fun w' hw' => e_load 3 (.tmp 1) _ _ rfl (Tryd.isAgg3 _) (hw'.cell cz)) ?_; simp only [Act.put, List.setIfInBounds_toArray, List.set_cons_succ, List.set_cons_zero]
  refine q_take (.pointer (some ⟨B1, 0, none⟩)) rfl (fun w' hw' => e_val _ _ (Tryd.stf0 B1 0 _)) ?_; simp only [Act.put, List.setIfInBounds_toArray, List.set_cons_succ, List.set_cons_zero]
  refine q_take (.pointer (some ⟨B1, 2, none⟩)) rfl (fun w' hw' => e_val _ _ (Tryd.gf2 B1 _)) ?_; simp only [Act.put, List.setIfInBounds_toArray, List.set_cons_succ, List.set_cons_zero]
  refine q_take (.pointer (some ⟨B1, 2 + k, none⟩)) rfl (fun w' hw' => e_val _ _ (Tryd.gix B1 k hk _)) ?_; simp only [Act.put, List.setIfInBounds_toArray, List.set_cons_succ, List.set_cons_zero]
  refine q_take (.int .u8 (at0 s.t.c k).toNat) rfl (fun w' hw' => e_load 5 (.tmp 8) _ _ rfl (Tryd.isAgg5 _) (hw'.cell hcl)) ?_; simp only [Act.put, List.setIfInBounds_toArray, List.set_cons_succ, List.set_cons_zero]
  refine q_take (.string ⟨#[b]⟩) rfl (fun w' hw' => e_load 9 (.tmp 2) _ _ rfl (Tryd.isAgg9 _) (hw'.cell cn)) ?_; simp only [Act.put, List.setIfInBounds_toArray, List.set_cons_succ, List.set_cons_zero]
  refine q_take (.int .u8 b.toNat) rfl (fun w' hw' => e_val _ _ (s_idx0 Tryd.underlying9 b _)) ?_
  simp only [Act.put, List.setIfInBounds_toArray, List.set_cons_succ, List.set_cons_zero]
  refine q_take (.bool r) rfl (fun w' hw' => e_eqK _ _ _ _ _ rfl rfl hdec) ?_
  simp only [Act.put, List.setIfInBounds_toArray, List.set_cons_succ, List.set_cons_zero]
  refine q_assign _ (.bool r) rfl rfl ?_; simp only [Act.put, List.setIfInBounds_toArray, List.set_cons_succ, List.set_cons_zero]
  refine wpQuiet_nil ?_; intro w4 g4; have z4 := g4.size; have gg := gg.trans g4
  go_wp2
  go_ret
  exact ⟨by rw [HRR.out]; rfl, hB.trans (Below.mono gg hB.size)⟩
set_option maxHeartbeats 2000000 in
set_option maxRecDepth 100000 in
theorem iWordToCell (s n : ByteArray) (z : Int) (w : World) (hm : ML w) (hs : s.size ≤ 1048576) : Calls Tryd.prog 16 #[.string s, .string n, .int .i64 z] w (Ret (.tuple #[.string (wcB s.data.toList n z), .bool (wcOk s.data.toList n z)]) w) := by
  have gg := Gr.refl w
  have HA := fun w (hm : ML w) => readStatesOfBall_any s n w hm hs
  cases hR : rbS s.data.toList n with
  | none =>
    have HA := hidI (fun w (hm : ML w) => show Calls Tryd.prog 37 #[.string s, .string n] w (Ret (.tuple #[.slice none 0 0, .bool false]) w) from (HA w hm).mono fun e w' h => by unfold RetI at h; rw [hR] at h; exact ⟨h.2, h.1⟩)
    obtain ⟨e1, e2⟩ := wc_none (wc_no (z := z) hR)
    have HN := hidI e1
    have HO := hidI e2
    clear hR e1 e2
    go_enter Tryd.func16, Tryd.ntmps16
    go_wp2_with (first | (refine r_boxv 9 (.tmp 1) (.string n) rfl (fun _ => rfl) rfl ?_; intro w1 B1 N1; have g1 := N1.gr; have b1 : Blk w1 B1 #[.string n] 9 := N1.blk; have l1 := N1.lo; have z1 := g1.size; have gg := gg.trans g1; have c1 : w1.cell? ⟨B1, 0, none⟩ = some (.string n) := b1.cell 0; clear N1) | (refine r_boxv 3 (.tmp 2) (.int .i64 z) rfl (fun _ => rfl) rfl ?_; intro w2 B2 N2; have g2 := N2.gr; have b2 : Blk w2 B2 #[.int .i64 z] 3 := N2.blk; have l2 := N2.lo; have z2 := g2.size; have b1 := g2.blk b1; have gg := gg.trans g2; have c1 := g2.cell c1; have c2 : w2.cell? ⟨B2, 0, none⟩ = some (.int .i64 z) := b2.cell 0; clear N2) | (refine r_ldc 9 (.tmp 4) ⟨B1, 0, none⟩ (.string n) rfl (Tryd.isAgg9 _) c1 rfl ?_) | (go_at_call 37; refine (HA.out _ (gg.ml hm)).mono ?_; rintro e w3 ⟨rfl, g3⟩; have z3 := g3.size; have gg := gg.trans g3))
    refine q_whole (by kernel_rfl) (by kernel_rfl) ?_
    refine q_move _ (.bool false) rfl rfl ?_; simp only [Act.put, List.setIfInBounds_toArray, List.set_cons_succ, List.set_cons_zero]
    refine q_take (.bool true) rfl (fun w' hw' => by unfold execOp; simp [go_sem, Act.eval]) ?_
    simp only [Act.put, List.setIfInBounds_toArray, List.set_cons_succ, List.set_cons_zero]
    refine q_move _ (.bool true) rfl rfl ?_; simp only [Act.put, List.setIfInBounds_toArray, List.set_cons_succ, List.set_cons_zero]
    refine BigFrame.wpQuiet_skip rfl ?_
    simp only [Act.put, List.setIfInBounds_toArray, List.set_cons_succ, List.set_cons_zero]
    refine BigFrame.wpQuiet_skip rfl ?_
    simp only [Act.put, List.setIfInBounds_toArray, List.set_cons_succ, List.set_cons_zero]
    refine BigFrame.wpQuiet_skip rfl ?_
    simp only [Act.put, List.setIfInBounds_toArray, List.set_cons_succ, List.set_cons_zero]
    refine BigFrame.wpQuiet_skip rfl ?_
    simp only [Act.put, List.setIfInBounds_toArray, List.set_cons_succ, List.set_cons_zero]
    refine BigFrame.wpQuiet_skip rfl ?_
    simp only [Act.put, List.setIfInBounds_toArray, List.set_cons_succ, List.set_cons_zero]
    refine BigFrame.wpQuiet_skip rfl ?_
    simp only [Act.put, List.setIfInBounds_toArray, List.set_cons_succ, List.set_cons_zero]
    refine BigFrame.wpQuiet_skip rfl ?_
    simp only [Act.put, List.setIfInBounds_toArray, List.set_cons_succ, List.set_cons_zero]
    refine q_take (.bool true) rfl (fun w' hw' => by unfold execOp; simp [go_sem, Act.eval]) ?_
    simp only [Act.put, List.setIfInBounds_toArray, List.set_cons_succ, List.set_cons_zero]
    refine wpQuiet_nil ?_; intro w9 g9; have z9 := g9.size; have gg := gg.trans g9
    go_wp2
    go_ret2
    exact ⟨fin_sbC HN.out.symm HO.out.symm, gg⟩
  | some S =>
    have HA := hidI (fun w (hm : ML w) => show Calls Tryd.prog 37 #[.string s, .string n] w (fun e w' => Gr w w' ∧ ∃ v nx, e = .returned (.tuple #[v, .bool true]) ∧ ISt w.heap.size w' v S nx) from (HA w hm).mono fun e w' h => by unfold RetI at h; rw [hR] at h; exact h)
    obtain ⟨hrc, hnm⟩ := rbS_some hR
    obtain ⟨h0, h300, hS⟩ := rcS_knownC hrc
    have hW := rcS_ways hrc
    unfold nameS at hnm
    rw [Bool.and_eq_true, decide_eq_true_eq] at hnm
    have hn1 := one_of n hnm.1
    obtain ⟨b, hb⟩ : ∃ b, hd n = b := ⟨_, rfl⟩
    obtain ⟨hS0, q1, q2⟩ := hS 0 h0
    have w7 := hS0.w7
    have h7 := hS0.h7
    have h36 : (sta S 0).t.c.length ≤ 36 := by have := hS0.len; have := hS0.n36; omega
    obtain ⟨t0, ht0⟩ : ∃ t0, t0 = (sta S 0).t := ⟨_, rfl⟩
    obtain ⟨ok, hok⟩ : ∃ ok, ok = inB z t0.c.length := ⟨_, rfl⟩
    have HHN := hidI (fun w' => show Calls Tryd.prog 38 #[.agg (gvG t0), .int .i64 z] w' (Ret (.bool ok) w') from by
      have := hasNumber_any t0.w t0.h t0.c z w' (by rw [ht0]; exact w7) (by rw [ht0]; exact h7)
      rw [hok, show t0.c.length = nn t0.w t0.h from by rw [ht0]; exact hS0.len]
      exact this)
    have HTR := hidI (fun (W : World) gB cap nx (h : W.ownsRow w.heap.size 74 43 (.slice (some ⟨gB, 0, none⟩) S.length cap) S.length (rowsI S nx).flatten) => show W.rangeAt gB (0 * 43) (gvG t0).toList from by rw [ht0]; exact ORel.tray h h0)
    rw [← ht0] at h36
    cases hz : ok with
    | false =>
      obtain ⟨e1, e2⟩ := wc_none (wc_out (z := z) hR (by rw [← ht0, ← hok]; exact hz))
      have HN := hidI e1
      have HO := hidI e2
      rw [hz] at HHN
      clear hR e1 e2 hrc hnm hS hW hS0 ht0 hok hz w7 h7 hn1 hb
      go_enter Tryd.func16, Tryd.ntmps16
      go_wp2_with (first | (refine r_boxv 9 (.tmp 1) (.string n) rfl (fun _ => rfl) rfl ?_; intro w1 B1 N1; have g1 := N1.gr; have b1 : Blk w1 B1 #[.string n] 9 := N1.blk; have l1 := N1.lo; have z1 := g1.size; have gg := gg.trans g1; have c1 : w1.cell? ⟨B1, 0, none⟩ = some (.string n) := b1.cell 0; clear N1) | (refine r_boxv 3 (.tmp 2) (.int .i64 z) rfl (fun _ => rfl) rfl ?_; intro w2 B2 N2; have g2 := N2.gr; have b2 : Blk w2 B2 #[.int .i64 z] 3 := N2.blk; have l2 := N2.lo; have z2 := g2.size; have b1 := g2.blk b1; have gg := gg.trans g2; have c1 := g2.cell c1; have c2 : w2.cell? ⟨B2, 0, none⟩ = some (.int .i64 z) := b2.cell 0; clear N2) | (refine r_ldc 9 (.tmp 4) ⟨B1, 0, none⟩ (.string n) rfl (Tryd.isAgg9 _) c1 rfl ?_) | (have zp := gg.size; go_at_call 37; refine (HA.out _ (gg.ml hm)).mono ?_; rintro e w3 ⟨g3, v, nx, rfl, IS⟩; have c2 := g3.cell c2; have gg := gg.trans g3; have hrow := own_up IS.row zp; obtain ⟨gB, cap, rfl, hlo, hcap⟩ := own_shape hrow h0))
      have hrg := HTR.out _ _ _ _ hrow
      refine q_whole (by kernel_rfl) (by kernel_rfl) ?_
      refine q_move _ (.bool true) rfl rfl ?_; simp only [Act.put, List.setIfInBounds_toArray, List.set_cons_succ, List.set_cons_zero]
      refine q_take (.bool false) rfl (fun w' hw' => by unfold execOp; simp [go_sem, Act.eval]) ?_
      simp only [Act.put, List.setIfInBounds_toArray, List.set_cons_succ, List.set_cons_zero]
      refine q_move _ (.bool false) rfl rfl ?_; simp only [Act.put, List.setIfInBounds_toArray, List.set_cons_succ, List.set_cons_zero]
      refine q_move _ (.slice (some ⟨gB, 0, none⟩) S.length cap) rfl rfl ?_; simp only [Act.put, List.setIfInBounds_toArray, List.set_cons_succ, List.set_cons_zero]
      refine q_take (.pointer (some ⟨gB, 0 * 43, Option.none⟩)) rfl (fun w' hw' => e_idxP _ _ (.slice (some ⟨gB, 0, Option.none⟩) S.length cap) (.int .i64 (0 : Nat)) _ rfl rfl (Tryd.stix gB S.length cap 0 h0 _)) ?_
      simp only [Act.put, List.setIfInBounds_toArray, List.set_cons_succ, List.set_cons_zero]
      refine q_take (.pointer (some ⟨gB, 0 * 43, none⟩)) rfl (fun w' hw' => e_val _ _ (Tryd.stf0 gB (0 * 43) _)) ?_; simp only [Act.put, List.setIfInBounds_toArray, List.set_cons_succ, List.set_cons_zero]
      refine q_take (.agg (gvG t0)) rfl (fun w' hw' => e_load_mid 72 (.tmp 22) gB (0 * 43) (gvG t0).toList _ rfl (fun j u hj => hw'.cell (hrg j u hj)) Tryd.underlying72 rfl (by rw [gvl]; exact Tryd.ginfo)) ?_
      simp only [Act.put, List.setIfInBounds_toArray, List.set_cons_succ, List.set_cons_zero]
      refine q_take (.int .i64 z) rfl (fun w' hw' => e_load 3 (.tmp 5) _ _ rfl (Tryd.isAgg3 _) (hw'.cell c2)) ?_; simp only [Act.put, List.setIfInBounds_toArray, List.set_cons_succ, List.set_cons_zero]
      refine q_call 38 [.tmp 23, .tmp 24] _ [.agg (gvG t0), .int .i64 z] (.bool false) Tryd.call38 rfl rfl (fun w' hw' => ((HHN.out w').mono fun e w'' h => ⟨h.1, hw'.trans h.2⟩)) ?_; simp only [Act.put, List.setIfInBounds_toArray, List.set_cons_succ, List.set_cons_zero]
      refine q_take (.bool true) rfl (fun w' hw' => by unfold execOp; simp [go_sem, Act.eval]) ?_
      simp only [Act.put, List.setIfInBounds_toArray, List.set_cons_succ, List.set_cons_zero]
      refine q_take (.bool true) rfl (fun w' hw' => by unfold execOp; simp [go_sem, Act.eval]) ?_
      simp only [Act.put, List.setIfInBounds_toArray, List.set_cons_succ, List.set_cons_zero]
      refine wpQuiet_nil ?_; intro w9 g9; have z9 := g9.size; have gg := gg.trans g9
      go_wp2
      go_ret2
      exact ⟨fin_sbC HN.out.symm HO.out.symm, gg⟩
    | true =>
      obtain ⟨k, hk⟩ : ∃ k : Nat, z = k := ⟨z.toNat, by have := (inB_true.1 (hok.symm.trans hz)).1; omega⟩
      subst hk
      have hk36 : k < 36 := by have := (inB_true.1 (hok.symm.trans hz)).2; omega
      have hwc := wc_in (z := (k : Int)) hR (by rw [← ht0, ← hok]; exact hz)
      rw [hb] at hwc
      have hwc : wcS s.data.toList n k = (fsS S b k).map fun j => (S, j) := hwc
      have HIX := hidI (fun (w' : World) (gB cap Bz Bn : Nat) (nx : Nat → Value) (hr : w'.ownsRow w.heap.size 74 43 (.slice (some ⟨gB, 0, none⟩) S.length cap) S.length (rowsI S nx).flatten) (h1 : Blk w' Bz #[.int .i64 k] 3) (h2 : Blk w' Bn #[.string n] 9) =>
        show Calls Tryd.prog 39 #[.slice (some ⟨gB, 0, none⟩) S.length cap, .func (.func 40) #[] #[.pointer (some ⟨Bz, 0, none⟩), .pointer (some ⟨Bn, 0, none⟩)]] w' (Ret (.int .i64 (fsV S b k)) w') from by
          rw [hn1, hb] at h2
          have eg : ∀ args w, (callFunc 40 args).run Tryd.prog w = .ok (.enter 40 args) w := enters_of Tryd.func40 (by kernel_rfl) rfl
          have h := AnyQ.slices_IndexFunc Tryd.ixL 43 Tryd.isAgg74 Tryd.sizeOf74 (fun x : Sta Grid × Value => cellS x.1 x.2) (fun x => cellS_length _ _) (fun x => (at0 x.1.t.c k == b)) 40 #[.pointer (some ⟨Bz, 0, none⟩), .pointer (some ⟨Bn, 0, none⟩)] eg gB 0 S.length cap (zipS S nx) w' (wcPred b k hk36 Bz Bn w' h1 h2) (by rw [zipS_length]; exact Nat.le_refl _) (by omega) (hr.lt gB rfl).2 (zipS_cells hr)
          change Calls Tryd.prog 39 _ _ _ at h
          rw [zipS_fsC] at h
          exact h)
      rw [hz] at HHN
      cases hf : fsS S b k with
      | none =>
        rw [hf] at hwc
        obtain ⟨e1, e2⟩ := wc_none hwc
        have HN := hidI e1
        have HO := hidI e2
        have HFV := hidI (show fsV S b k = -1 from by unfold fsV; rw [hf])
        clear hR e1 e2 hrc hnm hS hW hS0 ht0 hok hz w7 h7 hn1 hb hwc hf
        go_enter Tryd.func16, Tryd.ntmps16
        go_wp2_with (first | (refine r_boxv 9 (.tmp 1) (.string n) rfl (fun _ => rfl) rfl ?_; intro w1 B1 N1; have g1 := N1.gr; have b1 : Blk w1 B1 #[.string n] 9 := N1.blk; have l1 := N1.lo; have z1 := g1.size; have gg := gg.trans g1; have c1 : w1.cell? ⟨B1, 0, none⟩ = some (.string n) := b1.cell 0; clear N1) | (refine r_boxv 3 (.tmp 2) (.int .i64 k) rfl (fun _ => rfl) rfl ?_; intro w2 B2 N2; have g2 := N2.gr; have b2 : Blk w2 B2 #[.int .i64 k] 3 := N2.blk; have l2 := N2.lo; have z2 := g2.size; have b1 := g2.blk b1; have gg := gg.trans g2; have c1 := g2.cell c1; have c2 : w2.cell? ⟨B2, 0, none⟩ = some (.int .i64 k) := b2.cell 0; clear N2) | (refine r_ldc 9 (.tmp 4) ⟨B1, 0, none⟩ (.string n) rfl (Tryd.isAgg9 _) c1 rfl ?_) | (have zp := gg.size; go_at_call 37; refine (HA.out _ (gg.ml hm)).mono ?_; rintro e w3 ⟨g3, v, nx, rfl, IS⟩; have c2 := g3.cell c2; have b1 := g3.blk b1; have b2 := g3.blk b2; have gg := gg.trans g3; have hrow := own_up IS.row zp; obtain ⟨gB, cap, rfl, hlo, hcap⟩ := own_shape hrow h0))
        have hrg := HTR.out _ _ _ _ hrow
        refine q_whole (by kernel_rfl) (by kernel_rfl) ?_
        refine q_move _ (.bool true) rfl rfl ?_; simp only [Act.put, List.setIfInBounds_toArray, List.set_cons_succ, List.set_cons_zero]
        refine q_take (.bool false) rfl (fun w' hw' => by unfold execOp; simp [go_sem, Act.eval]) ?_
        simp only [Act.put, List.setIfInBounds_toArray, List.set_cons_succ, List.set_cons_zero]
        refine q_move _ (.bool false) rfl rfl ?_; simp only [Act.put, List.setIfInBounds_toArray, List.set_cons_succ, List.set_cons_zero]
        refine q_move _ (.slice (some ⟨gB, 0, none⟩) S.length cap) rfl rfl ?_; simp only [Act.put, List.setIfInBounds_toArray, List.set_cons_succ, List.set_cons_zero]
        refine q_take (.pointer (some ⟨gB, 0 * 43, Option.none⟩)) rfl (fun w' hw' => e_idxP _ _ (.slice (some ⟨gB, 0, Option.none⟩) S.length cap) (.int .i64 (0 : Nat)) _ rfl rfl (Tryd.stix gB S.length cap 0 h0 _)) ?_
        simp only [Act.put, List.setIfInBounds_toArray, List.set_cons_succ, List.set_cons_zero]
        refine q_take (.pointer (some ⟨gB, 0 * 43, none⟩)) rfl (fun w' hw' => e_val _ _ (Tryd.stf0 gB (0 * 43) _)) ?_; simp only [Act.put, List.setIfInBounds_toArray, List.set_cons_succ, List.set_cons_zero]
        refine q_take (.agg (gvG t0)) rfl (fun w' hw' => e_load_mid 72 (.tmp 22) gB (0 * 43) (gvG t0).toList _ rfl (fun j u hj => hw'.cell (hrg j u hj)) Tryd.underlying72 rfl (by rw [gvl]; exact Tryd.ginfo)) ?_
        simp only [Act.put, List.setIfInBounds_toArray, List.set_cons_succ, List.set_cons_zero]
        refine q_take (.int .i64 k) rfl (fun w' hw' => e_load 3 (.tmp 5) _ _ rfl (Tryd.isAgg3 _) (hw'.cell c2)) ?_; simp only [Act.put, List.setIfInBounds_toArray, List.set_cons_succ, List.set_cons_zero]
        refine q_call 38 [.tmp 23, .tmp 24] _ [.agg (gvG t0), .int .i64 k] (.bool true) Tryd.call38 rfl rfl (fun w' hw' => ((HHN.out w').mono fun e w'' h => ⟨h.1, hw'.trans h.2⟩)) ?_; simp only [Act.put, List.setIfInBounds_toArray, List.set_cons_succ, List.set_cons_zero]
        refine q_take (.bool false) rfl (fun w' hw' => by unfold execOp; simp [go_sem, Act.eval]) ?_
        simp only [Act.put, List.setIfInBounds_toArray, List.set_cons_succ, List.set_cons_zero]
        refine q_take (.bool false) rfl (fun w' hw' => by unfold execOp; simp [go_sem, Act.eval]) ?_
        simp only [Act.put, List.setIfInBounds_toArray, List.set_cons_succ, List.set_cons_zero]
        refine wpQuiet_nil ?_
        intro w9 g9
        have gg := gg.trans g9
        have hrow := g9.row hrow
        have b1 := g9.blk b1
        have b2 := g9.blk b2
        go_wp2_with (first | (go_at_call 39; refine (HIX.out _ gB cap B2 B1 nx hrow b2 b1).mono ?_; rintro e w5 ⟨rfl, g5⟩; rw [HFV.out]; have gg := gg.trans g5) | (go_at_call 34; refine (wordTo_neg _ _ _ _ _ rfl).mono ?_; rintro e w6 ⟨rfl, g6⟩; have z6 := g6.size; have gg := gg.trans g6))
        go_ret2
        exact ⟨fin_sbC HN.out.symm HO.out.symm, gg⟩
      | some j =>
        rw [hf] at hwc
        obtain ⟨e1, e2⟩ := wc_some hwc
        have HN := hidI e1
        have HO := hidI e2
        have hj := (fsS_some hf).1
        have HFV := hidI (show fsV S b k = (j : Int) from by unfold fsV; rw [hf])
        have HCH := hidI (fun i (hi : i ≤ (sta S j).far) => (chn_far hW hj i hi).1)
        clear hR e1 e2 hrc hnm hS hW hS0 ht0 hok hz w7 h7 hn1 hb hwc hf
        go_enter Tryd.func16, Tryd.ntmps16
        go_wp2_with (first | (refine r_boxv 9 (.tmp 1) (.string n) rfl (fun _ => rfl) rfl ?_; intro w1 B1 N1; have g1 := N1.gr; have b1 : Blk w1 B1 #[.string n] 9 := N1.blk; have l1 := N1.lo; have z1 := g1.size; have gg := gg.trans g1; have c1 : w1.cell? ⟨B1, 0, none⟩ = some (.string n) := b1.cell 0; clear N1) | (refine r_boxv 3 (.tmp 2) (.int .i64 k) rfl (fun _ => rfl) rfl ?_; intro w2 B2 N2; have g2 := N2.gr; have b2 : Blk w2 B2 #[.int .i64 k] 3 := N2.blk; have l2 := N2.lo; have z2 := g2.size; have b1 := g2.blk b1; have gg := gg.trans g2; have c1 := g2.cell c1; have c2 : w2.cell? ⟨B2, 0, none⟩ = some (.int .i64 k) := b2.cell 0; clear N2) | (refine r_ldc 9 (.tmp 4) ⟨B1, 0, none⟩ (.string n) rfl (Tryd.isAgg9 _) c1 rfl ?_) | (have zp := gg.size; go_at_call 37; refine (HA.out _ (gg.ml hm)).mono ?_; rintro e w3 ⟨g3, v, nx, rfl, IS⟩; have c2 := g3.cell c2; have b1 := g3.blk b1; have b2 := g3.blk b2; have gg := gg.trans g3; have hrow := own_up IS.row zp; obtain ⟨gB, cap, rfl, hlo, hcap⟩ := own_shape hrow h0))
        have hrg := HTR.out _ _ _ _ hrow
        refine q_whole (by kernel_rfl) (by kernel_rfl) ?_
        refine q_move _ (.bool true) rfl rfl ?_; simp only [Act.put, List.setIfInBounds_toArray, List.set_cons_succ, List.set_cons_zero]
        refine q_take (.bool false) rfl (fun w' hw' => by unfold execOp; simp [go_sem, Act.eval]) ?_
        simp only [Act.put, List.setIfInBounds_toArray, List.set_cons_succ, List.set_cons_zero]
        refine q_move _ (.bool false) rfl rfl ?_; simp only [Act.put, List.setIfInBounds_toArray, List.set_cons_succ, List.set_cons_zero]
        refine q_move _ (.slice (some ⟨gB, 0, none⟩) S.length cap) rfl rfl ?_; simp only [Act.put, List.setIfInBounds_toArray, List.set_cons_succ, List.set_cons_zero]
        refine q_take (.pointer (some ⟨gB, 0 * 43, Option.none⟩)) rfl (fun w' hw' => e_idxP _ _ (.slice (some ⟨gB, 0, Option.none⟩) S.length cap) (.int .i64 (0 : Nat)) _ rfl rfl (Tryd.stix gB S.length cap 0 h0 _)) ?_
        simp only [Act.put, List.setIfInBounds_toArray, List.set_cons_succ, List.set_cons_zero]
        refine q_take (.pointer (some ⟨gB, 0 * 43, none⟩)) rfl (fun w' hw' => e_val _ _ (Tryd.stf0 gB (0 * 43) _)) ?_; simp only [Act.put, List.setIfInBounds_toArray, List.set_cons_succ, List.set_cons_zero]
        refine q_take (.agg (gvG t0)) rfl (fun w' hw' => e_load_mid 72 (.tmp 22) gB (0 * 43) (gvG t0).toList _ rfl (fun j u hj => hw'.cell (hrg j u hj)) Tryd.underlying72 rfl (by rw [gvl]; exact Tryd.ginfo)) ?_
        simp only [Act.put, List.setIfInBounds_toArray, List.set_cons_succ, List.set_cons_zero]
        refine q_take (.int .i64 k) rfl (fun w' hw' => e_load 3 (.tmp 5) _ _ rfl (Tryd.isAgg3 _) (hw'.cell c2)) ?_; simp only [Act.put, List.setIfInBounds_toArray, List.set_cons_succ, List.set_cons_zero]
        refine q_call 38 [.tmp 23, .tmp 24] _ [.agg (gvG t0), .int .i64 k] (.bool true) Tryd.call38 rfl rfl (fun w' hw' => ((HHN.out w').mono fun e w'' h => ⟨h.1, hw'.trans h.2⟩)) ?_; simp only [Act.put, List.setIfInBounds_toArray, List.set_cons_succ, List.set_cons_zero]
        refine q_take (.bool false) rfl (fun w' hw' => by unfold execOp; simp [go_sem, Act.eval]) ?_
        simp only [Act.put, List.setIfInBounds_toArray, List.set_cons_succ, List.set_cons_zero]
        refine q_take (.bool false) rfl (fun w' hw' => by unfold execOp; simp [go_sem, Act.eval]) ?_
        simp only [Act.put, List.setIfInBounds_toArray, List.set_cons_succ, List.set_cons_zero]
        refine wpQuiet_nil ?_
        intro w9 g9
        have gg := gg.trans g9
        have hrow := g9.row hrow
        have b1 := g9.blk b1
        have b2 := g9.blk b2
        go_wp2_with (first | (go_at_call 39; refine (HIX.out _ gB cap B2 B1 nx hrow b2 b1).mono ?_; rintro e w5 ⟨rfl, g5⟩; rw [HFV.out]; have gg := gg.trans g5; have hrow := g5.row hrow) | (go_at_call 34; refine (wordTo_any S nx w.heap.size gB cap j _ hrow hj HCH.out).mono ?_; rintro e w6 ⟨rfl, g6⟩; have z6 := g6.size; have gg := gg.trans g6))
        go_ret2
        exact ⟨fin_sbC HN.out.symm HO.out.symm, gg⟩
end Go.Proofs.YtdebiobhmpoiiaaDoor
