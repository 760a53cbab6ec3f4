/-
  Hardest goals: the program's walk, the model's, and the law.
-/
import Derived.Test.YtamdmhclhjkogaaGreatDoorPuzH
import Derived.Test.YtamdmhclhjkogaaGreatDoorWayR
namespace Go.Proofs.YtamdmhclhjkogaaGreatDoor
open Go.RowKit
theorem leastN {p : Nat → Prop} [DecidablePred p] : ∀ n, (∃ i, i < n ∧ p i) → ∃ i, i < n ∧ p i ∧ ∀ j, j < i → ¬ p j
  | 0, ⟨i, hi, _⟩ => absurd hi (Nat.not_lt_zero _)
  | n + 1, h => by
    by_cases hn : ∃ i, i < n ∧ p i
    · obtain ⟨i, hi, h1, h2⟩ := leastN n hn
      exact ⟨i, by omega, h1, h2⟩
    · obtain ⟨i, hi, h1⟩ := h
      have : i = n := by
        rcases Nat.lt_or_ge i n with h | h
        · exact absurd ⟨i, h, h1⟩ hn
        · omega
      subst this
      exact ⟨i, hi, h1, fun j hj hp => hn ⟨j, hj, hp⟩⟩
theorem max_spec (L : List Int) : ∀ k, k < L.length → (∀ i, i < k + 1 → gi L i ≤ Lib.maxOf (L.take (k + 1))) ∧ ∃ i, i < k + 1 ∧ gi L i = Lib.maxOf (L.take (k + 1))
  | 0, h => by
    rw [Nat.zero_add, Lib.maxOf_one]
    exact ⟨fun i hi => by obtain rfl : i = 0 := by omega
                          exact Int.le_refl _, 0, by omega, rfl⟩
  | k + 1, h => by
    obtain ⟨h1, j, hj, h2⟩ := max_spec L k (by omega)
    rw [Lib.maxOf_step L (k + 1) (by omega) h]
    have e : L.getD (k + 1) 0 = gi L (k + 1) := rfl
    rw [e]
    refine ⟨fun i hi => ?_, ?_⟩
    · rcases Nat.lt_or_ge i (k + 1) with h' | h'
      · have := h1 i h'; omega
      · obtain rfl : i = k + 1 := by omega
        omega
    · by_cases hle : Lib.maxOf (L.take (k + 1)) ≤ gi L (k + 1)
      · exact ⟨k + 1, by omega, by omega⟩
      · exact ⟨j, by omega, by omega⟩
/-- What the library's functions find is the first one of the greatest. -/
theorem max_hg (L : List Int) (h : 0 < L.length) : HG L (Lib.idxOf (L.take L.length) (Lib.maxOf (L.take L.length))) (Lib.maxOf (L.take L.length)) := by
  obtain ⟨n, hn⟩ : ∃ n, L.length = n + 1 := ⟨L.length - 1, by omega⟩
  obtain ⟨h1, h2⟩ := max_spec L n (by omega)
  rw [← hn] at h1 h2
  obtain ⟨i, hi, h3, h4⟩ := leastN (p := fun i => gi L i = Lib.maxOf (L.take L.length)) L.length h2
  have e : Lib.idxOf (L.take L.length) (Lib.maxOf (L.take L.length)) = (i : Int) := Lib.idxOf_hit L L.length i _ hi (Nat.le_refl _) h3 h4
  rw [e]
  exact ⟨by omega, by omega, by rw [Int.toNat_natCast]; exact h3, h1, fun j hj => by
    rw [Int.toNat_natCast] at hj
    have a := h1 j (by omega)
    have b := h4 j hj
    omega⟩
/-- The hardest goal of a tray with a ball, and its length. -/
def hgP (l : List UInt8) (n : ByteArray) : Option (Int × Int) := match rbS l n with
  | none => none
  | some S => if (hgTo S (hd n) (sta S 0).t.c.length S.length).2 ≤ 40 then some (hgTo S (hd n) (sta S 0).t.c.length S.length) else none
def hgV : Option (Int × Int) → Value
  | none => .tuple #[.int .i64 0, .int .i64 0, .bool false]
  | some p => .tuple #[.int .i64 p.1, .int .i64 p.2, .bool true]
theorem hgP_none {l : List UInt8} {n : ByteArray} (h : rbS l n = none) : hgP l n = none := by unfold hgP; rw [h]
theorem hgP_far {l : List UInt8} {n : ByteArray} {S : List (Sta Grid)} (h : rbS l n = some S) (hf : ¬ (hgTo S (hd n) (sta S 0).t.c.length S.length).2 ≤ 40) : hgP l n = none := by unfold hgP; rw [h]; exact if_neg hf
theorem hgP_some {l : List UInt8} {n : ByteArray} {S : List (Sta Grid)} (h : rbS l n = some S) (hf : (hgTo S (hd n) (sta S 0).t.c.length S.length).2 ≤ 40) : hgP l n = some (hgTo S (hd n) (sta S 0).t.c.length S.length) := by unfold hgP; rw [h]; exact if_pos hf
/-- What is known of the states of a tray with a ball. -/
structure RbK (S : List (Sta Grid)) (b : UInt8) (N : Nat) : Prop where
  pos : 0 < S.length
  le : S.length ≤ 300
  n1 : 1 ≤ N
  n36 : N ≤ 36
  len : ∀ j, j < S.length → (sta S j).t.c.length = N
  w7 : (sta S 0).t.w ≤ 7
  h7 : (sta S 0).t.h ≤ 7
  nn : nn (sta S 0).t.w (sta S 0).t.h = N
  cb : ∀ j, j < S.length → 0 ≤ cbX S b j ∧ cbX S b j < N
  cbx : ∀ j, j < S.length → ixC (sta S j).t.c b (sta S j).t.c.length = cbX S b j
  hgi : ∀ m, m ≤ S.length → HgI S b N m
theorem rb_known {l : List UInt8} {n : ByteArray} {S : List (Sta Grid)} (h : rbS l n = some S) : RbK S (hd n) (sta S 0).t.c.length ∧ n = ⟨#[hd n]⟩ := by
  obtain ⟨hrc, hnm⟩ := rbS_some h
  obtain ⟨g, hp, hi⟩ := rcS_inv hrc
  have hix : 0 ≤ ixC g.c (hd n) g.c.length := by
    unfold rbS at h
    rw [hp] at h
    have h' : (if nameS n && decide (0 ≤ ixC g.c (hd n) g.c.length) then rcS l else none) = some S := h
    split at h'
    · rename_i hc
      rw [Bool.and_eq_true, decide_eq_true_eq] at hc
      exact hc.2
    · cases h'
  unfold nameS at hnm
  rw [Bool.and_eq_true, decide_eq_true_eq] at hnm
  obtain ⟨hc, h1, h2, hl⟩ := cel_of hp
  have ho := rc_one hp hnm.2 hix hrc
  have hb0 : hd n ≠ 0 := name_ne hnm.2
  have h0 := hi.pos
  have hN : (sta S 0).t.c.length = g.c.length := ho.len 0 h0
  have h36 : g.c.length ≤ 36 := by have := hc.len; have := hc.n36; omega
  have hcbx : ∀ j, j < S.length → ixC (sta S j).t.c (hd n) (sta S j).t.c.length = cbX S (hd n) j := fun j hj => (ixC_more hb0 rfl (by rw [ho.len j hj]; exact h36)).symm
  have hcb : ∀ j, j < S.length → 0 ≤ cbX S (hd n) j ∧ cbX S (hd n) j < g.c.length := fun j hj => by
    rw [← hcbx j hj]
    have h3 := ho.cnt j hj
    rw [← ho.len j hj] at h3 ⊢
    rcases ixC_cases (sta S j).t.c (hd n) (sta S j).t.c.length with ⟨e1, e2⟩ | ⟨k, e1, e2, -, -⟩
    · rw [cnt_no _ e2] at h3; cases h3
    · omega
  rw [hN]
  have hg0 := hi.good 0 h0
  refine ⟨⟨h0, hi.le, by omega, h36, ho.len, hg0.cel.w7, hg0.cel.h7, by rw [← hN]; exact hg0.cel.len.symm, hcb, hcbx, ?_⟩, one_of n hnm.1⟩
  intro m
  induction m with
  | zero => intro _; exact HgI.zero _ _ _
  | succ m ih =>
    intro hm
    exact (ih (by omega)).step (by omega) (hcb m (by omega)).1 (hcb m (by omega)).2 hi.mono
theorem Tryz.intsH : ElemInfo Tryz.prog 52 3 (.int .i64 0) 1 8 := ⟨Tryz.underlying52, by kernel_rfl, rfl, by decide⟩
theorem Tryz.bsiH (u : Int) (w : World) : (Instr.buildSlice 52 1 #[(0, .int .i64 u)]).run Tryz.prog w = .ok (.slice (some ⟨w.heap.size, 0, none⟩) 1 1) (w.alloc (.cells #[.int .i64 u] 3)) := by kernel_rfl
theorem Tryz.nsixH (g n cap k : Nat) (hk : k < n) (w : World) : (Instr.indexAt 52 (.slice (some ⟨g, 0, none⟩) n cap) (.int .i64 k)).run Tryz.prog w = .ok (.pointer (some ⟨g, k, none⟩)) w := by
  have he : Tryz.prog.elem 52 = 3 := by kernel_rfl
  have hu : Tryz.prog.underlying 52 = some (.slice (Tryz.prog.elem 52)) := by rw [he]; exact Tryz.underlying52
  have hs : (sizeOf 3).run Tryz.prog w = .ok 1 w := by kernel_rfl
  rw [run_indexAt_slice w 52 ⟨g, 0, none⟩ n cap .i64 k hu, if_pos (by omega), he]
  simp [hs, Result.andThen, add_flat]
theorem rec_rangeH {w : World} {B : Nat} {s : Sta Grid} {sl nv : Value} {T : TypeId} (h : Blk w B (recS s sl nv) T) : w.rangeAt B 0 (tg s.t.w s.t.h sl).toList := by
  intro j u hj
  have h3 : j < 3 := by
    rcases Nat.lt_or_ge j 3 with h | h
    · exact h
    · rw [List.getElem?_eq_none (by show 3 ≤ j; exact h)] at hj; cases hj
  rw [Nat.zero_add, h.cell j]
  have hj' : j = 0 ∨ j = 1 ∨ j = 2 := by omega
  rcases hj' with rfl | rfl | rfl <;> exact hj
theorem Tryz.stzeroH (w : World) : (zeroValue 87).run Tryz.prog w = .ok (.agg (newL ⟨0, 0, []⟩ 0 0 0 0).toArray) w := by kernel_rfl
theorem Tryz.stinfoH : (Tryz.prog.info? 87).map (·.size) = some 43 := by kernel_rfl
theorem wholeH {base g cap : Nat} {w : World} {S : List (Sta Grid)} {nx : Nat → Value} (h : w.ownsRow base 87 43 (.slice (some ⟨g, 0, none⟩) S.length cap) S.length (rowsI S nx).flatten) {j : Nat} (hj : j < S.length) :
    w.rangeAt g (j * 43) (cellS (sta S j) (nx j)).toArray.toList := by
  have := own_flat_range h (rowsI_wide _ _) (rowsI_length _ _) hj (o := 0) (cs := (cellS (sta S j) (nx j)).toArray.toList) (by simp [cellS_length]) (fun i hi => by
    rw [rowsI_get S nx j hj, Nat.zero_add])
  rwa [Nat.add_zero] at this
theorem Tryz.cgP2 (B : Nat) (w : World) : (Instr.fieldAt 45 (.pointer (some ⟨B, 0, none⟩)) 2).run Tryz.prog w = .ok (.pointer (some ⟨B, 2, none⟩)) w := by kernel_rfl
set_option maxHeartbeats 1000000 in
set_option maxRecDepth 100000 in
theorem index36P_any (B : Nat) (c : List UInt8) (b : UInt8) (w : World) (hcc : ∀ i, i < 36 → w.cell? ⟨B, 2 + i, none⟩ = some (.int .u8 (at0 c i).toNat)) :
    Calls Tryz.prog 52 #[.slice (some ⟨B, 2, none⟩) 36 36, .int .u8 b.toNat] w (Ret (.int .i64 (ixC c b 36)) w) := by
  have gg := Gr.refl w
  have HCC := hidI hcc
  clear hcc
  go_enter Tryz.func52, Tryz.ntmps52
  go_wp2
  go_loop [5, 8] (fun _ i => ∃ k : Nat, k ≤ 36 ∧ i = .int .i64 k ∧ Hid (∀ j, j < k → at0 c j ≠ b)) (fun _ i => 36 - (intOf i).toNat)
  case atStart => exact ⟨0, Nat.zero_le _, rfl, fun j hj => by omega⟩
  case round =>
    obtain ⟨k, hk, rfl, HA⟩ := hrel
    by_cases hlt : k < 36
    · have hc := HCC.out k hlt
      by_cases hb : at0 c k = b
      · have e1 : ((b.toNat : Int) == ((at0 c k).toNat : Int)) = true := beq_byte hb.symm
        have HV := hidI (ixC_some hlt hb HA.out)
        clear hb
        go_wp2
        go_ret
        exact ⟨ret_int HV.out.symm, gg⟩
      · have e1 : ((b.toNat : Int) == ((at0 c k).toNat : Int)) = false := bne_byte (fun e => hb e.symm)
        have HB := hidI hb
        clear hb
        go_wp2
        go_round
        case rel => exact ⟨k + 1, by omega, by go_num, fun j hj => if h : j < k then HA.out j h else by rw [show j = k by omega]; exact HB.out⟩
        case measure => simp [intOf]; omega
    · obtain rfl : k = 36 := by omega
      have HV := hidI (ixC_none HA.out)
      clear hlt
      go_wp2
      go_ret
      exact ⟨ret_int HV.out.symm, gg⟩
theorem Tryz.stix0 (B n cap : Nat) (hx : 0 < n) (w : World) : (Instr.indexAt 51 (.slice (some ⟨B, 0, none⟩) n cap) (.int .i64 0)).run Tryz.prog w = .ok (.pointer (some ⟨B, 0, none⟩)) w := by
  have := Tryz.stix B n cap 0 hx w
  rw [Nat.zero_mul] at this
  exact this
theorem rowGrid {base g cap : Nat} {w : World} {S : List (Sta Grid)} {nx : Nat → Value} (h : w.ownsRow base 87 43 (.slice (some ⟨g, 0, none⟩) S.length cap) S.length (rowsI S nx).flatten) (h0 : 0 < S.length) : w.rangeAt g 0 (gvG (sta S 0).t).toList := by
  have hr := wholeH h h0
  intro i u hi
  have h38 : i < 38 := by
    rcases Nat.lt_or_ge i 38 with h | h
    · exact h
    · rw [List.getElem?_eq_none (by rw [gvl]; exact h)] at hi; cases hi
  have := hr i u (by rw [cellS_hd (sta S 0) (nx 0) i h38]; exact hi)
  rwa [Nat.zero_mul] at this
set_option maxHeartbeats 4000000 in
set_option maxRecDepth 100000 in
theorem lengths_any (S : List (Sta Grid)) (b : UInt8) (N base : Nat) (v : Value) (nx : Nat → Value) (w : World) (K : RbK S b N) (hnx : ∀ j, j < S.length → (nx j).oneCell' = true)
    (row : w.ownsRow base 87 43 v S.length (rowsI S nx).flatten) : Calls Tryz.prog 33 #[v, .int .u8 b.toNat] w (RetRow 3 (lenTo S b N S.length) w) := by
  have gg := Gr.refl w
  have h0 := K.pos
  obtain ⟨gB, cap, rfl, -, -⟩ := own_shape row h0
  have hg0 := rowGrid row h0
  obtain ⟨t0, ht0⟩ : ∃ t, t = (sta S 0).t := ⟨_, rfl⟩
  have HCA := hidI (fun w' => show Calls Tryz.prog 30 #[.agg (gvG t0)] w' (Ret (.int .i64 (N : Int)) w') from by
    rw [ht0, ← K.nn]; exact countAll_any _ _ _ w' K.w7 K.h7)
  have HRP := hidI (fun (w' : World) (B : Nat) (hb : Blk w' B #[.int .i64 (-1)] 3) => repeat_any N B w' hb K.n1 K.n36)
  rw [← ht0] at hg0
  have h300 := K.le
  have n36 := K.n36
  have n1 := K.n1
  have HCB := hidI K.cb
  have HNX := hidI hnx
  have HGI := hidI (fun m (hm : m < S.length) => (K.hgi m (by omega)).lo)
  clear ht0 K hnx
  go_enter Tryz.func33, Tryz.ntmps33
  go_wp2_with (first | (refine r_slice1 52 3 (.const (.int .i64 (-1))) (.int .i64 (-1)) rfl (Tryz.bsiH _ _) rfl ?_; intro w9 B9 N9; have g9 := N9.gr; have b9 := N9.blk; have row := g9.row row; have hg0 : w9.rangeAt gB 0 (gvG t0).toList := fun i u hi => g9.cell (hg0 i u hi); have gg := gg.trans g9) | (refine r_idx 51 _ _ (.slice (some ⟨gB, 0, none⟩) S.length cap) (.int .i64 0) _ rfl rfl (Tryz.stix0 gB S.length cap h0 _) rfl ?_) | (refine r_fld 87 _ 0 (.pointer (some ⟨gB, 0, none⟩)) (.pointer (some ⟨gB, 0, none⟩)) rfl (Tryz.stf0 gB 0 _) rfl ?_) | (refine r_ldm 45 _ gB 0 (gvG t0) _ rfl hg0 Tryz.underlying45 rfl (Tryz.ginfo' _ _ _) rfl ?_) | ((go_at_call 30; refine (HCA.out _).mono ?_; rintro e w10 ⟨rfl, g10⟩; have z10 := g10.size; have b9 := g10.blk b9; have gg := gg.trans g10); have row := g10.row row) | (have zb := gg.size; go_at_call 51; refine (HRP.out _ _ b9).mono ?_; rintro e w11 ⟨g11, v11, rfl, own11⟩; have row := g11.row row; have gg := gg.trans g11))
  have own11 := own_up own11 zb
  obtain ⟨G, capG, rfl, -, -⟩ := own_shape own11 (by rw [List.length_replicate]; exact n1)
  rw [List.length_replicate] at own11 ⊢
  have own0 : w11.ownsRow w.heap.size 3 1 (.slice (some ⟨G, 0, none⟩) N capG) N (intsV (lenTo S b N 0)) := own11
  clear own11 hg0
  go_loopw [18] (fun iv wr => ∃ m : Nat, m ≤ S.length ∧ iv = .int .i64 m ∧ wr.ownsRow w.heap.size 3 1 (.slice (some ⟨G, 0, none⟩) N capG) N (intsV (lenTo S b N m)) ∧ wr.ownsRow base 87 43 (.slice (some ⟨gB, 0, none⟩) S.length cap) S.length (rowsI S nx).flatten ∧ Gr w wr) (fun iv _ => S.length - (intOf iv).toNat)
  case atStart => exact ⟨0, Nat.zero_le _, rfl, own0, row, gg⟩
  case round =>
    clear own0 row gg
    obtain ⟨m, hm, rfl, own, row, gg⟩ := hrel
    have zr := gg.size
    by_cases hlt : m < S.length
    · have cr := wholeH row hlt
      have hgB := (row.lt gB rfl).2
      have hneB : ∀ q, wr.heap.size ≤ q → q ≠ gB := fun q hq e => by omega
      obtain ⟨st, hst⟩ : ∃ st, st = sta S m := ⟨_, rfl⟩
      obtain ⟨v0, hv0⟩ : ∃ v0, v0 = nx m := ⟨_, rfl⟩
      obtain ⟨h1, h2⟩ := HCB.out m hlt
      obtain ⟨x, hx⟩ : ∃ x : Nat, cbX S b m = (x : Int) := ⟨(cbX S b m).toNat, by omega⟩
      have hxN : x < N := by omega
      have HON := hidI (show ∀ u ∈ (cellS st v0).toArray.toList, u.oneCell' = true from cellS_one _ _ (by rw [hv0]; exact HNX.out m hlt))
      have HSZ := hidI (show (cellS st v0).toArray.size = 43 from by rw [List.size_toArray, cellS_length])
      have HIX := hidI (fun (W' : World) (A : Nat) (h : Blk W' A (cellS st v0).toArray 87) => show Calls Tryz.prog 52 #[.slice (some ⟨A, 2, none⟩) 36 36, .int .u8 b.toNat] W' (Ret (.int .i64 (x : Int)) W') from by
        have := index36P_any A st.t.c b W' (fun i hi => by
          rw [h.cell (2 + i), List.getElem?_toArray, cellS_hd st v0 (2 + i) (by omega)]
          have e := gv_c st.t.w st.t.h st.t.c i hi
          rw [← Array.getElem?_toList] at e
          exact e)
        rw [← hx]
        rw [hst] at *
        exact this)
      have HFR := hidI (fun (W' : World) (A : Nat) (h : Blk W' A (cellS st v0).toArray 87) => show W'.cell? ⟨A, 38, none⟩ = some (.int .i64 (st.far : Int)) from (h.cell 38).trans (by rw [List.getElem?_toArray]; exact cellS_tl st v0 0))
      have HLN := hidI (show lenTo S b N (m + 1) = if gi (lenTo S b N m) x < 0 then (lenTo S b N m).set x (st.far : Int) else lenTo S b N m from by
        rw [hst]
        have e : (cbX S b m).toNat = x := by rw [hx]; exact Int.toNat_natCast x
        rw [← e]
        rfl)
      have hcx := own_int own x hxN (by rw [lenTo_length])
      obtain ⟨y, hy⟩ : ∃ y, y = gi (lenTo S b N m) x := ⟨_, rfl⟩
      have HY := hidI hy
      rw [← hy] at hcx HLN
      rw [← hst, ← hv0] at cr
      clear hst hv0 hx hy
      by_cases hneg : y < 0
      · have HL2 := hidI (show (lenTo S b N m).set x (st.far : Int) = lenTo S b N (m + 1) from by rw [HLN.out, if_pos hneg])
        go_wp2_with (first | (refine r_idx 51 _ _ (.slice (some ⟨gB, 0, none⟩) S.length cap) (.int .i64 m) _ rfl rfl (Tryz.stix gB S.length cap m hlt _) rfl ?_) | (refine r_ldm 87 _ gB (m * 43) (cellS st v0).toArray _ rfl cr Tryz.underlying87 rfl (by rw [HSZ.out]; exact Tryz.stinfoH) rfl ?_) | (refine r_alloc (dst := some 7) 87 _ Tryz.stzeroH rfl ?_; intro w7 B7 N7; have g7 := N7.gr; have b7 : Blk w7 B7 (newL ⟨0, 0, []⟩ 0 0 0 0).toArray 87 := N7.blk; have l7 := N7.lo; have z7 := g7.size; have own := g7.row own; have row := g7.row row; have gg := gg.trans g7; have hcx := g7.cell hcx; clear N7) | (refine r_store_row 87 87 _ _ B7 rfl (cellS st v0).toArray _ rfl b7 (by intro w; rw [HSZ.out]; exact Tryz.sizeOf87 w) (by rw [HSZ.out, List.size_toArray, newL_length]) HON.out rfl ?_; intro w8 u8 b8; have own := u8.row own (own_ne own b7 (by decide)); have row := u8.row row (fun e => by cases e; exact hneB _ l7 rfl); have hf8 := HFR.out _ _ b8; have z8 := u8.size; have gg := u8.gr gg (by omega)) | (refine r_fld 87 _ 0 (.pointer (some ⟨B7, 0, none⟩)) (.pointer (some ⟨B7, 0, none⟩)) rfl (Tryz.stf0 B7 0 _) rfl ?_) | (refine r_fld 45 _ 2 (.pointer (some ⟨B7, 0, none⟩)) (.pointer (some ⟨B7, 2, none⟩)) rfl (Tryz.cgP2 B7 _) rfl ?_) | (refine r_val (.slice (some ⟨B7, 2, none⟩) 36 36) (e_val _ _ (Tryz.gall B7 _)) rfl ?_) | (go_at_call 52; refine (HIX.out _ _ b8).mono ?_; rintro e w9 ⟨rfl, g9⟩; have own := g9.row own; have row := g9.row row; have hf8 := g9.cell hf8; have hcx := own_int own x hxN (by rw [lenTo_length]); rw [← HY.out] at hcx; have gg := gg.trans g9) | (refine r_idx 52 _ _ (.slice (some ⟨G, 0, none⟩) N capG) (.int .i64 x) _ rfl rfl (Tryz.nsixH G N capG x hxN _) rfl ?_) | (refine r_ldc 3 _ ⟨G, x, none⟩ (.int .i64 y) rfl (Tryz.isAgg3 _) hcx rfl ?_) | (refine r_fld 87 _ 1 (.pointer (some ⟨B7, 0, none⟩)) (.pointer (some ⟨B7, 38, none⟩)) rfl (Tryz.stf1 B7 0 _) rfl ?_) | (refine r_ldc 3 _ ⟨B7, 38, none⟩ (.int .i64 (st.far : Int)) rfl (Tryz.isAgg3 _) hf8 rfl ?_) | (refine r_store_own 3 3 _ _ G x N capG w.heap.size _ rfl (.int .i64 (st.far : Int)) rfl own hxN Tryz.sizeOf3 rfl rfl ?_; intro w10 u10 own10; rw [intsV_set, HL2.out] at own10))
        have row := u10.row row (own_neS row own (by decide))
        have gg := u10.gr gg (own_gr own (Nat.le_refl _) _ rfl)
        go_roundw
        case rel => exact ⟨m + 1, by omega, by go_num, own10, row, gg⟩
        case measure => simp [intOf]; omega
      · have HL2 := hidI (show lenTo S b N m = lenTo S b N (m + 1) from by rw [HLN.out, if_neg hneg])
        have hge : 0 ≤ y := by omega
        clear hneg
        go_wp2_with (first | (refine r_idx 51 _ _ (.slice (some ⟨gB, 0, none⟩) S.length cap) (.int .i64 m) _ rfl rfl (Tryz.stix gB S.length cap m hlt _) rfl ?_) | (refine r_ldm 87 _ gB (m * 43) (cellS st v0).toArray _ rfl cr Tryz.underlying87 rfl (by rw [HSZ.out]; exact Tryz.stinfoH) rfl ?_) | (refine r_alloc (dst := some 7) 87 _ Tryz.stzeroH rfl ?_; intro w7 B7 N7; have g7 := N7.gr; have b7 : Blk w7 B7 (newL ⟨0, 0, []⟩ 0 0 0 0).toArray 87 := N7.blk; have l7 := N7.lo; have z7 := g7.size; have own := g7.row own; have row := g7.row row; have gg := gg.trans g7; have hcx := g7.cell hcx; clear N7) | (refine r_store_row 87 87 _ _ B7 rfl (cellS st v0).toArray _ rfl b7 (by intro w; rw [HSZ.out]; exact Tryz.sizeOf87 w) (by rw [HSZ.out, List.size_toArray, newL_length]) HON.out rfl ?_; intro w8 u8 b8; have own := u8.row own (own_ne own b7 (by decide)); have row := u8.row row (fun e => by cases e; exact hneB _ l7 rfl); have z8 := u8.size; have gg := u8.gr gg (by omega)) | (refine r_fld 87 _ 0 (.pointer (some ⟨B7, 0, none⟩)) (.pointer (some ⟨B7, 0, none⟩)) rfl (Tryz.stf0 B7 0 _) rfl ?_) | (refine r_fld 45 _ 2 (.pointer (some ⟨B7, 0, none⟩)) (.pointer (some ⟨B7, 2, none⟩)) rfl (Tryz.cgP2 B7 _) rfl ?_) | (refine r_val (.slice (some ⟨B7, 2, none⟩) 36 36) (e_val _ _ (Tryz.gall B7 _)) rfl ?_) | (go_at_call 52; refine (HIX.out _ _ b8).mono ?_; rintro e w9 ⟨rfl, g9⟩; have own := g9.row own; have row := g9.row row; have hcx := own_int own x hxN (by rw [lenTo_length]); rw [← HY.out] at hcx; have gg := gg.trans g9) | (refine r_idx 52 _ _ (.slice (some ⟨G, 0, none⟩) N capG) (.int .i64 x) _ rfl rfl (Tryz.nsixH G N capG x hxN _) rfl ?_) | (refine r_ldc 3 _ ⟨G, x, none⟩ (.int .i64 y) rfl (Tryz.isAgg3 _) hcx rfl ?_))
        go_roundw
        case rel => exact ⟨m + 1, by omega, by go_num, by rw [← HL2.out]; exact own, row, gg⟩
        case measure => simp [intOf]; omega
    · obtain rfl : m = S.length := by omega
      clear hlt
      go_wp2
      go_ret
      exact ⟨gg, _, rfl, by rw [lenTo_length]; exact own⟩
theorem fin_hg {v u : Value} (h : v = u) : Ending.returned v = .returned u := by rw [h]
set_option maxHeartbeats 2000000 in
set_option maxRecDepth 100000 in
theorem iHardestGoal (s n : ByteArray) (w : World) (hm : ML w) (hs : s.size ≤ 1048576) : Calls Tryz.prog 19 #[.string s, .string n] w (Ret (hgV (hgP s.data.toList n)) w) := by
  have gg := Gr.refl w
  have HA := readStatesOfBall_any s n w hm hs
  unfold RetI at HA
  cases hR : rbS s.data.toList n with
  | none =>
    rw [hR] at HA
    have HV := hidI (hgP_none hR)
    clear hR
    go_enter Tryz.func19, Tryz.ntmps19
    go_wp2_with (go_at_call 32; refine HA.mono ?_; rintro e w1 ⟨g1, rfl⟩; have gg := gg.trans g1)
    go_ret3
    exact ⟨fin_hg (by rw [HV.out]; rfl), gg⟩
  | some S =>
    rw [hR] at HA
    obtain ⟨K, hn⟩ := rb_known hR
    obtain ⟨b, hb⟩ : ∃ b, b = hd n := ⟨_, rfl⟩
    obtain ⟨N, hN⟩ : ∃ N, N = (sta S 0).t.c.length := ⟨_, rfl⟩
    have hfar := fun h => hgP_far hR h
    have hsom := fun h => hgP_some hR h
    rw [← hb, ← hN] at K hfar hsom
    rw [← hb] at hn
    subst hn
    have h0 := K.pos
    have h300 := K.le
    have n1 := K.n1
    have n36 := K.n36
    obtain ⟨hg, -⟩ := (K.hgi S.length (Nat.le_refl _)).hg h0
    have hL := lenTo_length S b N S.length
    have hx := max_hg (lenTo S b N S.length) (by omega)
    obtain ⟨e1, e2⟩ := hx.uniq hg
    obtain ⟨goal, hgo⟩ : ∃ x, x = (hgTo S b N S.length).1 := ⟨_, rfl⟩
    obtain ⟨most, hmo⟩ : ∃ x, x = (hgTo S b N S.length).2 := ⟨_, rfl⟩
    obtain ⟨L, hLe⟩ : ∃ L, L = lenTo S b N S.length := ⟨_, rfl⟩
    rw [← hLe] at e1 e2 hL
    rw [← hmo] at e2
    rw [e2, ← hgo] at e1
    rw [hL] at e1 e2
    have HLC := hidI (fun (w' : World) (v : Value) (nx : Nat → Value) (base : Nat) (hnx : ∀ j, j < S.length → (nx j).oneCell' = true) (row : w'.ownsRow base 87 43 v S.length (rowsI S nx).flatten) => show Calls Tryz.prog 33 #[v, .int .u8 b.toNat] w' (RetRow 3 L w') from hLe ▸ lengths_any S b N base v nx w' K hnx row)
    have HMX := hidI (fun (w' : World) (G cap base : Nat) (own : w'.ownsRow base 3 1 (.slice (some ⟨G, 0, none⟩) N cap) N (intsV L)) => show Calls Tryz.prog 34 #[.slice (some ⟨G, 0, none⟩) N cap] w' (fun e w2 => e = .returned (.int .i64 most) ∧ w2 = w') from by
      have h := Tryz.slices_Max_int G 0 N cap L w' n1 (by omega) (by omega) (fun j hj => by rw [Nat.zero_add]; exact own_int own j (by omega) hL.symm)
      rw [e2] at h
      exact h)
    have HIXI := hidI (fun (w' : World) (G cap base : Nat) (own : w'.ownsRow base 3 1 (.slice (some ⟨G, 0, none⟩) N cap) N (intsV L)) => show Calls Tryz.prog 35 #[.slice (some ⟨G, 0, none⟩) N cap, .int .i64 most] w' (fun e w2 => e = .returned (.int .i64 goal) ∧ w2 = w') from by
      have h := Tryz.slices_Index_int G 0 N cap L most w' (by omega) (by omega) (fun j hj => by rw [Nat.zero_add]; exact own_int own j (by omega) hL.symm)
      rw [e1] at h
      exact h)
    have HL := hidI hL
    rw [← hmo] at hfar hsom
    have HGO := hidI hgo
    have HMO := hidI hmo
    by_cases h40 : most ≤ 40
    · have HV := hidI (hsom h40)
      clear hR hfar hsom hb hN hg hx e1 e2 hgo hmo hLe K hL
      go_enter Tryz.func19, Tryz.ntmps19
      go_wp2_with (first | (go_at_call 32; refine HA.mono ?_; rintro e w1 ⟨g1, v, nx, rfl, IS⟩; have gg := gg.trans g1) | (refine r_val (.int .u8 b.toNat) (e_val _ _ (s_idx0 Tryz.underlying9 b _)) rfl ?_) | (go_at_call 33; refine (HLC.out _ v nx _ (fun j hj => own_one (IS.nxt j hj)) IS.row).mono ?_; rintro e w2 ⟨g2, v2, rfl, own2⟩; have gg := gg.trans g2; rw [HL.out] at own2; obtain ⟨G2, c2, rfl, -, -⟩ := own_shape own2 n1) | (go_at_call 34; refine (HMX.out _ _ _ _ own2).mono ?_; rintro e wSame ⟨rfl, rfl⟩) | (go_at_call 35; refine (HIXI.out _ _ _ _ own2).mono ?_; rintro e wSame ⟨rfl, rfl⟩))
      go_ret3
      exact ⟨fin_hg (by rw [HV.out, HGO.out, HMO.out]; rfl), gg⟩
    · have HV := hidI (hfar h40)
      have h40' : 40 < most := by omega
      clear hR hfar hsom hb hN hg hx e1 e2 hgo hmo hLe K hL h40
      go_enter Tryz.func19, Tryz.ntmps19
      go_wp2_with (first | (go_at_call 32; refine HA.mono ?_; rintro e w1 ⟨g1, v, nx, rfl, IS⟩; have gg := gg.trans g1) | (refine r_val (.int .u8 b.toNat) (e_val _ _ (s_idx0 Tryz.underlying9 b _)) rfl ?_) | (go_at_call 33; refine (HLC.out _ v nx _ (fun j hj => own_one (IS.nxt j hj)) IS.row).mono ?_; rintro e w2 ⟨g2, v2, rfl, own2⟩; have gg := gg.trans g2; rw [HL.out] at own2; obtain ⟨G2, c2, rfl, -, -⟩ := own_shape own2 n1) | (go_at_call 34; refine (HMX.out _ _ _ _ own2).mono ?_; rintro e wSame ⟨rfl, rfl⟩) | (go_at_call 35; refine (HIXI.out _ _ _ _ own2).mono ?_; rintro e wSame ⟨rfl, rfl⟩))
      go_ret3
      exact ⟨fin_hg (by rw [HV.out]; rfl), gg⟩
end Go.Proofs.YtamdmhclhjkogaaGreatDoor
