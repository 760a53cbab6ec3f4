/-
  The cells that a ball comes to: in the program and in the model, and the law.
-/
import Derived.Test.YtoadoeahbekkoaaGreatDoorCellsP
import Derived.Test.YtoadoeahbekkoaaGreatDoorBTi
namespace Go.Proofs.YtoadoeahbekkoaaGreatDoor
open Go.RowKit Go.Lib Go.Sort
/-- Where the ball stands in state j. -/
def cbX (S : List (Sta Grid)) (b : UInt8) (j : Nat) : Int := ixC (sta S j).t.c b 36
theorem cbX_in (S : List (Sta Grid)) (b : UInt8) (j : Nat) : -1 ≤ cbX S b j ∧ cbX S b j < 36 := by
  unfold cbX
  rcases ixC_cases (sta S j).t.c b 36 with ⟨h, -⟩ | ⟨k, hk, h, -, -⟩ <;> omega
def cbS (S : List (Sta Grid)) (b : UInt8) : List Int := ((List.range 37).map fun k : Nat => (k : Int) - 1).filter fun x => (List.range S.length).any fun j => decide (cbX S b j = x)
theorem cbS_lt (S : List (Sta Grid)) (b : UInt8) : (cbS S b).Pairwise (· < ·) := by
  unfold cbS
  refine List.Pairwise.filter _ ?_
  rw [List.pairwise_map]
  exact List.Pairwise.imp (fun h => by omega) List.pairwise_lt_range
theorem mem_cbS (S : List (Sta Grid)) (b : UInt8) (x : Int) : x ∈ cbS S b ↔ ∃ j, j < S.length ∧ cbX S b j = x := by
  unfold cbS
  rw [List.mem_filter, List.any_eq_true]
  constructor
  · rintro ⟨-, j, hj, h⟩
    exact ⟨j, List.mem_range.1 hj, of_decide_eq_true h⟩
  · rintro ⟨j, hj, rfl⟩
    have := cbX_in S b j
    exact ⟨List.mem_map.2 ⟨(cbX S b j + 1).toNat, List.mem_range.2 (by omega), by omega⟩, j, List.mem_range.2 hj, decide_eq_true rfl⟩
theorem cbS_le (S : List (Sta Grid)) (b : UInt8) : (cbS S b).length ≤ 37 := by
  unfold cbS
  exact Nat.le_trans (List.length_filter_le _ _) (by simp)
def cbL (l : List UInt8) (n : ByteArray) : List Int := match rbS l n with
  | none => []
  | some S => cbS S (hd n)
def cbOk (l : List UInt8) (n : ByteArray) : Bool := (rbS l n).isSome
theorem cbL_le (l : List UInt8) (n : ByteArray) : (cbL l n).length ≤ 37 := by
  unfold cbL
  cases rbS l n with
  | none => exact Nat.zero_le _
  | some S => exact cbS_le S _
theorem rbS_some {l : List UInt8} {n : ByteArray} {S : List (Sta Grid)} (h : rbS l n = some S) : rcS l = some S ∧ nameS n = true := by
  unfold rbS at h
  cases hp : parse l with
  | none => rw [hp] at h; cases h
  | some g =>
    rw [hp] at h
    have h' : (if nameS n && decide (0 ≤ ixC g.c (hd n) g.c.length) then rcS l else none) = some S := h
    split at h'
    · rename_i hc
      rw [Bool.and_eq_true] at hc
      exact ⟨h', hc.1⟩
    · cases h'
/-- The list so far: increasing, and with the cells of the first k states. -/
structure Inc (S : List (Sta Grid)) (b : UInt8) (k : Nat) (O : List Int) : Prop where
  lt : O.Pairwise (· < ·)
  mem : ∀ x, x ∈ O ↔ ∃ j, j < k ∧ cbX S b j = x
  le : O.length ≤ k
theorem Inc.done {S : List (Sta Grid)} {b : UInt8} {O : List Int} (h : Inc S b S.length O) : O = cbS S b :=
  strict_eq h.lt (cbS_lt S b) fun x => by rw [h.mem, mem_cbS]
theorem Inc.stay {S : List (Sta Grid)} {b : UInt8} {k : Nat} {O : List Int} (h : Inc S b k O) (hx : cbX S b k ∈ O) : Inc S b (k + 1) O :=
  ⟨h.lt, fun x => by
    rw [h.mem]
    constructor
    · rintro ⟨j, hj, e⟩; exact ⟨j, by omega, e⟩
    · rintro ⟨j, hj, e⟩
      rcases Nat.lt_or_ge j k with h' | h'
      · exact ⟨j, h', e⟩
      · obtain rfl : j = k := by omega
        exact (h.mem x).1 (e ▸ hx), by have := h.le; omega⟩
theorem Inc.put {S : List (Sta Grid)} {b : UInt8} {k : Nat} {O O' : List Int} (h : Inc S b k O) (h1 : O'.Pairwise (· < ·)) (h2 : ∀ x, x ∈ O' ↔ x = cbX S b k ∨ x ∈ O) (h3 : O'.length = O.length + 1) : Inc S b (k + 1) O' :=
  ⟨h1, fun x => by
    rw [h2, h.mem]
    constructor
    · rintro (rfl | ⟨j, hj, e⟩)
      · exact ⟨k, by omega, rfl⟩
      · exact ⟨j, by omega, e⟩
    · rintro ⟨j, hj, e⟩
      rcases Nat.lt_or_ge j k with h' | h'
      · exact .inr ⟨j, h', e⟩
      · obtain rfl : j = k := by omega
        exact .inl e.symm, by have := h.le; omega⟩
def RetP2 (T : TypeId) (L : List Int) (ok : Bool) (w : World) (e : Ending) (w' : World) : Prop :=
  Gr w w' ∧ ∃ v, e = .returned (.tuple #[v, .bool ok]) ∧ w'.ownsRow w.heap.size T 1 v L.length (intsV L)
set_option maxHeartbeats 1000000 in
set_option maxRecDepth 100000 in
theorem tiPlace_any (W H : Int) (base : Nat) (c : List UInt8) (b : UInt8) (G cap : Nat) (w : World) (h36 : c.length ≤ 36) (hown : w.ownsRow base 5 1 (.slice (some ⟨G, 0, none⟩) c.length cap) c.length (cellsV c)) :
    Calls Tryz.prog 19 #[.agg (tg W H (.slice (some ⟨G, 0, none⟩) c.length cap)), .int .u8 b.toNat] w (Ret (.int .i64 (ixC c b c.length)) w) := by
  have gg := Gr.refl w
  go_enter Tryz.func19, Tryz.ntmps19
  go_wp2_with (refine r_box 43 _ (tg (W) (H) (.slice (some ⟨G, 0, none⟩) c.length cap)) rfl rfl ?_; intro w1 B1 N1; have g1 := N1.gr; have b1 : Blk w1 B1 (tg (W) (H) (.slice (some ⟨G, 0, none⟩) c.length cap)) 43 := N1.blk; have l1 := N1.lo; have t1 := N1.hi; have z1 := g1.size; have gg := gg.trans g1; clear N1; obtain ⟨b1_0, b1_1, b1_2⟩ := tcells b1)
  have own := g1.row hown
  go_loop [5, 6, 10] (fun _ _ i => ∃ k : Nat, k ≤ c.length ∧ i = .int .i64 k ∧ Hid (∀ j, j < k → at0 c j ≠ b)) (fun _ _ i => c.length - (intOf i).toNat)
  case atStart => exact ⟨0, Nat.zero_le _, rfl, fun j hj => by omega⟩
  case round =>
    obtain ⟨k, hk, rfl, HA⟩ := hrel
    by_cases hlt : k < c.length
    · have hck := own_cell own k hlt rfl
      have hix := Tryz.six0 G c.length cap k hlt
      by_cases hb : at0 c k = b
      · have e1 := beq_byte hb
        have HV := hidI (ixC_some hlt hb HA.out)
        clear hb
        go_wp2
        go_ret
        exact ⟨ret_int HV.out.symm, gg⟩
      · have e1 := bne_byte hb
        have HB := hidI hb
        clear hb
        go_wp2
        go_round
        case rel => exact ⟨k + 1, by omega, by go_num, fun j hj => if h : j < k then HA.out j h else by rw [show j = k by omega]; exact HB.out⟩
        case measure => simp [intOf]; omega
    · obtain rfl : k = c.length := by omega
      have HV := hidI (ixC_none HA.out)
      clear hlt
      go_wp2
      go_ret
      exact ⟨ret_int HV.out.symm, gg⟩
def cbIn (L : List Int) (x : Int) : Bool := L.contains x
theorem cbIn_iff {L : List Int} {x : Int} : cbIn L x = true ↔ x ∈ L := by unfold cbIn; rw [List.contains_iff_mem]
theorem cb_gi_mem {L : List Int} {i : Nat} (h : i < L.length) : gi L i ∈ L := by
  unfold gi
  rw [List.getD_eq_getElem?_getD, List.getElem?_eq_getElem h]
  exact List.getElem_mem h
theorem cb_mem_gi {L : List Int} {x : Int} (h : x ∈ L) : ∃ j, j < L.length ∧ gi L j = x := by
  obtain ⟨j, hj, rfl⟩ := List.getElem_of_mem h
  exact ⟨j, hj, by unfold gi; rw [List.getD_eq_getElem?_getD, List.getElem?_eq_getElem hj]; rfl⟩
set_option maxHeartbeats 400000 in
theorem cbHas_any (v : Value) (L : List Int) (x : Int) (base : Nat) (w : World) (h1 : w.ownsRow base 3 1 v L.length (intsV L)) (hl : L.length ≤ 1048576) : Calls Tryz.prog 20 #[v, .int .i64 x] w (Ret (.bool (cbIn L x)) w) := by
  have gg := Gr.refl w
  have H1 := hidI h1
  obtain ⟨p1, m1, q1, rfl⟩ := own_slice h1
  obtain rfl := own_len h1
  clear h1
  go_enter Tryz.func20, Tryz.ntmps20
  go_wp2
  go_loop [6, 9] (fun _ i => ∃ k : Nat, k ≤ L.length ∧ i = .int .i64 k ∧ Hid (∀ j, j < k → gi L j ≠ x)) (fun _ i => L.length - (intOf i).toNat)
  case atStart => exact ⟨0, Nat.zero_le _, rfl, fun j hj => by omega⟩
  case round =>
    obtain ⟨k, hk, rfl, HA⟩ := hrel
    by_cases hlt : k < L.length
    · obtain ⟨g, c, e, -, -⟩ := own_shape H1.out (by omega)
      cases e
      have hc := own_int H1.out k hlt rfl
      by_cases hb : gi L k = x
      · have e1 : (gi L k == x) = true := by rw [hb]; simp
        have HV := hidI (show cbIn L x = true from by exact cbIn_iff.2 (hb ▸ cb_gi_mem hlt))
        clear hb
        go_wp2
        go_ret
        exact ⟨ret_bool HV.out.symm, gg⟩
      · have e1 : (gi L k == x) = false := by rw [beq_eq_false_iff_ne]; exact hb
        have HB := hidI hb
        clear hb
        go_wp2
        go_round
        case rel => exact ⟨k + 1, by omega, by go_num, fun j hj => if h : j < k then HA.out j h else by rw [show j = k by omega]; exact HB.out⟩
        case measure => simp [intOf]; omega
    · obtain rfl : k = L.length := by omega
      have HV := hidI (show cbIn L x = false from by
        rw [← Bool.not_eq_true, cbIn_iff]
        intro hm
        obtain ⟨j, hj, e⟩ := cb_mem_gi hm
        exact HA.out j hj e)
      clear hlt
      go_wp2
      go_ret
      exact ⟨ret_bool HV.out.symm, gg⟩
theorem intsV_get (L : List Int) (k : Nat) (h : k < L.length) : (intsV L)[k]? = some (.int .i64 (gi L k)) := by
  unfold intsV gi
  rw [List.getElem?_map, List.getD_eq_getElem?_getD, List.getElem?_eq_getElem h]
  rfl
theorem putI_cells (O : List Int) (q : Nat) (s : Int) : intsV (O.take q) ++ [.int .i64 s] ++ (intsV O).drop q = intsV (O.take q ++ [s] ++ O.drop q) := by
  unfold intsV
  simp
def RetPut (T : TypeId) (O : List Int) (s : Int) (w : World) (e : Ending) (w' : World) : Prop := Gr w w' ∧ ∃ u O', e = .returned u ∧ O'.Pairwise (· < ·) ∧ (∀ x, x ∈ O' ↔ x = s ∨ x ∈ O) ∧ O'.length = O.length + 1 ∧ w'.ownsRow w.heap.size T 1 u O'.length (intsV O')
set_option maxHeartbeats 2000000 in
set_option maxRecDepth 100000 in
theorem l1Put_any (v : Value) (O : List Int) (s : Int) (b : Nat) (w : World) (h : w.ownsRow b 3 1 v O.length (intsV O)) (hO : O.Pairwise (· < ·)) (hs : s ∉ O) (hl : O.length ≤ 65536) :
    Calls Tryz.prog 21 #[v, .int .i64 s] w (RetPut 3 O s w) := by
  have gg := Gr.refl w
  obtain ⟨p5, n5, k5, rfl⟩ := own_slice h
  obtain rfl : n5 = O.length := own_len h
  have hk5 : O.length ≤ k5 := by
    rcases Nat.eq_zero_or_pos O.length with h0 | h0
    · omega
    · obtain ⟨_, _, e5, -, h5⟩ := own_shape h h0
      cases e5
      exact h5
  have H := hidI h
  have HLT := hidI hO
  have HNS := hidI hs
  clear h hO hs
  go_enter Tryz.func21, Tryz.ntmps21
  go_wp2
  go_loop [5] (fun i => ∃ q : Nat, q ≤ O.length ∧ i = .int .i64 q ∧ Hid (∀ x, x < q → x < O.length → gi O x < s)) (fun i => O.length - (intOf i).toNat)
  case atStart => exact ⟨0, Nat.zero_le _, rfl, hidI (fun x h1 _ => absurd h1 (Nat.not_lt_zero _))⟩
  case round =>
    obtain ⟨q, hq, rfl, HLO⟩ := hrel
    by_cases hlt : q < O.length
    · obtain ⟨g5, c5, e5, -, -⟩ := own_shape H.out (by omega)
      cases e5
      have cq := own_int H.out q hlt rfl
      obtain ⟨x, hx⟩ : ∃ x, x = gi O q := ⟨_, rfl⟩
      have hxs : x ≠ s := by
        intro e
        refine HNS.out ?_
        rw [← e, hx]
        unfold gi
        rw [List.getD_eq_getElem?_getD, List.getElem?_eq_getElem hlt]
        exact List.getElem_mem hlt
      have hixq := fun w => Tryz.ixP g5 O.length k5 q hlt w
      rw [← hx] at cq
      by_cases hg : x < s
      · have HL2 := hidI (show ∀ y, y < q + 1 → y < O.length → gi O y < s from fun y h1 h2 => by
          rcases Nat.lt_or_ge y q with h | h
          · exact HLO.out y h h2
          · obtain rfl : y = q := by omega
            rw [← hx]; exact hg)
        clear hx hxs
        go_wp2
        go_round
        case rel => exact ⟨q + 1, by omega, by go_num, HL2⟩
        case measure => simp [intOf]; omega
      · have hs1 : s < x := by omega
        have hne : ¬ x = s := hxs
        have hbe : (x == s) = false := by rw [beq_eq_false_iff_ne]; exact hxs
        have HHI := hidI (show ∀ i, q ≤ i → i < O.length → s < gi O i from fun i h1 h2 => by
          rcases Nat.lt_or_ge q i with h | h
          · have := inc_lt HLT.out h h2
            rw [← hx] at this
            omega
          · obtain rfl : i = q := by omega
            rw [← hx]; exact hs1)
        clear hx hxs hg
        have hins := insI_ok (O := O) (s := s) (k := q) HLT.out HLO.out HHI.out
        have HINS := hidI hins
        have hlen : (O.take q ++ [s] ++ O.drop q).length = O.length + 1  := by simp <;> omega
        have HLEN := hidI hlen
        have HPC := hidI (putI_cells O q s)
        have HRT := hidI (show Rd w (some ⟨g5, 0, none⟩) q (intsV (O.take q)) from by
          have := Rd.take (Rd.of_own H.out) hq
          unfold intsV at this ⊢
          rwa [List.map_take])
        have HRD := hidI (Rd.drop H.out hq)
        have HLQ := hidI (show (intsV (O.take q)).length = q from by simp [intsV] <;> omega)
        have HON1 := hidI (intsV_ones (O.take q))
        have HON2 := hidI (fun u (hu : u ∈ (intsV O).drop q) => intsV_ones O u (List.mem_of_mem_drop hu))
        have hqc : q ≤ k5 := by omega
        clear hins hlen
        have HRD2 := hidI (show Rd w (some ⟨g5, q, none⟩) (O.length - q) ((intsV O).drop q) from by
          have := HRD.out
          rw [if_neg (by omega)] at this
          simpa [add_flat] using this)
        go_wp2_with (first | (refine r_slice0 22 3 (Tryz.bint0 _) rfl ?_; intro w1 B1 g1 own1; have gg := gg.trans g1; have z1 := g1.size) | (refine r_cut_hi 22 _ _ (.slice (some ⟨g5, 0, none⟩) O.length k5) (.int .i64 (q : Nat)) (.slice (some ⟨g5, 0, none⟩) q k5) rfl rfl (Tryz.intcut (some ⟨g5, 0, none⟩) O.length k5 q hqc _) rfl ?_) | (refine r_append_any (.tmp 34) (.tmp 37) 22 3 _ 8 w.heap.size Tryz.intP (.slice (some ⟨B1, 0, none⟩) 0 0) 0 [] rfl own1 (some ⟨g5, 0, none⟩) q k5 (intsV (O.take q)) rfl (HRT.out.gr gg) HON1.out (by omega) (by decide) (by omega) rfl ?_; intro v2 w2 own2 g2; have gg := g2.gr gg (own_gr own1 (Nat.le_refl _)); have z2 := g2.size; rw [Nat.zero_add, List.nil_append] at own2) | (refine r_slice1 22 3 (.tmp 40) (.int .i64 s) rfl (Tryz.bint1 _ _) rfl ?_; intro w3 B3 N3; have g3 := N3.gr; have own3 := g3.row own2; have gg := gg.trans g3; have z3 := g3.size) | (refine r_append (.tmp 39) (.tmp 41) 22 3 _ 1 8 w.heap.size Tryz.intP v2 q (intsV (O.take q)) rfl own3 ⟨B3, 0, none⟩ 1 1 [.int .i64 s] rfl rfl N3.cell1 (by intro u hu; simp at hu; subst hu; rfl) (by omega) (by decide) (by omega) rfl ?_; intro v4 w4 own4 g4; have z4 := g4.size; have gg := g4.gr gg (own_gr own3 (Nat.le_refl _))) | (refine r_append_any (.tmp 43) (.tmp 46) 22 3 _ 8 w.heap.size Tryz.intP v4 (q + 1) (intsV (O.take q) ++ [.int .i64 s]) rfl own4 (some ⟨g5, q, none⟩) (O.length - q) (k5 - q) ((intsV O).drop q) rfl (HRD2.out.gr gg) HON2.out (by omega) (by decide) (by omega) rfl ?_; intro v5 w5 own5 g5; have z5 := g5.size; have gg := g5.gr gg (own_gr own4 (Nat.le_refl _))))
        go_ret
        rw [HPC.out] at own5
        refine ⟨gg, v5, _, rfl, HINS.out.1, HINS.out.2, HLEN.out, ?_⟩
        rw [HLEN.out]
        have e : q + 1 + (O.length - q) = O.length + 1 := by omega
        rw [e] at own5
        exact own5
    · obtain rfl : q = O.length := by omega
      have HHI := hidI (show ∀ i, O.length ≤ i → i < O.length → s < gi O i from fun i h1 h2 => by omega)
      clear hlt
      have hins := insI_ok (O := O) (s := s) (k := O.length) HLT.out HLO.out HHI.out
      have HINS := hidI hins
      have hlen : (O.take O.length ++ [s] ++ O.drop O.length).length = O.length + 1  := by simp <;> omega
      have HLEN := hidI hlen
      have HPC := hidI (putI_cells O O.length s)
      have HRT := hidI (show Rd w p5 O.length (intsV (O.take O.length)) from by
        have := Rd.take (Rd.of_own H.out) hq
        unfold intsV at this ⊢
        rwa [List.map_take])
      have HRD := hidI (Rd.drop H.out hq)
      have HLQ := hidI (show (intsV (O.take O.length)).length = O.length from by simp [intsV] <;> omega)
      have HON1 := hidI (intsV_ones (O.take O.length))
      have HON2 := hidI (fun u (hu : u ∈ (intsV O).drop O.length) => intsV_ones O u (List.mem_of_mem_drop hu))
      have hqc : O.length ≤ k5 := by omega
      clear hins hlen
      have HRD2 := HRD
      go_wp2_with (first | (refine r_slice0 22 3 (Tryz.bint0 _) rfl ?_; intro w1 B1 g1 own1; have gg := gg.trans g1; have z1 := g1.size) | (refine r_cut_hi 22 _ _ (.slice p5 O.length k5) (.int .i64 (O.length : Nat)) (.slice p5 O.length k5) rfl rfl (Tryz.intcut p5 O.length k5 O.length hqc _) rfl ?_) | (refine r_append_any (.tmp 34) (.tmp 37) 22 3 _ 8 w.heap.size Tryz.intP (.slice (some ⟨B1, 0, none⟩) 0 0) 0 [] rfl own1 p5 O.length k5 (intsV (O.take O.length)) rfl (HRT.out.gr gg) HON1.out (by omega) (by decide) (by omega) rfl ?_; intro v2 w2 own2 g2; have gg := g2.gr gg (own_gr own1 (Nat.le_refl _)); have z2 := g2.size; rw [Nat.zero_add, List.nil_append] at own2) | (refine r_slice1 22 3 (.tmp 40) (.int .i64 s) rfl (Tryz.bint1 _ _) rfl ?_; intro w3 B3 N3; have g3 := N3.gr; have own3 := g3.row own2; have gg := gg.trans g3; have z3 := g3.size) | (refine r_append (.tmp 39) (.tmp 41) 22 3 _ 1 8 w.heap.size Tryz.intP v2 O.length (intsV (O.take O.length)) rfl own3 ⟨B3, 0, none⟩ 1 1 [.int .i64 s] rfl rfl N3.cell1 (by intro u hu; simp at hu; subst hu; rfl) (by omega) (by decide) (by omega) rfl ?_; intro v4 w4 own4 g4; have z4 := g4.size; have gg := g4.gr gg (own_gr own3 (Nat.le_refl _))) | (refine r_cut_lo 22 _ _ (.slice p5 O.length k5) (.int .i64 (O.length : Nat)) _ rfl rfl (Tryz.intfrom p5 O.length k5 O.length hq _) rfl ?_) | (refine r_append_any (.tmp 43) (.tmp 46) 22 3 _ 8 w.heap.size Tryz.intP v4 (O.length + 1) (intsV (O.take O.length) ++ [.int .i64 s]) rfl own4 _ (O.length - O.length) (k5 - O.length) ((intsV O).drop O.length) rfl (HRD2.out.gr gg) HON2.out (by omega) (by decide) (by omega) rfl ?_; intro v5 w5 own5 g5; have z5 := g5.size; have gg := g5.gr gg (own_gr own4 (Nat.le_refl _))))
      all_goals
        go_ret
        rw [HPC.out] at own5
        refine ⟨gg, v5, _, rfl, HINS.out.1, HINS.out.2, HLEN.out, ?_⟩
        rw [HLEN.out]
        have e : O.length + 1 + (O.length - O.length) = O.length + 1 := by omega
        rw [e] at own5
        exact own5
end Go.Proofs.YtoadoeahbekkoaaGreatDoor
