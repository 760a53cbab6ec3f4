/-
  The cells that a ball comes to: in the program and in the model, and the law.
-/
import Derived.Test.YtamdmhclhjkogaaDoorCellsP
import Derived.Test.YtamdmhclhjkogaaDoorBTi
namespace Go.Proofs.YtamdmhclhjkogaaDoor
open Go.RowKit Go.Lib Go.Sort
/-- Where the ball stands in state j. -/
def cbX (S : List (Sta Grid)) (b : UInt8) (j : Nat) : Int := ixC (sta S j).t.c b 36
theorem cbX_in (S : List (Sta Grid)) (b : UInt8) (j : Nat) : -1 ≤ cbX S b j ∧ cbX S b j < 36 := by
  unfold cbX
  rcases ixC_cases (sta S j).t.c b 36 with ⟨h, -⟩ | ⟨k, hk, h, -, -⟩ <;> omega
def cbS (S : List (Sta Grid)) (b : UInt8) : List Int := ((List.range 37).map fun k : Nat => (k : Int) - 1).filter fun x => (List.range S.length).any fun j => decide (cbX S b j = x)
theorem cbS_lt (S : List (Sta Grid)) (b : UInt8) : (cbS S b).Pairwise (· < ·) := by
  unfold cbS
  refine List.Pairwise.filter _ ?_
  rw [List.pairwise_map]
  exact List.Pairwise.imp (fun h => by omega) List.pairwise_lt_range
theorem mem_cbS (S : List (Sta Grid)) (b : UInt8) (x : Int) : x ∈ cbS S b ↔ ∃ j, j < S.length ∧ cbX S b j = x := by
  unfold cbS
  rw [List.mem_filter, List.any_eq_true]
  constructor
  · rintro ⟨-, j, hj, h⟩
    exact ⟨j, List.mem_range.1 hj, of_decide_eq_true h⟩
  · rintro ⟨j, hj, rfl⟩
    have := cbX_in S b j
    exact ⟨List.mem_map.2 ⟨(cbX S b j + 1).toNat, List.mem_range.2 (by omega), by omega⟩, j, List.mem_range.2 hj, decide_eq_true rfl⟩
theorem cbS_le (S : List (Sta Grid)) (b : UInt8) : (cbS S b).length ≤ 37 := by
  unfold cbS
  exact Nat.le_trans (List.length_filter_le _ _) (by simp)
def cbL (l : List UInt8) (n : ByteArray) : List Int := match rbS l n with
  | none => []
  | some S => cbS S (hd n)
def cbOk (l : List UInt8) (n : ByteArray) : Bool := (rbS l n).isSome
theorem cbL_le (l : List UInt8) (n : ByteArray) : (cbL l n).length ≤ 37 := by
  unfold cbL
  cases rbS l n with
  | none => exact Nat.zero_le _
  | some S => exact cbS_le S _
theorem rbS_some {l : List UInt8} {n : ByteArray} {S : List (Sta Grid)} (h : rbS l n = some S) : rcS l = some S ∧ nameS n = true := by
  unfold rbS at h
  cases hp : parse l with
  | none => rw [hp] at h; cases h
  | some g =>
    rw [hp] at h
    have h' : (if nameS n && decide (0 ≤ ixC g.c (hd n) g.c.length) then rcS l else none) = some S := h
    split at h'
    · rename_i hc
      rw [Bool.and_eq_true] at hc
      exact ⟨h', hc.1⟩
    · cases h'
/-- The list so far: increasing, and with the cells of the first k states. -/
structure Inc (S : List (Sta Grid)) (b : UInt8) (k : Nat) (O : List Int) : Prop where
  lt : O.Pairwise (· < ·)
  mem : ∀ x, x ∈ O ↔ ∃ j, j < k ∧ cbX S b j = x
  le : O.length ≤ k
theorem Inc.done {S : List (Sta Grid)} {b : UInt8} {O : List Int} (h : Inc S b S.length O) : O = cbS S b :=
  strict_eq h.lt (cbS_lt S b) fun x => by rw [h.mem, mem_cbS]
theorem Inc.stay {S : List (Sta Grid)} {b : UInt8} {k : Nat} {O : List Int} (h : Inc S b k O) (hx : cbX S b k ∈ O) : Inc S b (k + 1) O :=
  ⟨h.lt, fun x => by
    rw [h.mem]
    constructor
    · rintro ⟨j, hj, e⟩; exact ⟨j, by omega, e⟩
    · rintro ⟨j, hj, e⟩
      rcases Nat.lt_or_ge j k with h' | h'
      · exact ⟨j, h', e⟩
      · obtain rfl : j = k := by omega
        exact (h.mem x).1 (e ▸ hx), by have := h.le; omega⟩
theorem Inc.put {S : List (Sta Grid)} {b : UInt8} {k : Nat} {O O' : List Int} (h : Inc S b k O) (h1 : O'.Pairwise (· < ·)) (h2 : ∀ x, x ∈ O' ↔ x = cbX S b k ∨ x ∈ O) (h3 : O'.length = O.length + 1) : Inc S b (k + 1) O' :=
  ⟨h1, fun x => by
    rw [h2, h.mem]
    constructor
    · rintro (rfl | ⟨j, hj, e⟩)
      · exact ⟨k, by omega, rfl⟩
      · exact ⟨j, by omega, e⟩
    · rintro ⟨j, hj, e⟩
      rcases Nat.lt_or_ge j k with h' | h'
      · exact .inr ⟨j, h', e⟩
      · obtain rfl : j = k := by omega
        exact .inl e.symm, by have := h.le; omega⟩
def RetP2 (T : TypeId) (L : List Int) (ok : Bool) (w : World) (e : Ending) (w' : World) : Prop :=
  Gr w w' ∧ ∃ v, e = .returned (.tuple #[v, .bool ok]) ∧ w'.ownsRow w.heap.size T 1 v L.length (intsV L)
set_option maxHeartbeats 1000000 in
set_option maxRecDepth 100000 in
theorem tiPlace_any (W H : Int) (base : Nat) (c : List UInt8) (b : UInt8) (G cap : Nat) (w : World) (h36 : c.length ≤ 36) (hown : w.ownsRow base 5 1 (.slice (some ⟨G, 0, none⟩) c.length cap) c.length (cellsV c)) :
    Calls Tryd.prog 55 #[.agg (tg W H (.slice (some ⟨G, 0, none⟩) c.length cap)), .int .u8 b.toNat] w (Ret (.int .i64 (ixC c b c.length)) w) := by
  have gg := Gr.refl w
  go_enter Tryd.func55, Tryd.ntmps55
  go_wp2_with (refine r_box 58 _ (tg (W) (H) (.slice (some ⟨G, 0, none⟩) c.length cap)) rfl rfl ?_; intro w1 B1 N1; have g1 := N1.gr; have b1 : Blk w1 B1 (tg (W) (H) (.slice (some ⟨G, 0, none⟩) c.length cap)) 58 := N1.blk; have l1 := N1.lo; have t1 := N1.hi; have z1 := g1.size; have gg := gg.trans g1; clear N1; obtain ⟨b1_0, b1_1, b1_2⟩ := tcells b1)
  have own := g1.row hown
  go_loop [5, 6, 10] (fun _ _ i => ∃ k : Nat, k ≤ c.length ∧ i = .int .i64 k ∧ Hid (∀ j, j < k → at0 c j ≠ b)) (fun _ _ i => c.length - (intOf i).toNat)
  case atStart => exact ⟨0, Nat.zero_le _, rfl, fun j hj => by omega⟩
  case round =>
    obtain ⟨k, hk, rfl, HA⟩ := hrel
    by_cases hlt : k < c.length
    · have hck := own_cell own k hlt rfl
      have hix := Tryd.six0 G c.length cap k hlt
      by_cases hb : at0 c k = b
      · have e1 := beq_byte hb
        have HV := hidI (ixC_some hlt hb HA.out)
        clear hb
        go_wp2
        go_ret
        exact ⟨ret_int HV.out.symm, gg⟩
      · have e1 := bne_byte hb
        have HB := hidI hb
        clear hb
        go_wp2
        go_round
        case rel => exact ⟨k + 1, by omega, by go_num, fun j hj => if h : j < k then HA.out j h else by rw [show j = k by omega]; exact HB.out⟩
        case measure => simp [intOf]; omega
    · obtain rfl : k = c.length := by omega
      have HV := hidI (ixC_none HA.out)
      clear hlt
      go_wp2
      go_ret
      exact ⟨ret_int HV.out.symm, gg⟩
def cbIn (L : List Int) (x : Int) : Bool := L.contains x
theorem cbIn_iff {L : List Int} {x : Int} : cbIn L x = true ↔ x ∈ L := by unfold cbIn; rw [List.contains_iff_mem]
theorem cb_gi_mem {L : List Int} {i : Nat} (h : i < L.length) : gi L i ∈ L := by
  unfold gi
  rw [List.getD_eq_getElem?_getD, List.getElem?_eq_getElem h]
  exact List.getElem_mem h
theorem cb_mem_gi {L : List Int} {x : Int} (h : x ∈ L) : ∃ j, j < L.length ∧ gi L j = x := by
  obtain ⟨j, hj, rfl⟩ := List.getElem_of_mem h
  exact ⟨j, hj, by unfold gi; rw [List.getD_eq_getElem?_getD, List.getElem?_eq_getElem hj]; rfl⟩
set_option maxHeartbeats 400000 in
theorem cbHas_any (v : Value) (L : List Int) (x : Int) (base : Nat) (w : World) (h1 : w.ownsRow base 3 1 v L.length (intsV L)) (hl : L.length ≤ 1048576) : Calls Tryd.prog 91 #[v, .int .i64 x] w (Ret (.bool (cbIn L x)) w) := by
  have gg := Gr.refl w
  have H1 := hidI h1
  obtain ⟨p1, m1, q1, rfl⟩ := own_slice h1
  obtain rfl := own_len h1
  clear h1
  go_enter Tryd.func91, Tryd.ntmps91
  go_wp2
  go_loop [6, 9] (fun _ i => ∃ k : Nat, k ≤ L.length ∧ i = .int .i64 k ∧ Hid (∀ j, j < k → gi L j ≠ x)) (fun _ i => L.length - (intOf i).toNat)
  case atStart => exact ⟨0, Nat.zero_le _, rfl, fun j hj => by omega⟩
  case round =>
    obtain ⟨k, hk, rfl, HA⟩ := hrel
    by_cases hlt : k < L.length
    · obtain ⟨g, c, e, -, -⟩ := own_shape H1.out (by omega)
      cases e
      have hc := own_int H1.out k hlt rfl
      by_cases hb : gi L k = x
      · have e1 : (gi L k == x) = true := by rw [hb]; simp
        have HV := hidI (show cbIn L x = true from by exact cbIn_iff.2 (hb ▸ cb_gi_mem hlt))
        clear hb
        go_wp2
        go_ret
        exact ⟨ret_bool HV.out.symm, gg⟩
      · have e1 : (gi L k == x) = false := by rw [beq_eq_false_iff_ne]; exact hb
        have HB := hidI hb
        clear hb
        go_wp2
        go_round
        case rel => exact ⟨k + 1, by omega, by go_num, fun j hj => if h : j < k then HA.out j h else by rw [show j = k by omega]; exact HB.out⟩
        case measure => simp [intOf]; omega
    · obtain rfl : k = L.length := by omega
      have HV := hidI (show cbIn L x = false from by
        rw [← Bool.not_eq_true, cbIn_iff]
        intro hm
        obtain ⟨j, hj, e⟩ := cb_mem_gi hm
        exact HA.out j hj e)
      clear hlt
      go_wp2
      go_ret
      exact ⟨ret_bool HV.out.symm, gg⟩
end Go.Proofs.YtamdmhclhjkogaaDoor
