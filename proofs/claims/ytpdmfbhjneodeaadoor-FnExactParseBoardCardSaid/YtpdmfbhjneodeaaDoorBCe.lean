/-
  The cells that a ball comes to: plain mathematics, the states of a tray with a ball, a number put into an increasing list.
  A number put into an increasing list: plain mathematics, and the slices' rules at []int.
  The cells that a ball comes to: in the program and in the model, and the law.
  The cells that a ball comes to, in the model.
-/
import Derived.Test.YtpdmfbhjneodeaaDoorReachR
import Derived.Test.YtpdmfbhjneodeaaDoorPlace
import Derived.Lib.IndexLaws
import Derived.Test.YtpdmfbhjneodeaaDoorBTi
namespace Go.Proofs.YtpdmfbhjneodeaaDoor
open Go.RowKit
theorem strict_eq : ∀ {l m : List Int}, l.Pairwise (· < ·) → m.Pairwise (· < ·) → (∀ x, x ∈ l ↔ x ∈ m) → l = m := by
  intro l m hl hm h
  have n1 : l.Nodup := hl.imp (fun h => by omega)
  have n2 : m.Nodup := hm.imp (fun h => by omega)
  exact perm_eq (· ≤ ·) (fun a b h1 h2 => by omega) l m ((List.perm_ext_iff_of_nodup n1 n2).2 h) (hl.imp (fun h => by omega)) (hm.imp (fun h => by omega))
theorem mem_rowL (W : Nat) (c : List UInt8) (y : Nat) (b : UInt8) : b ∈ rowL W c y ↔ ∃ i, nn W y ≤ i ∧ i < nn W (y + 1) ∧ at0 c i = b := by
  have e : nn W (y + 1) = nn W y + W := by unfold nn; rw [Nat.mul_succ]
  unfold rowL
  rw [List.mem_map, e]
  constructor
  · rintro ⟨x, hx, rfl⟩
    have := List.mem_range.1 hx
    exact ⟨nn W y + x, by omega, by omega, rfl⟩
  · rintro ⟨i, h1, h2, rfl⟩
    exact ⟨i - nn W y, List.mem_range.2 (by omega), by rw [show nn W y + (i - nn W y) = i by omega]⟩
theorem mem_txtL {b : UInt8} (hb : b ≠ 47) (W : Nat) (c : List UInt8) (y : Nat) : b ∈ txtL W c y ↔ ∃ i, i < nn W y ∧ at0 c i = b := by
  induction y with
  | zero => exact ⟨fun h => (by cases h), fun ⟨i, h, _⟩ => (by unfold nn at h; omega)⟩
  | succ y ih =>
    have hmono : nn W y ≤ nn W (y + 1) := by unfold nn; exact Nat.mul_le_mul_left _ (by omega)
    by_cases h0 : y = 0
    · subst h0
      rw [txtL_one, mem_rowL]
      constructor
      · rintro ⟨i, _, h2, h3⟩; exact ⟨i, h2, h3⟩
      · rintro ⟨i, h2, h3⟩; exact ⟨i, by unfold nn; omega, h2, h3⟩
    · rw [txtL_succ W c y (by omega), List.mem_append, List.mem_append, ih, mem_rowL, List.mem_singleton]
      constructor
      · rintro ((⟨i, h1, h2⟩ | h) | ⟨i, _, h2, h3⟩)
        · exact ⟨i, by omega, h2⟩
        · exact absurd h hb
        · exact ⟨i, h2, h3⟩
      · rintro ⟨i, h1, h2⟩
        by_cases h : i < nn W y
        · exact .inl (.inl ⟨i, h, h2⟩)
        · exact .inr ⟨i, by omega, h1, h2⟩
theorem index_mem (l : List UInt8) (b : UInt8) : 0 ≤ Lib.indexByte l b ↔ b ∈ l := by
  constructor
  · intro h
    obtain ⟨h1, -⟩ := Lib.indexByte_some (o := (Lib.indexByte l b).toNat) (l := l) (c := b) (by omega)
    exact List.mem_of_getElem? h1
  · intro h
    have hge := Lib.indexByte_ge l b
    rcases Int.lt_or_le (Lib.indexByte l b) 0 with hn | hn
    · obtain ⟨k, hk, e⟩ := List.getElem_of_mem h
      exact absurd (by rw [List.getElem?_eq_getElem hk, e]) (Lib.indexByte_none (show Lib.indexByte l b = -1 by omega) k)
    · exact hn
/-- A ball is in the text exactly when it is in the tray. -/
theorem ball_in {l : List UInt8} {g : Grid} (h : parse l = some g) {b : UInt8} (hb : isNameB b = true) : decide (0 ≤ Lib.indexByte l b) = decide (0 ≤ ixC g.c b g.c.length) := by
  have ht := parse_tray h
  have h47 : b ≠ 47 := by rintro rfl; exact absurd hb (by decide)
  rw [decide_eq_decide, index_mem]
  conv => lhs; rw [← parse_text h]
  rw [mem_txtL h47, ← ht.len]
  rcases ixC_cases g.c b g.c.length with ⟨h1, h2⟩ | ⟨k, h1, h2, h3, -⟩
  · rw [h1]
    exact ⟨fun ⟨i, hi, e⟩ => absurd e (h2 i hi), fun h => absurd h (by decide)⟩
  · rw [h2]
    exact ⟨fun _ => by omega, fun _ => ⟨k, h1, h3⟩⟩
/-- The states that a tray with a ball reaches. -/
def rbS (l : List UInt8) (n : ByteArray) : Option (List (Sta Grid)) := match parse l with
  | none => none
  | some g => if nameS n && decide (0 ≤ ixC g.c (hd n) g.c.length) then rcS l else none
end Go.Proofs.YtpdmfbhjneodeaaDoor
namespace Go.Proofs.YtpdmfbhjneodeaaDoor
open Go.RowKit
theorem insI_ok {O : List Int} {s : Int} {k : Nat} (hO : O.Pairwise (· < ·)) (hlo : ∀ i, i < k → i < O.length → gi O i < s) (hhi : ∀ i, k ≤ i → i < O.length → s < gi O i) :
    (O.take k ++ [s] ++ O.drop k).Pairwise (· < ·) ∧ ∀ y, y ∈ O.take k ++ [s] ++ O.drop k ↔ y = s ∨ y ∈ O := by
  have hsp : O.take k ++ O.drop k = O := List.take_append_drop k O
  have hO' := hO
  rw [← hsp, List.pairwise_append] at hO'
  obtain ⟨p1, p2, p3⟩ := hO'
  have hts : ∀ i (h : i < O.length), gi O i = O[i] := fun i h => by unfold gi; rw [List.getD_eq_getElem?_getD, List.getElem?_eq_getElem h]; rfl
  have lo : ∀ a ∈ O.take k, a < s := fun a ha => by
    obtain ⟨i, hi, rfl⟩ := List.getElem_of_mem ha
    rw [List.length_take] at hi
    rw [List.getElem_take, ← hts i (by omega)]
    exact hlo i (by omega) (by omega)
  have hi : ∀ b ∈ O.drop k, s < b := fun b hb => by
    obtain ⟨i, hi, rfl⟩ := List.getElem_of_mem hb
    rw [List.length_drop] at hi
    rw [List.getElem_drop, ← hts (k + i) (by omega)]
    exact hhi (k + i) (by omega) (by omega)
  refine ⟨?_, fun y => ?_⟩
  · rw [List.append_assoc, List.pairwise_append]
    refine ⟨p1, ?_, fun a ha b hb => ?_⟩
    · rw [List.singleton_append, List.pairwise_cons]
      exact ⟨hi, p2⟩
    · rcases List.mem_cons.1 hb with rfl | hb
      · exact lo a ha
      · exact p3 a ha b hb
  · conv => rhs; rw [← hsp]
    simp only [List.mem_append, List.mem_singleton]
    constructor
    · rintro ((h | h) | h)
      · exact .inr (.inl h)
      · exact .inl h
      · exact .inr (.inr h)
    · rintro (h | h | h)
      · exact .inl (.inr h)
      · exact .inl (.inl h)
      · exact .inr h
theorem inc_lt {L : List Int} (h : L.Pairwise (· < ·)) {i j : Nat} (hij : i < j) (hj : j < L.length) : gi L i < gi L j := by
  have := List.pairwise_iff_getElem.1 h i j (by omega) hj hij
  unfold gi
  rw [List.getD_eq_getElem?_getD, List.getD_eq_getElem?_getD, List.getElem?_eq_getElem (by omega), List.getElem?_eq_getElem hj]
  exact this
section
variable {P : Program} {w : World} {ops : Array Oper} {rest : List Oper} {a : Act} {Q : Exit → Act → World → Prop} {dst : Option Tmp} {ty : TypeId} {pos : String} {aft : Array Edge} {gd : Option (Nat × Bool)}
theorem r_lssI {T yt : TypeId} (x y : Operand) (m n : Int) (b : Bool) (hx : a.eval x = .int .i64 m) (hy : a.eval y = .int .i64 n) (hb : decide (m < n) = b)
    (hgd : Region.wanted ⟨dst, .binOp .lss T x y yt, ty, pos, aft, gd⟩ (yielded ops a.tmps) = true) (h : wpList P ops Q rest (a.put dst (.bool b)) w) : wpList P ops Q (⟨dst, .binOp .lss T x y yt, ty, pos, aft, gd⟩ :: rest) a w :=
  r_val (.bool b) (by
    subst hb
    unfold execOp
    simp [hx, hy, eqGuard, binOp, Op.intCmp]) hgd h
end
end Go.Proofs.YtpdmfbhjneodeaaDoor
namespace Go.Proofs.YtpdmfbhjneodeaaDoor
open Go.RowKit Go.Lib Go.Sort
/-- Where the ball stands in state j. -/
def cbX (S : List (Sta Grid)) (b : UInt8) (j : Nat) : Int := ixC (sta S j).t.c b 36
theorem cbX_in (S : List (Sta Grid)) (b : UInt8) (j : Nat) : -1 ≤ cbX S b j ∧ cbX S b j < 36 := by
  unfold cbX
  rcases ixC_cases (sta S j).t.c b 36 with ⟨h, -⟩ | ⟨k, hk, h, -, -⟩ <;> omega
def cbS (S : List (Sta Grid)) (b : UInt8) : List Int := ((List.range 37).map fun k : Nat => (k : Int) - 1).filter fun x => (List.range S.length).any fun j => decide (cbX S b j = x)
theorem cbS_lt (S : List (Sta Grid)) (b : UInt8) : (cbS S b).Pairwise (· < ·) := by
  unfold cbS
  refine List.Pairwise.filter _ ?_
  rw [List.pairwise_map]
  exact List.Pairwise.imp (fun h => by omega) List.pairwise_lt_range
theorem mem_cbS (S : List (Sta Grid)) (b : UInt8) (x : Int) : x ∈ cbS S b ↔ ∃ j, j < S.length ∧ cbX S b j = x := by
  unfold cbS
  rw [List.mem_filter, List.any_eq_true]
  constructor
  · rintro ⟨-, j, hj, h⟩
    exact ⟨j, List.mem_range.1 hj, of_decide_eq_true h⟩
  · rintro ⟨j, hj, rfl⟩
    have := cbX_in S b j
    exact ⟨List.mem_map.2 ⟨(cbX S b j + 1).toNat, List.mem_range.2 (by omega), by omega⟩, j, List.mem_range.2 hj, decide_eq_true rfl⟩
theorem cbS_le (S : List (Sta Grid)) (b : UInt8) : (cbS S b).length ≤ 37 := by
  unfold cbS
  exact Nat.le_trans (List.length_filter_le _ _) (by simp)
def cbL (l : List UInt8) (n : ByteArray) : List Int := match rbS l n with
  | none => []
  | some S => cbS S (hd n)
def cbOk (l : List UInt8) (n : ByteArray) : Bool := (rbS l n).isSome
theorem cbL_le (l : List UInt8) (n : ByteArray) : (cbL l n).length ≤ 37 := by
  unfold cbL
  cases rbS l n with
  | none => exact Nat.zero_le _
  | some S => exact cbS_le S _
theorem rbS_some {l : List UInt8} {n : ByteArray} {S : List (Sta Grid)} (h : rbS l n = some S) : rcS l = some S ∧ nameS n = true := by
  unfold rbS at h
  cases hp : parse l with
  | none => rw [hp] at h; cases h
  | some g =>
    rw [hp] at h
    have h' : (if nameS n && decide (0 ≤ ixC g.c (hd n) g.c.length) then rcS l else none) = some S := h
    split at h'
    · rename_i hc
      rw [Bool.and_eq_true] at hc
      exact ⟨h', hc.1⟩
    · cases h'
/-- The list so far: increasing, and with the cells of the first k states. -/
structure Inc (S : List (Sta Grid)) (b : UInt8) (k : Nat) (O : List Int) : Prop where
  lt : O.Pairwise (· < ·)
  mem : ∀ x, x ∈ O ↔ ∃ j, j < k ∧ cbX S b j = x
  le : O.length ≤ k
theorem Inc.done {S : List (Sta Grid)} {b : UInt8} {O : List Int} (h : Inc S b S.length O) : O = cbS S b :=
  strict_eq h.lt (cbS_lt S b) fun x => by rw [h.mem, mem_cbS]
theorem Inc.stay {S : List (Sta Grid)} {b : UInt8} {k : Nat} {O : List Int} (h : Inc S b k O) (hx : cbX S b k ∈ O) : Inc S b (k + 1) O :=
  ⟨h.lt, fun x => by
    rw [h.mem]
    constructor
    · rintro ⟨j, hj, e⟩; exact ⟨j, by omega, e⟩
    · rintro ⟨j, hj, e⟩
      rcases Nat.lt_or_ge j k with h' | h'
      · exact ⟨j, h', e⟩
      · obtain rfl : j = k := by omega
        exact (h.mem x).1 (e ▸ hx), by have := h.le; omega⟩
theorem Inc.put {S : List (Sta Grid)} {b : UInt8} {k : Nat} {O O' : List Int} (h : Inc S b k O) (h1 : O'.Pairwise (· < ·)) (h2 : ∀ x, x ∈ O' ↔ x = cbX S b k ∨ x ∈ O) (h3 : O'.length = O.length + 1) : Inc S b (k + 1) O' :=
  ⟨h1, fun x => by
    rw [h2, h.mem]
    constructor
    · rintro (rfl | ⟨j, hj, e⟩)
      · exact ⟨k, by omega, rfl⟩
      · exact ⟨j, by omega, e⟩
    · rintro ⟨j, hj, e⟩
      rcases Nat.lt_or_ge j k with h' | h'
      · exact .inr ⟨j, h', e⟩
      · obtain rfl : j = k := by omega
        exact .inl e.symm, by have := h.le; omega⟩
def RetP2 (T : TypeId) (L : List Int) (ok : Bool) (w : World) (e : Ending) (w' : World) : Prop :=
  Gr w w' ∧ ∃ v, e = .returned (.tuple #[v, .bool ok]) ∧ w'.ownsRow w.heap.size T 1 v L.length (intsV L)
set_option maxHeartbeats 1000000 in
set_option maxRecDepth 100000 in
theorem tiPlace_any (W H : Int) (base : Nat) (c : List UInt8) (b : UInt8) (G cap : Nat) (w : World) (h36 : c.length ≤ 36) (hown : w.ownsRow base 5 1 (.slice (some ⟨G, 0, none⟩) c.length cap) c.length (cellsV c)) :
    Calls Tryd.prog 47 #[.agg (tg W H (.slice (some ⟨G, 0, none⟩) c.length cap)), .int .u8 b.toNat] w (Ret (.int .i64 (ixC c b c.length)) w) := by
  have gg := Gr.refl w
  go_enter Tryd.func47, Tryd.ntmps47
  go_wp2_with (refine r_box 85 _ (tg (W) (H) (.slice (some ⟨G, 0, none⟩) c.length cap)) rfl rfl ?_; intro w1 B1 N1; have g1 := N1.gr; have b1 : Blk w1 B1 (tg (W) (H) (.slice (some ⟨G, 0, none⟩) c.length cap)) 85 := N1.blk; have l1 := N1.lo; have t1 := N1.hi; have z1 := g1.size; have gg := gg.trans g1; clear N1; obtain ⟨b1_0, b1_1, b1_2⟩ := tcells b1)
  have own := g1.row hown
  go_loop [5, 6, 10] (fun _ _ i => ∃ k : Nat, k ≤ c.length ∧ i = .int .i64 k ∧ Hid (∀ j, j < k → at0 c j ≠ b)) (fun _ _ i => c.length - (intOf i).toNat)
  case atStart => exact ⟨0, Nat.zero_le _, rfl, fun j hj => by omega⟩
  case round =>
    obtain ⟨k, hk, rfl, HA⟩ := hrel
    by_cases hlt : k < c.length
    · have hck := own_cell own k hlt rfl
      have hix := Tryd.six0 G c.length cap k hlt
      by_cases hb : at0 c k = b
      · have e1 := beq_byte hb
        have HV := hidI (ixC_some hlt hb HA.out)
        clear hb
        go_wp2
        go_ret
        exact ⟨ret_int HV.out.symm, gg⟩
      · have e1 := bne_byte hb
        have HB := hidI hb
        clear hb
        go_wp2
        go_round
        case rel => exact ⟨k + 1, by omega, by go_num, fun j hj => if h : j < k then HA.out j h else by rw [show j = k by omega]; exact HB.out⟩
        case measure => simp [intOf]; omega
    · obtain rfl : k = c.length := by omega
      have HV := hidI (ixC_none HA.out)
      clear hlt
      go_wp2
      go_ret
      exact ⟨ret_int HV.out.symm, gg⟩
def cbIn (L : List Int) (x : Int) : Bool := L.contains x
theorem cbIn_iff {L : List Int} {x : Int} : cbIn L x = true ↔ x ∈ L := by unfold cbIn; rw [List.contains_iff_mem]
theorem cb_gi_mem {L : List Int} {i : Nat} (h : i < L.length) : gi L i ∈ L := by
  unfold gi
  rw [List.getD_eq_getElem?_getD, List.getElem?_eq_getElem h]
  exact List.getElem_mem h
theorem cb_mem_gi {L : List Int} {x : Int} (h : x ∈ L) : ∃ j, j < L.length ∧ gi L j = x := by
  obtain ⟨j, hj, rfl⟩ := List.getElem_of_mem h
  exact ⟨j, hj, by unfold gi; rw [List.getD_eq_getElem?_getD, List.getElem?_eq_getElem hj]; rfl⟩
set_option maxHeartbeats 400000 in
theorem cbHas_any (v : Value) (L : List Int) (x : Int) (base : Nat) (w : World) (h1 : w.ownsRow base 3 1 v L.length (intsV L)) (hl : L.length ≤ 1048576) : Calls Tryd.prog 39 #[v, .int .i64 x] w (Ret (.bool (cbIn L x)) w) := by
  have gg := Gr.refl w
  have H1 := hidI h1
  obtain ⟨p1, m1, q1, rfl⟩ := own_slice h1
  obtain rfl := own_len h1
  clear h1
  go_enter Tryd.func39, Tryd.ntmps39
  go_wp2
  go_loop [6, 9] (fun _ i => ∃ k : Nat, k ≤ L.length ∧ i = .int .i64 k ∧ Hid (∀ j, j < k → gi L j ≠ x)) (fun _ i => L.length - (intOf i).toNat)
  case atStart => exact ⟨0, Nat.zero_le _, rfl, fun j hj => by omega⟩
  case round =>
    obtain ⟨k, hk, rfl, HA⟩ := hrel
    by_cases hlt : k < L.length
    · obtain ⟨g, c, e, -, -⟩ := own_shape H1.out (by omega)
      cases e
      have hc := own_int H1.out k hlt rfl
      by_cases hb : gi L k = x
      · have e1 : (gi L k == x) = true := by rw [hb]; simp
        have HV := hidI (show cbIn L x = true from by exact cbIn_iff.2 (hb ▸ cb_gi_mem hlt))
        clear hb
        go_wp2
        go_ret
        exact ⟨ret_bool HV.out.symm, gg⟩
      · have e1 : (gi L k == x) = false := by rw [beq_eq_false_iff_ne]; exact hb
        have HB := hidI hb
        clear hb
        go_wp2
        go_round
        case rel => exact ⟨k + 1, by omega, by go_num, fun j hj => if h : j < k then HA.out j h else by rw [show j = k by omega]; exact HB.out⟩
        case measure => simp [intOf]; omega
    · obtain rfl : k = L.length := by omega
      have HV := hidI (show cbIn L x = false from by
        rw [← Bool.not_eq_true, cbIn_iff]
        intro hm
        obtain ⟨j, hj, e⟩ := cb_mem_gi hm
        exact HA.out j hj e)
      clear hlt
      go_wp2
      go_ret
      exact ⟨ret_bool HV.out.symm, gg⟩
end Go.Proofs.YtpdmfbhjneodeaaDoor
namespace Go.Proofs.YtpdmfbhjneodeaaDoor
open Go.RowKit
theorem rcS_knownC {l : List UInt8} {S : List (Sta Grid)} (h : rcS l = some S) : 0 < S.length ∧ S.length ≤ 300 ∧ ∀ j, j < S.length → Cel (sta S j).t ∧ 1 ≤ (sta S j).t.w ∧ 1 ≤ (sta S j).t.h := by
  obtain ⟨g, hp, hi⟩ := rcS_inv h
  obtain ⟨-, h1, h2, -⟩ := cel_of hp
  exact ⟨hi.pos, hi.le, fun j hj => by
    have := hi.good j hj
    exact ⟨this.cel, by rw [this.w]; exact h1, by rw [this.h]; exact h2⟩⟩
theorem cb_name_bounds {b : UInt8} : isNameB b = true ↔ 97 ≤ (b.toNat : Int) ∧ (b.toNat : Int) ≤ 102 := by
  unfold isNameB
  rw [Bool.and_eq_true, decide_eq_true_eq, decide_eq_true_eq, UInt8.le_iff_toNat_le, UInt8.le_iff_toNat_le]
  have h1 : (97 : UInt8).toNat = 97 := rfl
  have h2 : (102 : UInt8).toNat = 102 := rfl
  omega
theorem e_lssC {P : Program} {w : World} {a : Act} {dst : Option Tmp} {ty T yt : TypeId} {pos : String} {aft : Array Edge} {gd : Option (Nat × Bool)} {k : IntKind} (x y : Operand) (m n : Int) (v : Bool) (hx : a.eval x = .int k m) (hy : a.eval y = .int k n) (hv : decide (m < n) = v) :
    (execOp a.eval ⟨dst, .binOp .lss T x y yt, ty, pos, aft, gd⟩).run P w = .ok (.value (.bool v)) w := by
  subst hv
  unfold execOp
  simp [hx, hy, eqGuard, binOp, Op.intCmp]
set_option maxHeartbeats 1000000 in
theorem reName_any (n : ByteArray) (w : World) : Calls Tryd.prog 46 #[.string n] w fun e w' => e = .returned (.bool (nameS n)) ∧ w = w' := by
  by_cases hsz : n.size = 1
  · have hn1 := one_of n hsz
    obtain ⟨b, hb⟩ : ∃ b, hd n = b := ⟨_, rfl⟩
    rw [hb] at hn1
    subst hn1
    have hix := fun w => s_idx0 (P := Tryd.prog) Tryd.underlying9 b w
    have hns : nameS ⟨#[b]⟩ = isNameB b := by unfold nameS; rw [decide_eq_true hsz, hb]; rfl
    have hcs : (97 ≤ (b.toNat : Int) ∧ (b.toNat : Int) ≤ 102) ∨ (b.toNat : Int) < 97 ∨ (97 ≤ (b.toNat : Int) ∧ 102 < (b.toNat : Int)) := by omega
    rcases hcs with ⟨n1, n2⟩ | n1 | ⟨n1, n2⟩
    · have HV := hidI (show nameS ⟨#[b]⟩ = true from by rw [hns]; exact cb_name_bounds.2 ⟨n1, n2⟩)
      clear hns hsz hb
      go_enter Tryd.func46, Tryd.ntmps46
      go_wp2
      go_ret
      exact ⟨ret_bool HV.out.symm, rfl⟩
    · have HV := hidI (show nameS ⟨#[b]⟩ = false from by rw [hns, ← Bool.not_eq_true, cb_name_bounds]; omega)
      clear hns hsz hb
      go_enter Tryd.func46, Tryd.ntmps46
      go_wp2
      go_ret
      exact ⟨ret_bool HV.out.symm, rfl⟩
    · have HV := hidI (show nameS ⟨#[b]⟩ = false from by rw [hns, ← Bool.not_eq_true, cb_name_bounds]; omega)
      clear hns hsz hb
      go_enter Tryd.func46, Tryd.ntmps46
      go_wp2
      go_ret
      exact ⟨ret_bool (by rw [HV.out]; exact decide_eq_false (by omega)), rfl⟩
  · have HV := hidI (show nameS n = false from by unfold nameS; rw [decide_eq_false hsz]; rfl)
    have hn : ((n.size : Int) == 1) = false := by rw [beq_eq_false_iff_ne]; omega
    clear hsz
    go_enter Tryd.func46, Tryd.ntmps46
    go_wp2
    go_ret
    exact ⟨ret_bool HV.out.symm, rfl⟩
end Go.Proofs.YtpdmfbhjneodeaaDoor
