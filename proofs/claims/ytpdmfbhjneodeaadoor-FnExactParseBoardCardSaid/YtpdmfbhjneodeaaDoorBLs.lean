/-
  The laws' helpers on lists of numbers: compared, marked, and held.
  What the program's functions that look for balls return: the numbers of all balls' cells, and the place of one with a name.
  What the model's functions that turn and mirror trays return.
  What the model's functions that look for balls return, and the law on the numbers of balls.
-/
import Derived.Test.YtpdmfbhjneodeaaDoorBSp
import Derived.Test.YtpdmfbhjneodeaaDoorBIm
import Derived.Test.YtpdmfbhjneodeaaDoorBKit
import Derived.Test.YtpdmfbhjneodeaaDoorBTxt
namespace Go.Proofs.YtpdmfbhjneodeaaDoor
open Go.RowKit
def intsV (L : List Int) : List Value := L.map fun n => .int .i64 n
def gi (L : List Int) (i : Nat) : Int := L.getD i 0
/-- The marks k, k + 1, .. -/
def marks (k n : Nat) : List Int := (List.range n).map fun i => ((k + i : Nat) : Int)
theorem marks_length (k n : Nat) : (marks k n).length = n := by simp [marks]
theorem marks_at (k n i : Nat) (h : i < n) : gi (marks k n) i = ((k + i : Nat) : Int) := by
  unfold gi marks; simp [List.getD, h]
theorem own_int {w : World} {base : Nat} {e : TypeId} {g n cap : Nat} {L : List Int} (hr : w.ownsRow base e 1 (.slice (some ⟨g, 0, none⟩) n cap) n (intsV L)) (j : Nat) (hj : j < n) (hn : n = L.length) :
    w.cell? ⟨g, j, none⟩ = some (.int .i64 (gi L j)) := by
  rw [hr.cellAt j (by omega)]
  unfold intsV gi
  rw [List.getElem?_map, List.getElem?_eq_getElem (by omega)]
  simp [List.getD, show j < L.length by omega]
theorem int_ext {c d : List Int} (h1 : c.length = d.length) (h : ∀ i, i < c.length → gi c i = gi d i) : c = d := by
  apply List.ext_getElem h1
  intro i hi hj
  have := h i hi
  unfold gi at this
  simpa [List.getD, hi, hj] using this
theorem intsV_one (L : List Int) : ∀ v ∈ intsV L, v.oneCell' = true := by
  intro v hv
  obtain ⟨b, _, rfl⟩ := List.mem_map.1 hv
  rfl
theorem intsV_set (L : List Int) (j : Nat) (n : Int) : (intsV L).set j (.int .i64 n) = intsV (L.set j n) := by
  unfold intsV; rw [List.map_set]
theorem intsV_append (L M : List Int) : intsV L ++ intsV M = intsV (L ++ M) := by unfold intsV; rw [List.map_append]
/-- The first j numbers replaced by marks. -/
def markTo (L : List Int) (k : Nat) : Nat → List Int
  | 0 => L
  | j + 1 => (markTo L k j).set j ((k + j : Nat) : Int)
theorem markTo_length (L : List Int) (k j : Nat) : (markTo L k j).length = L.length := by
  induction j with
  | zero => rfl
  | succ j ih => unfold markTo; simp [ih]
theorem markTo_at (L : List Int) (k j i : Nat) (hj : j ≤ L.length) : gi (markTo L k j) i = if i < j then ((k + i : Nat) : Int) else gi L i := by
  induction j with
  | zero => rfl
  | succ j ih =>
    have ih := ih (by omega)
    show gi ((markTo L k j).set j ((k + j : Nat) : Int)) i = _
    unfold gi at ih ⊢
    by_cases e : j = i
    · subst e
      have := markTo_length L k j
      rw [if_pos (by omega)]
      simp [List.getD, this, show j < L.length by omega]
    · simp only [List.getD] at ih ⊢
      rw [List.getElem?_set_ne e, ih]
      by_cases h : i < j
      · rw [if_pos h, if_pos (by omega)]
      · rw [if_neg h, if_neg (by omega)]
theorem markTo_end (L : List Int) (k : Nat) : markTo L k L.length = marks k L.length := by
  apply int_ext (by rw [markTo_length, marks_length])
  intro i hi
  rw [markTo_length] at hi
  rw [markTo_at L k L.length i (Nat.le_refl _), if_pos hi, marks_at k _ i hi]
theorem Grb.refl (B : Option Nat) (w : World) : Grb B w w := ⟨⟨rfl, rfl, rfl, Nat.le_refl _, fun _ _ _ => rfl⟩⟩
theorem Upd.grb {B : Nat} {w w' : World} (h : Upd B w w') : Grb (some B) w w' :=
  ⟨⟨h.os, h.tape, h.output, by have := h.size; omega, fun k _ hk => h.block k (fun e => hk (by rw [e]))⟩⟩
theorem Grb.trans {B : Option Nat} {a b c : World} (h : Grb B a b) (k : Grb B b c) : Grb B a c :=
  ⟨⟨k.g.os.trans h.g.os, k.g.tape.trans h.g.tape, k.g.output.trans h.g.output, Nat.le_trans h.g.size k.g.size, fun j hj hn => (k.g.block j (Nat.lt_of_lt_of_le hj h.g.size) hn).trans (h.g.block j hj hn)⟩⟩
theorem Gr.grb {a b : World} (h : Gr a b) (B : Option Nat) : Grb B a b := ⟨⟨h.os, h.tape, h.output, h.size, fun j hj _ => h.block j hj⟩⟩
theorem Grb.gr' {B : Option Nat} {a b c : World} (h : Grb B a b) (k : Gr b c) : Grb B a c := h.trans (k.grb B)
theorem Grb.upd {B : Nat} {a b c : World} (h : Grb (some B) a b) (k : Upd B b c) : Grb (some B) a c := h.trans k.grb
theorem Grb.newer {B : Option Nat} {D : Option Nat} {a b c : World} (h : Grb B a b) (k : Grb D b c) (hD : ∀ x, D = some x → a.heap.size ≤ x) : Grb B a c :=
  ⟨⟨k.g.os.trans h.g.os, k.g.tape.trans h.g.tape, k.g.output.trans h.g.output, Nat.le_trans h.g.size k.g.size, fun j hj hn => (k.g.block j (Nat.lt_of_lt_of_le hj h.g.size) (fun e => by have := hD j e.symm; omega)).trans (h.g.block j hj hn)⟩⟩
theorem own_len {w : World} {base : Nat} {e : TypeId} {size : Nat} {p : Option Addr} {m k : Nat} {n : Nat} {xs : List Value} (hr : w.ownsRow base e size (.slice p m k) n xs) : m = n := by
  obtain ⟨_, ⟨h, h0⟩ | ⟨g, cap, cur, h, _⟩⟩ := hr
  · cases h; exact h0.symm
  · cases h; rfl
set_option maxHeartbeats 1000000 in
set_option maxRecDepth 100000 in
theorem eqIntS_any (v1 v2 : Value) (L M : List Int) (b1 b2 : Nat) (w : World) (h1 : w.ownsRow b1 3 1 v1 L.length (intsV L)) (h2 : w.ownsRow b2 3 1 v2 M.length (intsV M)) (hl : L.length ≤ 1048576) :
    Calls Tryd.prog 24 #[v1, v2] w (Ret (.bool (decide (L = M))) w) := by
  have gg := Gr.refl w
  obtain ⟨p1, m1, k1, rfl⟩ := own_slice h1
  obtain ⟨p2, m2, k2, rfl⟩ := own_slice h2
  obtain rfl : m1 = L.length := own_len h1
  obtain rfl : m2 = M.length := own_len h2
  by_cases hne : L.length = M.length
  · have HN := hidI hne
    have e0 : ((L.length : Int) != (M.length : Int)) = false := by rw [hne]; simp
    have H1 := hidI h1
    have H2 := hidI h2
    clear hne h1 h2
    go_enter Tryd.func24, Tryd.ntmps24
    go_wp2
    go_loopw [5] (fun i wr => ∃ k : Nat, k ≤ L.length ∧ i = .int .i64 k ∧ Gr w wr ∧ Hid (∀ j, j < k → gi L j = gi M j)) (fun i _ => L.length - (intOf i).toNat)
    case atStart => exact ⟨0, Nat.zero_le _, rfl, gg, fun j hj => by omega⟩
    case round =>
      obtain ⟨k, hk, rfl, gg, HA⟩ := hrel
      by_cases hlt : k < L.length
      · obtain ⟨g1, c1, e1, -, -⟩ := own_shape H1.out (by omega)
        obtain ⟨g2, c2, e2, -, -⟩ := own_shape H2.out (by rw [← HN.out]; omega)
        cases e1; cases e2
        have c1 := own_int (gg.row H1.out) k hlt rfl
        have hlt2 : k < M.length := by rw [← HN.out]; exact hlt
        have c2 := own_int (gg.row H2.out) k hlt2 rfl
        by_cases hb : gi L k = gi M k
        · have e3 : (gi L k != gi M k) = false := by rw [hb]; simp
          have HB := hidI hb
          clear hb
          go_wp2
          go_quiet (fail)
          go_wp2
          go_roundw
          case rel => exact ⟨k + 1, by omega, by go_num, gg.drewN nq, fun j hj => if h : j < k then HA.out j h else by rw [show j = k by omega]; exact HB.out⟩
          case measure => simp [intOf]; omega
        · have e3 : (gi L k != gi M k) = true := by rw [bne_iff_ne]; exact hb
          have HV := hidI (show decide (L = M) = false from decide_eq_false fun e => hb (by rw [e]))
          clear hb
          go_wp2
          go_quiet (fail)
          go_wp2
          go_ret
          exact ⟨ret_bool HV.out.symm, gg.drewN nq⟩
      · obtain rfl : k = L.length := by omega
        have HV := hidI (show decide (L = M) = true from decide_eq_true (int_ext HN.out HA.out))
        clear hlt
        go_wp2
        go_ret
        exact ⟨ret_bool HV.out.symm, gg⟩
  · have e0 : ((L.length : Int) != (M.length : Int)) = true := by rw [bne_iff_ne]; omega
    have HV := hidI (show decide (L = M) = false from decide_eq_false fun e => hne (by rw [e]))
    clear hne
    go_enter Tryd.func24, Tryd.ntmps24
    go_wp2
    go_ret
    exact ⟨ret_bool HV.out.symm, gg⟩
set_option maxHeartbeats 1000000 in
set_option maxRecDepth 100000 in
theorem markIntS_any (v : Value) (L : List Int) (k : Nat) (base : Nat) (w : World) (h1 : w.ownsRow base 3 1 v L.length (intsV L)) (hl : L.length ≤ 1048576) (hk : k ≤ 1073741824) :
    Calls Tryd.prog 25 #[v, .int .i64 k] w fun e w' => e = .returned (.int .i64 (k + L.length : Nat)) ∧ w'.ownsRow base 3 1 v L.length (intsV (marks k L.length)) ∧ Grb v.ownBlock w w' ∧ w.heap.size = w'.heap.size := by
  obtain ⟨p1, m1, k1, rfl⟩ := own_slice h1
  obtain rfl : m1 = L.length := own_len h1
  by_cases h0 : L.length = 0
  · have HL := hidI h0
    have e0 : (L.length : Int) = 0 := by omega
    have H1 := hidI h1
    clear h0 h1
    go_enter Tryd.func25, Tryd.ntmps25
    go_wp2
    go_loop [1, 5] (fun kv iv => iv = .int .i64 0 ∧ kv = .int .i64 k) (fun _ _ => 0)
    case atStart => exact ⟨rfl, rfl⟩
    case round =>
      obtain ⟨rfl, rfl⟩ := hrel
      go_wp2
      go_ret
      refine ⟨by rw [HL.out]; rfl, ?_, Grb.refl _ _, rfl⟩
      have hLn : L = [] := List.eq_nil_of_length_eq_zero HL.out
      have h := H1.out
      rw [hLn] at h ⊢
      exact h
  · obtain ⟨g1, c1, e1, -, -⟩ := own_shape h1 (by omega)
    cases e1
    have H0 := hidI h0
    clear h0
    go_enter Tryd.func25, Tryd.ntmps25
    go_wp2
    go_loopw [1, 5] (fun kv iv wr => ∃ j : Nat, j ≤ L.length ∧ iv = .int .i64 j ∧ kv = .int .i64 (k + j : Nat) ∧ wr.ownsRow base 3 1 (.slice (some ⟨g1, 0, none⟩) L.length k1) L.length (intsV (markTo L k j)) ∧ Upd g1 w wr) (fun _ iv _ => L.length - (intOf iv).toNat)
    case atStart => exact ⟨0, Nat.zero_le _, rfl, rfl, h1, ⟨rfl, rfl, rfl, rfl, fun _ _ => rfl⟩⟩
    case round =>
      obtain ⟨j, hj, rfl, rfl, own, uu⟩ := hrel
      by_cases hlt : j < L.length
      · have HS := hidI (show (markTo L k j).set j ((k + j : Nat) : Int) = markTo L k (j + 1) from rfl)
        go_wp2_with (refine r_store_own 3 3 _ _ g1 j L.length k1 base (intsV (markTo L k j)) rfl (.int .i64 ((k + j : Nat) : Int)) rfl own hlt Tryd.sizeOf3 rfl rfl ?_; intro w10 u10 own10; rw [intsV_set, HS.out] at own10)
        go_roundw
        case rel => exact ⟨j + 1, by omega, by go_num, by (first | rfl | (congr 1; omega)), own10, uu.trans u10⟩
        case measure => simp [intOf]; omega
      · obtain rfl : j = L.length := by omega
        have HE := hidI (markTo_end L k)
        rw [HE.out] at own
        clear hlt
        go_wp2
        go_ret
        exact ⟨rfl, own, uu.grb, uu.size⟩
set_option maxHeartbeats 1000000 in
set_option maxRecDepth 100000 in
theorem heldIntS_any (v : Value) (n k : Nat) (base : Nat) (w : World) (h1 : w.ownsRow base 3 1 v n (intsV (marks k n))) (hl : n ≤ 1048576) (hk : k ≤ 1073741824) :
    Calls Tryd.prog 26 #[v, .int .i64 k] w (Ret (.int .i64 (k + n : Nat)) w) := by
  have gg := Gr.refl w
  obtain ⟨p1, m1, k1, rfl⟩ := own_slice h1
  obtain rfl : n = m1 := (own_len h1).symm
  have H1 := hidI h1
  clear h1
  go_enter Tryd.func26, Tryd.ntmps26
  go_wp2
  go_loopw [1, 5] (fun kv iv wr => ∃ j : Nat, j ≤ n ∧ iv = .int .i64 j ∧ kv = .int .i64 (k + j : Nat) ∧ Gr w wr) (fun _ iv _ => n - (intOf iv).toNat)
  case atStart => exact ⟨0, Nat.zero_le _, rfl, rfl, gg⟩
  case round =>
    obtain ⟨j, hj, rfl, rfl, gg⟩ := hrel
    by_cases hlt : j < n
    · obtain ⟨g1, c1, e1, -, -⟩ := own_shape H1.out (by omega)
      cases e1
      have c1 := own_int (gg.row H1.out) j hlt (marks_length _ _).symm
      rw [marks_at k n j hlt] at c1
      obtain ⟨m, hm⟩ : ∃ m, m = k + j := ⟨_, rfl⟩
      rw [← hm] at c1 ⊢
      have hm1 : m ≤ 1074790400 := by omega
      have HM := hidI hm
      clear hm
      go_wp2
      go_roundw
      case rel => exact ⟨j + 1, by omega, by go_num, by (rw [HM.out]; first | rfl | (congr 1; omega)), gg⟩
      case measure => simp [intOf]; omega
    · obtain rfl : n = j := by omega
      clear hlt
      go_wp2
      go_ret
      exact ⟨rfl, gg⟩
end Go.Proofs.YtpdmfbhjneodeaaDoor
namespace Go.Proofs.YtpdmfbhjneodeaaDoor
open Go.RowKit
/-- The numbers of those of the first k cells for which p holds. -/
def ballsTo (p : UInt8 → Bool) (c : List UInt8) : Nat → List Int
  | 0 => []
  | k + 1 => if p (at0 c k) then ballsTo p c k ++ [(k : Int)] else ballsTo p c k
theorem ballsTo_le (p : UInt8 → Bool) (c : List UInt8) (k : Nat) : (ballsTo p c k).length ≤ k := by
  induction k with
  | zero => exact Nat.le_refl _
  | succ k ih =>
    unfold ballsTo
    split
    · rw [List.length_append]; exact Nat.succ_le_succ ih
    · omega
theorem ballsTo_congr {p q : UInt8 → Bool} {c : List UInt8} (k : Nat) (h : ∀ i, i < k → p (at0 c i) = q (at0 c i)) : ballsTo p c k = ballsTo q c k := by
  induction k with
  | zero => rfl
  | succ k ih => unfold ballsTo; rw [h k (by omega), ih (fun i hi => h i (by omega))]
def blL (l : List UInt8) : List Int := ballsTo isBallB (rdG l).c (nn (rdG l).w (rdG l).h)
theorem bl_impl (l : List UInt8) : ballsTo ballB (rdG l).c (nn (rdG l).w (rdG l).h) = blL l := by
  unfold blL
  rcases rd_cases l with ⟨_, hg, _⟩ | ⟨g, hp, hg, _⟩
  · rw [hg]; rfl
  · rw [hg]
    have ht := parse_tray hp
    exact ballsTo_congr _ fun i hi => ball_cell (ht.cells i (by rw [ht.len]; exact hi))
/-- It returns a list of numbers in new memory, and whether it has succeeded. -/
def RetInts (T : TypeId) (L : List Int) (ok : Bool) (w : World) (e : Ending) (w' : World) : Prop :=
  Gr w w' ∧ ∃ v, e = .returned (.tuple #[v, .bool ok]) ∧ w'.ownsRow w.heap.size T 1 v L.length (intsV L)
theorem fin_vb {v : Value} {x y : Bool} (h2 : x = y) : Ending.returned (.tuple #[v, .bool x]) = .returned (.tuple #[v, .bool y]) := by rw [h2]
theorem Tryd.bsi1 (u : Int) (w : World) : (Instr.buildSlice 28 1 #[(0, .int .i64 u)]).run Tryd.prog w = .ok (.slice (some ⟨w.heap.size, 0, none⟩) 1 1) (w.alloc (.cells #[.int .i64 u] 3)) := by kernel_rfl
theorem Tryd.intsI : ElemInfo Tryd.prog 28 3 (.int .i64 0) 1 8 := ⟨Tryd.underlying28, by kernel_rfl, rfl, by decide⟩
end Go.Proofs.YtpdmfbhjneodeaaDoor
namespace Go.Proofs.YtpdmfbhjneodeaaDoor
open Go.RowKit
theorem genC_succ (n : Nat) (f : Nat → UInt8) : genC (n + 1) f = genC n f ++ [f n] := by
  unfold genC
  rw [List.range_succ, List.map_append]
  rfl
theorem cellsV_append (c d : List UInt8) : cellsV c ++ cellsV d = cellsV (c ++ d) := by
  unfold cellsV; rw [List.map_append]
/-- The model's turned cells. -/
def fTu (W H : Nat) (c : List UInt8) (i : Nat) : UInt8 := at0 c ((H - 1 - i % H) * W + i / H)
def fMi (W : Nat) (c : List UInt8) (i : Nat) : UInt8 := at0 c (srcM W i)
theorem fTu_at (W H : Nat) (c : List UInt8) (x j : Nat) (hj : j < H) : fTu W H c (nn x H + j) = at0 c ((H - 1 - j) * W + x) := by
  unfold fTu nn
  rw [pair_mod hj, pair_div hj]
theorem fMi_at (W : Nat) (c : List UInt8) (y j : Nat) (hj : j < W) : fMi W c (nn y W + j) = at0 c (y * W + (W - 1 - j)) := by
  unfold fMi srcM nn
  rw [pair_mod hj, pair_div hj]
end Go.Proofs.YtpdmfbhjneodeaaDoor
namespace Go.Proofs.YtpdmfbhjneodeaaDoor
open Go.RowKit
theorem own_apart {w1 w2 : World} {b1 b2 : Nat} {e1 e2 : TypeId} {s1 s2 : Nat} {v1 v2 : Value} {n1 n2 : Nat} {x1 x2 : List Value} (h1 : w1.ownsRow b1 e1 s1 v1 n1 x1) (h2 : w2.ownsRow b2 e2 s2 v2 n2 x2) (hb : w1.heap.size ≤ b2) : v1.ownBlock = none ∨ v1.ownBlock ≠ v2.ownBlock := by
  cases h : v1.ownBlock with
  | none => exact .inl rfl
  | some k =>
    refine .inr fun e => ?_
    have a := (h1.lt k h).2
    have b := (h2.lt k e.symm).1
    omega
end Go.Proofs.YtpdmfbhjneodeaaDoor
