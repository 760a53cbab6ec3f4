/-
  The laws' helpers on lists of numbers: compared, marked, and held.
  What the program's functions that look for balls return: the numbers of all balls' cells, and the place of one with a name.
  What the model's functions that turn and mirror trays return.
  What the model's functions that look for balls return, and the law on the numbers of balls.
-/
import Derived.Test.YtdebiobhmpoiiaaDoorBSp
import Derived.Test.YtdebiobhmpoiiaaDoorBIm
import Derived.Test.YtdebiobhmpoiiaaDoorBKit
import Derived.Test.YtdebiobhmpoiiaaDoorBTxt
namespace Go.Proofs.YtdebiobhmpoiiaaDoor
open Go.RowKit
def intsV (L : List Int) : List Value := L.map fun n => .int .i64 n
def gi (L : List Int) (i : Nat) : Int := L.getD i 0
/-- The marks k, k + 1, .. -/
def marks (k n : Nat) : List Int := (List.range n).map fun i => ((k + i : Nat) : Int)
theorem marks_length (k n : Nat) : (marks k n).length = n := by simp [marks]
theorem marks_at (k n i : Nat) (h : i < n) : gi (marks k n) i = ((k + i : Nat) : Int) := by
  unfold gi marks; simp [List.getD, h]
theorem own_int {w : World} {base : Nat} {e : TypeId} {g n cap : Nat} {L : List Int} (hr : w.ownsRow base e 1 (.slice (some ⟨g, 0, none⟩) n cap) n (intsV L)) (j : Nat) (hj : j < n) (hn : n = L.length) :
    w.cell? ⟨g, j, none⟩ = some (.int .i64 (gi L j)) := by
  rw [hr.cellAt j (by omega)]
  unfold intsV gi
  rw [List.getElem?_map, List.getElem?_eq_getElem (by omega)]
  simp [List.getD, show j < L.length by omega]
theorem int_ext {c d : List Int} (h1 : c.length = d.length) (h : ∀ i, i < c.length → gi c i = gi d i) : c = d := by
  apply List.ext_getElem h1
  intro i hi hj
  have := h i hi
  unfold gi at this
  simpa [List.getD, hi, hj] using this
theorem intsV_one (L : List Int) : ∀ v ∈ intsV L, v.oneCell' = true := by
  intro v hv
  obtain ⟨b, _, rfl⟩ := List.mem_map.1 hv
  rfl
theorem intsV_set (L : List Int) (j : Nat) (n : Int) : (intsV L).set j (.int .i64 n) = intsV (L.set j n) := by
  unfold intsV; rw [List.map_set]
theorem intsV_append (L M : List Int) : intsV L ++ intsV M = intsV (L ++ M) := by unfold intsV; rw [List.map_append]
/-- The first j numbers replaced by marks. -/
def markTo (L : List Int) (k : Nat) : Nat → List Int
  | 0 => L
  | j + 1 => (markTo L k j).set j ((k + j : Nat) : Int)
theorem markTo_length (L : List Int) (k j : Nat) : (markTo L k j).length = L.length := by
  induction j with
  | zero => rfl
  | succ j ih => unfold markTo; simp [ih]
theorem markTo_at (L : List Int) (k j i : Nat) (hj : j ≤ L.length) : gi (markTo L k j) i = if i < j then ((k + i : Nat) : Int) else gi L i := by
  induction j with
  | zero => rfl
  | succ j ih =>
    have ih := ih (by omega)
    show gi ((markTo L k j).set j ((k + j : Nat) : Int)) i = _
    unfold gi at ih ⊢
    by_cases e : j = i
    · subst e
      have := markTo_length L k j
      rw [if_pos (by omega)]
      simp [List.getD, this, show j < L.length by omega]
    · simp only [List.getD] at ih ⊢
      rw [List.getElem?_set_ne e, ih]
      by_cases h : i < j
      · rw [if_pos h, if_pos (by omega)]
      · rw [if_neg h, if_neg (by omega)]
theorem markTo_end (L : List Int) (k : Nat) : markTo L k L.length = marks k L.length := by
  apply int_ext (by rw [markTo_length, marks_length])
  intro i hi
  rw [markTo_length] at hi
  rw [markTo_at L k L.length i (Nat.le_refl _), if_pos hi, marks_at k _ i hi]
theorem Grb.refl (B : Option Nat) (w : World) : Grb B w w := ⟨⟨rfl, rfl, rfl, Nat.le_refl _, fun _ _ _ => rfl⟩⟩
theorem Upd.grb {B : Nat} {w w' : World} (h : Upd B w w') : Grb (some B) w w' :=
  ⟨⟨h.os, h.tape, h.output, by have := h.size; omega, fun k _ hk => h.block k (fun e => hk (by rw [e]))⟩⟩
theorem Grb.trans {B : Option Nat} {a b c : World} (h : Grb B a b) (k : Grb B b c) : Grb B a c :=
  ⟨⟨k.g.os.trans h.g.os, k.g.tape.trans h.g.tape, k.g.output.trans h.g.output, Nat.le_trans h.g.size k.g.size, fun j hj hn => (k.g.block j (Nat.lt_of_lt_of_le hj h.g.size) hn).trans (h.g.block j hj hn)⟩⟩
theorem Gr.grb {a b : World} (h : Gr a b) (B : Option Nat) : Grb B a b := ⟨⟨h.os, h.tape, h.output, h.size, fun j hj _ => h.block j hj⟩⟩
theorem Grb.gr' {B : Option Nat} {a b c : World} (h : Grb B a b) (k : Gr b c) : Grb B a c := h.trans (k.grb B)
theorem Grb.upd {B : Nat} {a b c : World} (h : Grb (some B) a b) (k : Upd B b c) : Grb (some B) a c := h.trans k.grb
theorem Grb.newer {B : Option Nat} {D : Option Nat} {a b c : World} (h : Grb B a b) (k : Grb D b c) (hD : ∀ x, D = some x → a.heap.size ≤ x) : Grb B a c :=
  ⟨⟨k.g.os.trans h.g.os, k.g.tape.trans h.g.tape, k.g.output.trans h.g.output, Nat.le_trans h.g.size k.g.size, fun j hj hn => (k.g.block j (Nat.lt_of_lt_of_le hj h.g.size) (fun e => by have := hD j e.symm; omega)).trans (h.g.block j hj hn)⟩⟩
theorem own_len {w : World} {base : Nat} {e : TypeId} {size : Nat} {p : Option Addr} {m k : Nat} {n : Nat} {xs : List Value} (hr : w.ownsRow base e size (.slice p m k) n xs) : m = n := by
  obtain ⟨_, ⟨h, h0⟩ | ⟨g, cap, cur, h, _⟩⟩ := hr
  · cases h; exact h0.symm
  · cases h; rfl
set_option maxHeartbeats 1000000 in
set_option maxRecDepth 100000 in
theorem eqIntS_any (v1 v2 : Value) (L M : List Int) (b1 b2 : Nat) (w : World) (h1 : w.ownsRow b1 3 1 v1 L.length (intsV L)) (h2 : w.ownsRow b2 3 1 v2 M.length (intsV M)) (hl : L.length ≤ 1048576) :
    Calls Tryd.prog 20 #[v1, v2] w (Ret (.bool (decide (L = M))) w) := by
  have gg := Gr.refl w
  obtain ⟨p1, m1, k1, rfl⟩ := own_slice h1
  obtain ⟨p2, m2, k2, rfl⟩ := own_slice h2
  obtain rfl : m1 = L.length := own_len h1
  obtain rfl : m2 = M.length := own_len h2
  by_cases hne : L.length = M.length
  · have HN := hidI hne
    have e0 : ((L.length : Int) != (M.length : Int)) = false := by rw [hne]; simp
    have H1 := hidI h1
    have H2 := hidI h2
    clear hne h1 h2
    go_enter Tryd.func20, Tryd.ntmps20
    go_wp2
    go_loopw [5] (fun i wr => ∃ k : Nat, k ≤ L.length ∧ i = .int .i64 k ∧ Gr w wr ∧ Hid (∀ j, j < k → gi L j = gi M j)) (fun i _ => L.length - (intOf i).toNat)
    case atStart => exact ⟨0, Nat.zero_le _, rfl, gg, fun j hj => by omega⟩
    case round =>
      obtain ⟨k, hk, rfl, gg, HA⟩ := hrel
      by_cases hlt : k < L.length
      · obtain ⟨g1, c1, e1, -, -⟩ := own_shape H1.out (by omega)
        obtain ⟨g2, c2, e2, -, -⟩ := own_shape H2.out (by rw [← HN.out]; omega)
        cases e1; cases e2
        have c1 := own_int (gg.row H1.out) k hlt rfl
        have hlt2 : k < M.length := by rw [← HN.out]; exact hlt
        have c2 := own_int (gg.row H2.out) k hlt2 rfl
        by_cases hb : gi L k = gi M k
        · have e3 : (gi L k != gi M k) = false := by rw [hb]; simp
          have HB := hidI hb
          clear hb
          go_wp2
          go_quiet (fail)
          go_wp2
          go_roundw
          case rel => exact ⟨k + 1, by omega, by go_num, gg.drewN nq, fun j hj => if h : j < k then HA.out j h else by rw [show j = k by omega]; exact HB.out⟩
          case measure => simp [intOf]; omega
        · have e3 : (gi L k != gi M k) = true := by rw [bne_iff_ne]; exact hb
          have HV := hidI (show decide (L = M) = false from decide_eq_false fun e => hb (by rw [e]))
          clear hb
          go_wp2
          go_quiet (fail)
          go_wp2
          go_ret
          exact ⟨ret_bool HV.out.symm, gg.drewN nq⟩
      · obtain rfl : k = L.length := by omega
        have HV := hidI (show decide (L = M) = true from decide_eq_true (int_ext HN.out HA.out))
        clear hlt
        go_wp2
        go_ret
        exact ⟨ret_bool HV.out.symm, gg⟩
  · have e0 : ((L.length : Int) != (M.length : Int)) = true := by rw [bne_iff_ne]; omega
    have HV := hidI (show decide (L = M) = false from decide_eq_false fun e => hne (by rw [e]))
    clear hne
    go_enter Tryd.func20, Tryd.ntmps20
    go_wp2
    go_ret
    exact ⟨ret_bool HV.out.symm, gg⟩
end Go.Proofs.YtdebiobhmpoiiaaDoor
namespace Go.Proofs.YtdebiobhmpoiiaaDoor
open Go.RowKit
/-- The numbers of those of the first k cells for which p holds. -/
def ballsTo (p : UInt8 → Bool) (c : List UInt8) : Nat → List Int
  | 0 => []
  | k + 1 => if p (at0 c k) then ballsTo p c k ++ [(k : Int)] else ballsTo p c k
theorem ballsTo_le (p : UInt8 → Bool) (c : List UInt8) (k : Nat) : (ballsTo p c k).length ≤ k := by
  induction k with
  | zero => exact Nat.le_refl _
  | succ k ih =>
    unfold ballsTo
    split
    · rw [List.length_append]; exact Nat.succ_le_succ ih
    · omega
theorem ballsTo_congr {p q : UInt8 → Bool} {c : List UInt8} (k : Nat) (h : ∀ i, i < k → p (at0 c i) = q (at0 c i)) : ballsTo p c k = ballsTo q c k := by
  induction k with
  | zero => rfl
  | succ k ih => unfold ballsTo; rw [h k (by omega), ih (fun i hi => h i (by omega))]
def blL (l : List UInt8) : List Int := ballsTo isBallB (rdG l).c (nn (rdG l).w (rdG l).h)
theorem bl_impl (l : List UInt8) : ballsTo ballB (rdG l).c (nn (rdG l).w (rdG l).h) = blL l := by
  unfold blL
  rcases rd_cases l with ⟨_, hg, _⟩ | ⟨g, hp, hg, _⟩
  · rw [hg]; rfl
  · rw [hg]
    have ht := parse_tray hp
    exact ballsTo_congr _ fun i hi => ball_cell (ht.cells i (by rw [ht.len]; exact hi))
/-- It returns a list of numbers in new memory, and whether it has succeeded. -/
def RetInts (T : TypeId) (L : List Int) (ok : Bool) (w : World) (e : Ending) (w' : World) : Prop :=
  Gr w w' ∧ ∃ v, e = .returned (.tuple #[v, .bool ok]) ∧ w'.ownsRow w.heap.size T 1 v L.length (intsV L)
theorem fin_vb {v : Value} {x y : Bool} (h2 : x = y) : Ending.returned (.tuple #[v, .bool x]) = .returned (.tuple #[v, .bool y]) := by rw [h2]
theorem Tryd.bsi1 (u : Int) (w : World) : (Instr.buildSlice 34 1 #[(0, .int .i64 u)]).run Tryd.prog w = .ok (.slice (some ⟨w.heap.size, 0, none⟩) 1 1) (w.alloc (.cells #[.int .i64 u] 3)) := by kernel_rfl
theorem Tryd.intsI : ElemInfo Tryd.prog 34 3 (.int .i64 0) 1 8 := ⟨Tryd.underlying34, by kernel_rfl, rfl, by decide⟩
set_option maxHeartbeats 2000000 in
set_option maxRecDepth 100000 in
theorem ballsIn_any (W H : Nat) (c : List UInt8) (w : World) (hW : W ≤ 7) (hH : H ≤ 7) (h36 : nn W H ≤ 36) : Calls Tryd.prog 116 #[.agg (gv W H c)] w fun e w' => Gr w w' ∧ ∃ v, e = .returned v ∧ w'.ownsRow w.heap.size 3 1 v (ballsTo ballB c (nn W H)).length (intsV (ballsTo ballB c (nn W H))) := by
  have gg := Gr.refl w
  go_enter Tryd.func116, Tryd.ntmps116
  go_wp2_with (first | (refine r_box 72 _ (gv W H c) rfl rfl ?_; intro w1 B1 N1; have g1 := N1.gr; have b1 : Blk w1 B1 (gv W H c) 72 := N1.blk; have l1 := N1.lo; have t1 := N1.hi; have z1 := g1.size; have gg := gg.trans g1; clear N1; obtain ⟨b1_0, b1_1, b1_2⟩ := gcells b1) | (refine r_load_row 72 _ _ rfl _ _ _ b1 Tryd.underlying72 rfl (Tryd.ginfo' _ _ _) rfl ?_) | (go_at_call 70; refine (countAll_any W H c _ hW hH).mono ?_; rintro e w2 ⟨rfl, g2⟩; have z2 := g2.size; have b1 := g2.blk b1; obtain ⟨b1_0, b1_1, b1_2⟩ := gcells b1; have gg := gg.trans g2))
  have own0 : w2.ownsRow w.heap.size 3 1 (.slice none 0 0) (ballsTo ballB c 0).length (intsV (ballsTo ballB c 0)) := World.ownsRow_nil _ _ _ _
  go_loopw [3, 4, 7] (fun bv _ i wr => ∃ k : Nat, k ≤ nn W H ∧ i = .int .i64 k ∧ Blk wr B1 (gv W H c) 72 ∧ wr.ownsRow w.heap.size 3 1 bv (ballsTo ballB c k).length (intsV (ballsTo ballB c k)) ∧ Gr w wr) (fun _ _ i _ => nn W H - (intOf i).toNat)
  case atStart => exact ⟨0, Nat.zero_le _, rfl, b1, own0, gg⟩
  case round =>
    obtain ⟨k, hk, rfl, b1, own, gg⟩ := hrel
    by_cases hlt : k < nn W H
    · have hix := Tryd.gix B1 k (by omega)
      have hc := (gcells b1).2.2 k (by omega)
      have hle := ballsTo_le ballB c k
      by_cases hb : ballB (at0 c k) = true
      · have HS := hidI (show ballsTo ballB c k ++ [(k : Int)] = ballsTo ballB c (k + 1) from by rw [ballsTo, if_pos hb])
        have HB := hidI hb
        clear hb
        go_wp2_with (first | (go_at_call 140; refine (isBall_any _ _).mono ?_; rintro e wSame ⟨rfl, rfl⟩; rw [HB.out]) | (refine r_slice1 34 3 (.tmp 16) (.int .i64 k) rfl (Tryd.bsi1 _ _) rfl ?_; intro w5 B5 N5; have g5 := N5.gr; have own5 := g5.row own; have b15 := g5.blk b1; have gg5 := gg.trans g5; have z5 := g5.size) | (refine r_append (.tmp 15) (.tmp 17) 34 3 _ 1 8 w.heap.size Tryd.intsI _ _ (intsV (ballsTo ballB c k)) rfl own5 ⟨B5, 0, none⟩ 1 1 [.int .i64 k] rfl rfl N5.cell1 (intsV_one [(k : Int)]) (by omega) (by decide) (by have := gg5.size; omega) rfl ?_; intro v6 w6 own6 g6))
        have b16 := g6.blk b15 (own_ne own5 b15 (by decide))
        have gg6 := g6.gr gg5 (own_gr own5 (Nat.le_refl _))
        have own7 : w6.ownsRow w.heap.size 3 1 v6 (ballsTo ballB c (k + 1)).length (intsV (ballsTo ballB c (k + 1))) := by
          rw [← HS.out, ← intsV_append, List.length_append]
          exact own6
        go_roundw
        case rel => exact ⟨k + 1, by omega, by go_num, b16, own7, gg6⟩
        case measure => simp [intOf]; omega
      · have HS := hidI (show ballsTo ballB c k = ballsTo ballB c (k + 1) from by rw [ballsTo, if_neg hb])
        have HB := hidI (show ballB (at0 c k) = false from by simpa using hb)
        clear hb
        go_wp2_with (go_at_call 140; refine (isBall_any _ _).mono ?_; rintro e wSame ⟨rfl, rfl⟩; rw [HB.out])
        go_roundw
        case rel => exact ⟨k + 1, by omega, by go_num, b1, by rw [← HS.out]; exact own, gg⟩
        case measure => simp [intOf]; omega
    · obtain rfl : k = nn W H := by omega
      clear hlt
      go_wp2
      go_ret
      exact ⟨gg, _, rfl, own⟩
end Go.Proofs.YtdebiobhmpoiiaaDoor
namespace Go.Proofs.YtdebiobhmpoiiaaDoor
open Go.RowKit
theorem genC_succ (n : Nat) (f : Nat → UInt8) : genC (n + 1) f = genC n f ++ [f n] := by
  unfold genC
  rw [List.range_succ, List.map_append]
  rfl
theorem cellsV_append (c d : List UInt8) : cellsV c ++ cellsV d = cellsV (c ++ d) := by
  unfold cellsV; rw [List.map_append]
/-- The model's turned cells. -/
def fTu (W H : Nat) (c : List UInt8) (i : Nat) : UInt8 := at0 c ((H - 1 - i % H) * W + i / H)
def fMi (W : Nat) (c : List UInt8) (i : Nat) : UInt8 := at0 c (srcM W i)
theorem fTu_at (W H : Nat) (c : List UInt8) (x j : Nat) (hj : j < H) : fTu W H c (nn x H + j) = at0 c ((H - 1 - j) * W + x) := by
  unfold fTu nn
  rw [pair_mod hj, pair_div hj]
theorem fMi_at (W : Nat) (c : List UInt8) (y j : Nat) (hj : j < W) : fMi W c (nn y W + j) = at0 c (y * W + (W - 1 - j)) := by
  unfold fMi srcM nn
  rw [pair_mod hj, pair_div hj]
end Go.Proofs.YtdebiobhmpoiiaaDoor
namespace Go.Proofs.YtdebiobhmpoiiaaDoor
open Go.RowKit
theorem own_apart {w1 w2 : World} {b1 b2 : Nat} {e1 e2 : TypeId} {s1 s2 : Nat} {v1 v2 : Value} {n1 n2 : Nat} {x1 x2 : List Value} (h1 : w1.ownsRow b1 e1 s1 v1 n1 x1) (h2 : w2.ownsRow b2 e2 s2 v2 n2 x2) (hb : w1.heap.size ≤ b2) : v1.ownBlock = none ∨ v1.ownBlock ≠ v2.ownBlock := by
  cases h : v1.ownBlock with
  | none => exact .inl rfl
  | some k =>
    refine .inr fun e => ?_
    have a := (h1.lt k h).2
    have b := (h2.lt k e.symm).1
    omega
set_option maxHeartbeats 2000000 in
set_option maxRecDepth 100000 in
theorem tyBalls_any (W H base : Nat) (c : List UInt8) (G cap : Nat) (w : World) (h36 : c.length ≤ 36) (hown : w.ownsRow base 5 1 (.slice (some ⟨G, 0, none⟩) c.length cap) c.length (cellsV c)) :
    Calls Tryd.prog 73 #[.agg (tg W H (.slice (some ⟨G, 0, none⟩) c.length cap))] w fun e w' => Gr w w' ∧ ∃ v, e = .returned v ∧ w'.ownsRow w.heap.size 3 1 v (ballsTo isBallB c c.length).length (intsV (ballsTo isBallB c c.length)) := by
  have gg := Gr.refl w
  go_enter Tryd.func73, Tryd.ntmps73
  go_wp2_with (refine r_box 55 _ (tg (W) (H) (.slice (some ⟨G, 0, none⟩) c.length cap)) rfl rfl ?_; intro w1 B1 N1; have g1 := N1.gr; have b1 : Blk w1 B1 (tg (W) (H) (.slice (some ⟨G, 0, none⟩) c.length cap)) 55 := N1.blk; have l1 := N1.lo; have t1 := N1.hi; have z1 := g1.size; have gg := gg.trans g1; clear N1; obtain ⟨b1_0, b1_1, b1_2⟩ := tcells b1)
  have own0 : w1.ownsRow w.heap.size 3 1 (.slice none 0 0) (ballsTo isBallB c 0).length (intsV (ballsTo isBallB c 0)) := World.ownsRow_nil _ _ _ _
  go_loopw [3, 4, 5, 9] (fun bv _ _ i wr => ∃ k : Nat, k ≤ c.length ∧ i = .int .i64 k ∧ wr.ownsRow w.heap.size 3 1 bv (ballsTo isBallB c k).length (intsV (ballsTo isBallB c k)) ∧ Gr w wr) (fun _ _ _ i _ => c.length - (intOf i).toNat)
  case atStart => exact ⟨0, Nat.zero_le _, rfl, own0, gg⟩
  case round =>
    obtain ⟨k, hk, rfl, own, gg⟩ := hrel
    by_cases hlt : k < c.length
    · have hc := own_cell (gg.row hown) k hlt rfl
      have hle := ballsTo_le isBallB c k
      by_cases hb : isBallB (at0 c k) = true
      · have HS := hidI (show ballsTo isBallB c k ++ [(k : Int)] = ballsTo isBallB c (k + 1) from by rw [ballsTo, if_pos hb])
        have HB := hidI hb
        clear hb
        go_wp2_with (first | (go_at_call 111; refine (tyBall_any _ _).mono ?_; rintro e wSame ⟨rfl, rfl⟩; rw [HB.out]) | (refine r_slice1 34 3 (.tmp 17) (.int .i64 k) rfl (Tryd.bsi1 _ _) rfl ?_; intro w5 B5 N5; have g5 := N5.gr; have own5 := g5.row own; have gg5 := gg.trans g5; have z5 := g5.size) | (refine r_append (.tmp 16) (.tmp 18) 34 3 _ 1 8 w.heap.size Tryd.intsI _ _ (intsV (ballsTo isBallB c k)) rfl own5 ⟨B5, 0, none⟩ 1 1 [.int .i64 k] rfl rfl N5.cell1 (intsV_one [(k : Int)]) (by omega) (by decide) (by have := gg5.size; omega) rfl ?_; intro v6 w6 own6 g6))
        have gg6 := g6.gr gg5 (own_gr own5 (Nat.le_refl _))
        have own7 : w6.ownsRow w.heap.size 3 1 v6 (ballsTo isBallB c (k + 1)).length (intsV (ballsTo isBallB c (k + 1))) := by
          rw [← HS.out, ← intsV_append, List.length_append]
          exact own6
        go_roundw
        case rel => exact ⟨k + 1, by omega, by go_num, own7, gg6⟩
        case measure => simp [intOf]; omega
      · have HS := hidI (show ballsTo isBallB c k = ballsTo isBallB c (k + 1) from by rw [ballsTo, if_neg hb])
        have HB := hidI (show isBallB (at0 c k) = false from by simpa using hb)
        clear hb
        go_wp2_with (go_at_call 111; refine (tyBall_any _ _).mono ?_; rintro e wSame ⟨rfl, rfl⟩; rw [HB.out])
        go_roundw
        case rel => exact ⟨k + 1, by omega, by go_num, by rw [← HS.out]; exact own, gg⟩
        case measure => simp [intOf]; omega
    · obtain rfl : k = c.length := by omega
      clear hlt
      go_wp2
      go_ret
      exact ⟨gg, _, rfl, own⟩
end Go.Proofs.YtdebiobhmpoiiaaDoor
