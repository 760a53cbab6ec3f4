/-
  The laws' helpers on lists of numbers: compared, marked, and held.
  What the program's functions that look for balls return: the numbers of all balls' cells, and the place of one with a name.
  What the model's functions that turn and mirror trays return.
  What the model's functions that look for balls return, and the law on the numbers of balls.
-/
import Derived.Test.YtamdmhclhjkogaaDoorBSp
import Derived.Test.YtamdmhclhjkogaaDoorBIm
import Derived.Test.YtamdmhclhjkogaaDoorBKit
import Derived.Test.YtamdmhclhjkogaaDoorBTxt
namespace Go.Proofs.YtamdmhclhjkogaaDoor
open Go.RowKit
def intsV (L : List Int) : List Value := L.map fun n => .int .i64 n
def gi (L : List Int) (i : Nat) : Int := L.getD i 0
/-- The marks k, k + 1, .. -/
def marks (k n : Nat) : List Int := (List.range n).map fun i => ((k + i : Nat) : Int)
theorem marks_length (k n : Nat) : (marks k n).length = n := by simp [marks]
theorem marks_at (k n i : Nat) (h : i < n) : gi (marks k n) i = ((k + i : Nat) : Int) := by
  unfold gi marks; simp [List.getD, h]
theorem own_int {w : World} {base : Nat} {e : TypeId} {g n cap : Nat} {L : List Int} (hr : w.ownsRow base e 1 (.slice (some ⟨g, 0, none⟩) n cap) n (intsV L)) (j : Nat) (hj : j < n) (hn : n = L.length) :
    w.cell? ⟨g, j, none⟩ = some (.int .i64 (gi L j)) := by
  rw [hr.cellAt j (by omega)]
  unfold intsV gi
  rw [List.getElem?_map, List.getElem?_eq_getElem (by omega)]
  simp [List.getD, show j < L.length by omega]
theorem int_ext {c d : List Int} (h1 : c.length = d.length) (h : ∀ i, i < c.length → gi c i = gi d i) : c = d := by
  apply List.ext_getElem h1
  intro i hi hj
  have := h i hi
  unfold gi at this
  simpa [List.getD, hi, hj] using this
theorem intsV_one (L : List Int) : ∀ v ∈ intsV L, v.oneCell' = true := by
  intro v hv
  obtain ⟨b, _, rfl⟩ := List.mem_map.1 hv
  rfl
theorem intsV_set (L : List Int) (j : Nat) (n : Int) : (intsV L).set j (.int .i64 n) = intsV (L.set j n) := by
  unfold intsV; rw [List.map_set]
theorem intsV_append (L M : List Int) : intsV L ++ intsV M = intsV (L ++ M) := by unfold intsV; rw [List.map_append]
/-- The first j numbers replaced by marks. -/
def markTo (L : List Int) (k : Nat) : Nat → List Int
  | 0 => L
  | j + 1 => (markTo L k j).set j ((k + j : Nat) : Int)
theorem markTo_length (L : List Int) (k j : Nat) : (markTo L k j).length = L.length := by
  induction j with
  | zero => rfl
  | succ j ih => unfold markTo; simp [ih]
theorem markTo_at (L : List Int) (k j i : Nat) (hj : j ≤ L.length) : gi (markTo L k j) i = if i < j then ((k + i : Nat) : Int) else gi L i := by
  induction j with
  | zero => rfl
  | succ j ih =>
    have ih := ih (by omega)
    show gi ((markTo L k j).set j ((k + j : Nat) : Int)) i = _
    unfold gi at ih ⊢
    by_cases e : j = i
    · subst e
      have := markTo_length L k j
      rw [if_pos (by omega)]
      simp [List.getD, this, show j < L.length by omega]
    · simp only [List.getD] at ih ⊢
      rw [List.getElem?_set_ne e, ih]
      by_cases h : i < j
      · rw [if_pos h, if_pos (by omega)]
      · rw [if_neg h, if_neg (by omega)]
theorem markTo_end (L : List Int) (k : Nat) : markTo L k L.length = marks k L.length := by
  apply int_ext (by rw [markTo_length, marks_length])
  intro i hi
  rw [markTo_length] at hi
  rw [markTo_at L k L.length i (Nat.le_refl _), if_pos hi, marks_at k _ i hi]
theorem Grb.refl (B : Option Nat) (w : World) : Grb B w w := ⟨⟨rfl, rfl, rfl, Nat.le_refl _, fun _ _ _ => rfl⟩⟩
theorem Upd.grb {B : Nat} {w w' : World} (h : Upd B w w') : Grb (some B) w w' :=
  ⟨⟨h.os, h.tape, h.output, by have := h.size; omega, fun k _ hk => h.block k (fun e => hk (by rw [e]))⟩⟩
theorem Grb.trans {B : Option Nat} {a b c : World} (h : Grb B a b) (k : Grb B b c) : Grb B a c :=
  ⟨⟨k.g.os.trans h.g.os, k.g.tape.trans h.g.tape, k.g.output.trans h.g.output, Nat.le_trans h.g.size k.g.size, fun j hj hn => (k.g.block j (Nat.lt_of_lt_of_le hj h.g.size) hn).trans (h.g.block j hj hn)⟩⟩
theorem Gr.grb {a b : World} (h : Gr a b) (B : Option Nat) : Grb B a b := ⟨⟨h.os, h.tape, h.output, h.size, fun j hj _ => h.block j hj⟩⟩
theorem Grb.gr' {B : Option Nat} {a b c : World} (h : Grb B a b) (k : Gr b c) : Grb B a c := h.trans (k.grb B)
theorem Grb.upd {B : Nat} {a b c : World} (h : Grb (some B) a b) (k : Upd B b c) : Grb (some B) a c := h.trans k.grb
theorem Grb.newer {B : Option Nat} {D : Option Nat} {a b c : World} (h : Grb B a b) (k : Grb D b c) (hD : ∀ x, D = some x → a.heap.size ≤ x) : Grb B a c :=
  ⟨⟨k.g.os.trans h.g.os, k.g.tape.trans h.g.tape, k.g.output.trans h.g.output, Nat.le_trans h.g.size k.g.size, fun j hj hn => (k.g.block j (Nat.lt_of_lt_of_le hj h.g.size) (fun e => by have := hD j e.symm; omega)).trans (h.g.block j hj hn)⟩⟩
theorem own_len {w : World} {base : Nat} {e : TypeId} {size : Nat} {p : Option Addr} {m k : Nat} {n : Nat} {xs : List Value} (hr : w.ownsRow base e size (.slice p m k) n xs) : m = n := by
  obtain ⟨_, ⟨h, h0⟩ | ⟨g, cap, cur, h, _⟩⟩ := hr
  · cases h; exact h0.symm
  · cases h; rfl
set_option maxHeartbeats 1000000 in
set_option maxRecDepth 100000 in
theorem eqIntS_any (v1 v2 : Value) (L M : List Int) (b1 b2 : Nat) (w : World) (h1 : w.ownsRow b1 3 1 v1 L.length (intsV L)) (h2 : w.ownsRow b2 3 1 v2 M.length (intsV M)) (hl : L.length ≤ 1048576) :
    Calls Tryd.prog 32 #[v1, v2] w (Ret (.bool (decide (L = M))) w) := by
  have gg := Gr.refl w
  obtain ⟨p1, m1, k1, rfl⟩ := own_slice h1
  obtain ⟨p2, m2, k2, rfl⟩ := own_slice h2
  obtain rfl : m1 = L.length := own_len h1
  obtain rfl : m2 = M.length := own_len h2
  by_cases hne : L.length = M.length
  · have HN := hidI hne
    have e0 : ((L.length : Int) != (M.length : Int)) = false := by rw [hne]; simp
    have H1 := hidI h1
    have H2 := hidI h2
    clear hne h1 h2
    go_enter Tryd.func32, Tryd.ntmps32
    go_wp2
    go_loopw [5] (fun i wr => ∃ k : Nat, k ≤ L.length ∧ i = .int .i64 k ∧ Gr w wr ∧ Hid (∀ j, j < k → gi L j = gi M j)) (fun i _ => L.length - (intOf i).toNat)
    case atStart => exact ⟨0, Nat.zero_le _, rfl, gg, fun j hj => by omega⟩
    case round =>
      obtain ⟨k, hk, rfl, gg, HA⟩ := hrel
      by_cases hlt : k < L.length
      · obtain ⟨g1, c1, e1, -, -⟩ := own_shape H1.out (by omega)
        obtain ⟨g2, c2, e2, -, -⟩ := own_shape H2.out (by rw [← HN.out]; omega)
        cases e1; cases e2
        have c1 := own_int (gg.row H1.out) k hlt rfl
        have hlt2 : k < M.length := by rw [← HN.out]; exact hlt
        have c2 := own_int (gg.row H2.out) k hlt2 rfl
        by_cases hb : gi L k = gi M k
        · have e3 : (gi L k != gi M k) = false := by rw [hb]; simp
          have HB := hidI hb
          clear hb
          go_wp2
          go_quiet (fail)
          go_wp2
          go_roundw
          case rel => exact ⟨k + 1, by omega, by go_num, gg.drewN nq, fun j hj => if h : j < k then HA.out j h else by rw [show j = k by omega]; exact HB.out⟩
          case measure => simp [intOf]; omega
        · have e3 : (gi L k != gi M k) = true := by rw [bne_iff_ne]; exact hb
          have HV := hidI (show decide (L = M) = false from decide_eq_false fun e => hb (by rw [e]))
          clear hb
          go_wp2
          go_quiet (fail)
          go_wp2
          go_ret
          exact ⟨ret_bool HV.out.symm, gg.drewN nq⟩
      · obtain rfl : k = L.length := by omega
        have HV := hidI (show decide (L = M) = true from decide_eq_true (int_ext HN.out HA.out))
        clear hlt
        go_wp2
        go_ret
        exact ⟨ret_bool HV.out.symm, gg⟩
  · have e0 : ((L.length : Int) != (M.length : Int)) = true := by rw [bne_iff_ne]; omega
    have HV := hidI (show decide (L = M) = false from decide_eq_false fun e => hne (by rw [e]))
    clear hne
    go_enter Tryd.func32, Tryd.ntmps32
    go_wp2
    go_ret
    exact ⟨ret_bool HV.out.symm, gg⟩
set_option maxHeartbeats 1000000 in
set_option maxRecDepth 100000 in
theorem markIntS_any (v : Value) (L : List Int) (k : Nat) (base : Nat) (w : World) (h1 : w.ownsRow base 3 1 v L.length (intsV L)) (hl : L.length ≤ 1048576) (hk : k ≤ 1073741824) :
    Calls Tryd.prog 33 #[v, .int .i64 k] w fun e w' => e = .returned (.int .i64 (k + L.length : Nat)) ∧ w'.ownsRow base 3 1 v L.length (intsV (marks k L.length)) ∧ Grb v.ownBlock w w' ∧ w.heap.size = w'.heap.size := by
  obtain ⟨p1, m1, k1, rfl⟩ := own_slice h1
  obtain rfl : m1 = L.length := own_len h1
  by_cases h0 : L.length = 0
  · have HL := hidI h0
    have e0 : (L.length : Int) = 0 := by omega
    have H1 := hidI h1
    clear h0 h1
    go_enter Tryd.func33, Tryd.ntmps33
    go_wp2
    go_loop [1, 5] (fun kv iv => iv = .int .i64 0 ∧ kv = .int .i64 k) (fun _ _ => 0)
    case atStart => exact ⟨rfl, rfl⟩
    case round =>
      obtain ⟨rfl, rfl⟩ := hrel
      go_wp2
      go_ret
      refine ⟨by rw [HL.out]; rfl, ?_, Grb.refl _ _, rfl⟩
      have hLn : L = [] := List.eq_nil_of_length_eq_zero HL.out
      have h := H1.out
      rw [hLn] at h ⊢
      exact h
  · obtain ⟨g1, c1, e1, -, -⟩ := own_shape h1 (by omega)
    cases e1
    have H0 := hidI h0
    clear h0
    go_enter Tryd.func33, Tryd.ntmps33
    go_wp2
    go_loopw [1, 5] (fun kv iv wr => ∃ j : Nat, j ≤ L.length ∧ iv = .int .i64 j ∧ kv = .int .i64 (k + j : Nat) ∧ wr.ownsRow base 3 1 (.slice (some ⟨g1, 0, none⟩) L.length k1) L.length (intsV (markTo L k j)) ∧ Upd g1 w wr) (fun _ iv _ => L.length - (intOf iv).toNat)
    case atStart => exact ⟨0, Nat.zero_le _, rfl, rfl, h1, ⟨rfl, rfl, rfl, rfl, fun _ _ => rfl⟩⟩
    case round =>
      obtain ⟨j, hj, rfl, rfl, own, uu⟩ := hrel
      by_cases hlt : j < L.length
      · have HS := hidI (show (markTo L k j).set j ((k + j : Nat) : Int) = markTo L k (j + 1) from rfl)
        go_wp2_with (refine r_store_own 3 3 _ _ g1 j L.length k1 base (intsV (markTo L k j)) rfl (.int .i64 ((k + j : Nat) : Int)) rfl own hlt Tryd.sizeOf3 rfl rfl ?_; intro w10 u10 own10; rw [intsV_set, HS.out] at own10)
        go_roundw
        case rel => exact ⟨j + 1, by omega, by go_num, by (first | rfl | (congr 1; omega)), own10, uu.trans u10⟩
        case measure => simp [intOf]; omega
      · obtain rfl : j = L.length := by omega
        have HE := hidI (markTo_end L k)
        rw [HE.out] at own
        clear hlt
        go_wp2
        go_ret
        exact ⟨rfl, own, uu.grb, uu.size⟩
set_option maxHeartbeats 1000000 in
set_option maxRecDepth 100000 in
theorem heldIntS_any (v : Value) (n k : Nat) (base : Nat) (w : World) (h1 : w.ownsRow base 3 1 v n (intsV (marks k n))) (hl : n ≤ 1048576) (hk : k ≤ 1073741824) :
    Calls Tryd.prog 34 #[v, .int .i64 k] w (Ret (.int .i64 (k + n : Nat)) w) := by
  have gg := Gr.refl w
  obtain ⟨p1, m1, k1, rfl⟩ := own_slice h1
  obtain rfl : n = m1 := (own_len h1).symm
  have H1 := hidI h1
  clear h1
  go_enter Tryd.func34, Tryd.ntmps34
  go_wp2
  go_loopw [1, 5] (fun kv iv wr => ∃ j : Nat, j ≤ n ∧ iv = .int .i64 j ∧ kv = .int .i64 (k + j : Nat) ∧ Gr w wr) (fun _ iv _ => n - (intOf iv).toNat)
  case atStart => exact ⟨0, Nat.zero_le _, rfl, rfl, gg⟩
  case round =>
    obtain ⟨j, hj, rfl, rfl, gg⟩ := hrel
    by_cases hlt : j < n
    · obtain ⟨g1, c1, e1, -, -⟩ := own_shape H1.out (by omega)
      cases e1
      have c1 := own_int (gg.row H1.out) j hlt (marks_length _ _).symm
      rw [marks_at k n j hlt] at c1
      obtain ⟨m, hm⟩ : ∃ m, m = k + j := ⟨_, rfl⟩
      rw [← hm] at c1 ⊢
      have hm1 : m ≤ 1074790400 := by omega
      have HM := hidI hm
      clear hm
      go_wp2
      go_roundw
      case rel => exact ⟨j + 1, by omega, by go_num, by (rw [HM.out]; first | rfl | (congr 1; omega)), gg⟩
      case measure => simp [intOf]; omega
    · obtain rfl : n = j := by omega
      clear hlt
      go_wp2
      go_ret
      exact ⟨rfl, gg⟩
end Go.Proofs.YtamdmhclhjkogaaDoor
namespace Go.Proofs.YtamdmhclhjkogaaDoor
open Go.RowKit
/-- The numbers of those of the first k cells for which p holds. -/
def ballsTo (p : UInt8 → Bool) (c : List UInt8) : Nat → List Int
  | 0 => []
  | k + 1 => if p (at0 c k) then ballsTo p c k ++ [(k : Int)] else ballsTo p c k
theorem ballsTo_le (p : UInt8 → Bool) (c : List UInt8) (k : Nat) : (ballsTo p c k).length ≤ k := by
  induction k with
  | zero => exact Nat.le_refl _
  | succ k ih =>
    unfold ballsTo
    split
    · rw [List.length_append]; exact Nat.succ_le_succ ih
    · omega
theorem ballsTo_congr {p q : UInt8 → Bool} {c : List UInt8} (k : Nat) (h : ∀ i, i < k → p (at0 c i) = q (at0 c i)) : ballsTo p c k = ballsTo q c k := by
  induction k with
  | zero => rfl
  | succ k ih => unfold ballsTo; rw [h k (by omega), ih (fun i hi => h i (by omega))]
def blL (l : List UInt8) : List Int := ballsTo isBallB (rdG l).c (nn (rdG l).w (rdG l).h)
theorem bl_impl (l : List UInt8) : ballsTo ballB (rdG l).c (nn (rdG l).w (rdG l).h) = blL l := by
  unfold blL
  rcases rd_cases l with ⟨_, hg, _⟩ | ⟨g, hp, hg, _⟩
  · rw [hg]; rfl
  · rw [hg]
    have ht := parse_tray hp
    exact ballsTo_congr _ fun i hi => ball_cell (ht.cells i (by rw [ht.len]; exact hi))
/-- It returns a list of numbers in new memory, and whether it has succeeded. -/
def RetInts (T : TypeId) (L : List Int) (ok : Bool) (w : World) (e : Ending) (w' : World) : Prop :=
  Gr w w' ∧ ∃ v, e = .returned (.tuple #[v, .bool ok]) ∧ w'.ownsRow w.heap.size T 1 v L.length (intsV L)
theorem fin_vb {v : Value} {x y : Bool} (h2 : x = y) : Ending.returned (.tuple #[v, .bool x]) = .returned (.tuple #[v, .bool y]) := by rw [h2]
theorem Tryd.bsi1 (u : Int) (w : World) : (Instr.buildSlice 41 1 #[(0, .int .i64 u)]).run Tryd.prog w = .ok (.slice (some ⟨w.heap.size, 0, none⟩) 1 1) (w.alloc (.cells #[.int .i64 u] 3)) := by kernel_rfl
theorem Tryd.intsI : ElemInfo Tryd.prog 41 3 (.int .i64 0) 1 8 := ⟨Tryd.underlying41, by kernel_rfl, rfl, by decide⟩
end Go.Proofs.YtamdmhclhjkogaaDoor
namespace Go.Proofs.YtamdmhclhjkogaaDoor
open Go.RowKit
theorem genC_succ (n : Nat) (f : Nat → UInt8) : genC (n + 1) f = genC n f ++ [f n] := by
  unfold genC
  rw [List.range_succ, List.map_append]
  rfl
theorem cellsV_append (c d : List UInt8) : cellsV c ++ cellsV d = cellsV (c ++ d) := by
  unfold cellsV; rw [List.map_append]
/-- The model's turned cells. -/
def fTu (W H : Nat) (c : List UInt8) (i : Nat) : UInt8 := at0 c ((H - 1 - i % H) * W + i / H)
def fMi (W : Nat) (c : List UInt8) (i : Nat) : UInt8 := at0 c (srcM W i)
theorem fTu_at (W H : Nat) (c : List UInt8) (x j : Nat) (hj : j < H) : fTu W H c (nn x H + j) = at0 c ((H - 1 - j) * W + x) := by
  unfold fTu nn
  rw [pair_mod hj, pair_div hj]
theorem fMi_at (W : Nat) (c : List UInt8) (y j : Nat) (hj : j < W) : fMi W c (nn y W + j) = at0 c (y * W + (W - 1 - j)) := by
  unfold fMi srcM nn
  rw [pair_mod hj, pair_div hj]
theorem Tryd.tbuild2 (x y : Int) (w : World) : (Instr.build 58 #[(0, .int .i64 x), (1, .int .i64 y)]).run Tryd.prog w = .ok (.agg (tg x y (.slice none 0 0))) w := by kernel_rfl
set_option maxHeartbeats 4000000 in
set_option maxRecDepth 100000 in
theorem tyTurn_any (W H base : Nat) (c : List UInt8) (G cap : Nat) (w : World) (hW1 : 1 ≤ W) (hH1 : 1 ≤ H) (hW : W ≤ 7) (hH : H ≤ 7) (h36 : nn W H ≤ 36) (hlen : c.length = nn W H) (hown : w.ownsRow base 5 1 (.slice (some ⟨G, 0, none⟩) c.length cap) c.length (cellsV c)) :
    Calls Tryd.prog 43 #[.agg (tg W H (.slice (some ⟨G, 0, none⟩) c.length cap))] w (RetG 5 H W (genC (nn W H) (fTu W H c)) w) := by
  have gg := Gr.refl w
  have hGlt := (hown.lt G rfl).2
  have HLEN := hidI hlen
  have hc36 : c.length ≤ 36 := by omega
  clear hlen
  go_enter Tryd.func43, Tryd.ntmps43
  go_wp2_with (first | (refine r_box 58 _ (tg (W) (H) (.slice (some ⟨G, 0, none⟩) c.length cap)) rfl rfl ?_; intro w1 B1 N1; have g1 := N1.gr; have b1 : Blk w1 B1 (tg (W) (H) (.slice (some ⟨G, 0, none⟩) c.length cap)) 58 := N1.blk; have l1 := N1.lo; have t1 := N1.hi; have z1 := g1.size; have gg := gg.trans g1; clear N1; obtain ⟨b1_0, b1_1, b1_2⟩ := tcells b1) | (refine r_alloc (dst := some 2) 58 _ Tryd.tzero rfl ?_; intro w2 B2 N2; have g2 := N2.gr; have b2 : Blk w2 B2 (tg 0 0 (.slice none 0 0)) 58 := N2.blk; have l2 := N2.lo; have t2 := N2.hi; have z2 := g2.size; have b1 := g2.blk b1; obtain ⟨b1_0, b1_1, b1_2⟩ := tcells b1; have gg := gg.trans g2; clear N2; obtain ⟨b2_0, b2_1, b2_2⟩ := tcells b2) | (refine r_build 58 [(0, .tmp 7), (1, .tmp 9)] [(0, .int .i64 H), (1, .int .i64 W)] _ (Tryd.tbuild2 _ _ _) rfl rfl ?_) | (refine r_alloc (dst := some 3) 58 _ Tryd.tzero rfl ?_; intro w3 B3 N3; have g3 := N3.gr; have b3 : Blk w3 B3 (tg 0 0 (.slice none 0 0)) 58 := N3.blk; have l3 := N3.lo; have t3 := N3.hi; have z3 := g3.size; have b1 := g3.blk b1; obtain ⟨b1_0, b1_1, b1_2⟩ := tcells b1; have b2 := g3.blk b2; have gg := gg.trans g3; clear N3; obtain ⟨b3_0, b3_1, b3_2⟩ := tcells b3) | (refine r_store_row 58 58 _ _ _ rfl (tg _ _ _) _ rfl b3 Tryd.tsize rfl (tg_one rfl) rfl ?_; intro w4 u4 b3'; have z4 := u4.size; have gg := u4.gr gg (by omega); have b1 := u4.blk b1 (by omega); obtain ⟨b1_0, b1_1, b1_2⟩ := tcells b1; have b2 := u4.blk b2 (by omega); clear b3; have b3 := b3'; clear b3'; obtain ⟨b3_0, b3_1, b3_2⟩ := tcells b3))
  have hW7 : (W : Int) ≤ 7 := by omega
  have hH7 : (H : Int) ≤ 7 := by omega
  have own0 : w4.ownsRow w.heap.size 5 1 (.slice none 0 0) 0 (cellsV (genC 0 (fTu W H c))) := World.ownsRow_nil _ _ _ _
  go_loopw [4, 5] (fun xv _ wr => ∃ (x : Nat) (sl : Value), xv = .int .i64 x ∧ x ≤ W ∧ Blk wr B1 (tg W H (.slice (some ⟨G, 0, none⟩) c.length cap)) 58 ∧ Blk wr B2 (tg 0 0 (.slice none 0 0)) 58 ∧ Blk wr B3 (tg H W sl) 58 ∧
      wr.ownsRow w.heap.size 5 1 sl (nn x H) (cellsV (genC (nn x H) (fTu W H c))) ∧ Gr w wr) (fun xv _ _ => W - (intOf xv).toNat)
  case atStart => exact ⟨0, _, rfl, Nat.zero_le _, b1, b2, b3, by rw [show nn 0 H = 0 from Nat.zero_mul _]; exact own0, gg⟩
  case round =>
    obtain ⟨x, sl, rfl, hx, b1, b2, b3, own, gg⟩ := hrel
    have hB12 : B1 < B2 := by omega
    have hB23 : B2 < B3 := by omega
    have lo1 : w.heap.size ≤ B1 := by omega
    obtain ⟨b1_0, b1_1, b1_2⟩ := tcells b1
    by_cases hlt : x < W
    · go_wp2
      go_loopw [5] (fun yv wi => ∃ (j : Nat) (sl : Value), j ≤ H ∧ yv = .int .i64 ((H : Int) - 1 - j) ∧ Blk wi B1 (tg W H (.slice (some ⟨G, 0, none⟩) c.length cap)) 58 ∧ Blk wi B2 (tg 0 0 (.slice none 0 0)) 58 ∧ Blk wi B3 (tg H W sl) 58 ∧
          wi.ownsRow w.heap.size 5 1 sl (nn x H + j) (cellsV (genC (nn x H + j) (fTu W H c))) ∧ Gr w wi) (fun yv _ => (intOf yv + 1).toNat)
      case atStart => exact ⟨0, sl, Nat.zero_le _, by congr 1; omega, b1, b2, b3, own, gg⟩
      case round =>
        obtain ⟨j, sl, hj, rfl, b1, b2, b3, own, gg⟩ := hrel
        by_cases hjl : j < H
        · obtain ⟨y, hy⟩ : ∃ y, y = H - 1 - j := ⟨_, rfl⟩
          have hyz : (H : Int) - 1 - (j : Int) = (y : Int) := by omega
          have hyN : y < H := by omega
          rw [hyz]
          have hidx : y * W + x < nn W H := pair_lt hlt hyN
          have hf : fTu W H c (nn x H + j) = at0 c (y * W + x) := by rw [fTu_at W H c x j hjl, ← hy]
          obtain ⟨f0, hf0⟩ : ∃ f0, f0 = y * W := ⟨_, rfl⟩
          rw [← hf0] at hidx hf
          have e1 : (y : Int) * (W : Int) = (f0 : Int) := by rw [hf0]; simp
          have hnx := nn_row (W := H) hlt
          rw [nn_comm H x, nn_comm H W] at hnx
          have hnA : nn W H ≤ 36 := by exact h36
          have hle : f0 + x < c.length := by rw [HLEN.out]; exact hidx
          have src := own_cell (gg.row hown) (f0 + x) hle rfl
          have HYZ := hidI hyz
          have HF := hidI hf
          clear hyz hy hf0 hidx hf
          go_wp2
          have gd := (Gr.refl wr).drew
          have b1 := gd.blk b1
          have b2 := gd.blk b2
          have b3 := gd.blk b3
          have own := gd.row own
          have src := gd.cell src
          have gg := gg.trans gd
          generalize hwd : wr.drew = wd at *
          obtain ⟨b1_0, b1_1, b1_2⟩ := tcells b1
          obtain ⟨b3_0, b3_1, b3_2⟩ := tcells b3
          have hFF := And.intro b3_2 (And.intro b1_2 (And.intro b1_0 src))
          have tB3 := b3.lt
          refine K_begin (fun w => w.cell? ⟨B3, 2, none⟩ = some sl ∧ w.cell? ⟨B1, 2, none⟩ = some (.slice (some ⟨G, 0, none⟩) c.length cap) ∧ w.cell? ⟨B1, 0, none⟩ = some (.int .i64 W) ∧ w.cell? ⟨G, f0 + x, none⟩ = some (.int .u8 (at0 c (f0 + x)).toNat)) 15 16 #[false, false, false, false, false, false, false, false, false, false, false, false, false, false, false, false] rfl (by kernel_rfl) (by kernel_rfl) ?_
          rw [hwd]
          skip
          refine K_take 0 #[true, false, false, false, false, false, false, false, false, false, false, false, false, false, false, false] rfl (by kernel_rfl) (fun _ _ _ h => h) rfl (fun w hF => e_val _ _ (Tryd.tf2 B3 _)) (hFF) ?_; simp only [Act.put, List.setIfInBounds_toArray, List.set_cons_succ, List.set_cons_zero]
          refine K_take 1 #[true, true, false, false, false, false, false, false, false, false, false, false, false, false, false, false] rfl (by kernel_rfl) (fun _ _ _ h => h) rfl (fun w hF => e_load 56 (.tmp 24) ⟨B3, 2, none⟩ sl rfl (Tryd.isAgg56 _) hF.1) (hFF) ?_; simp only [Act.put, List.setIfInBounds_toArray, List.set_cons_succ, List.set_cons_zero]
          refine K_take 2 #[true, true, true, false, false, false, false, false, false, false, false, false, false, false, false, false] rfl (by kernel_rfl) (fun _ _ _ h => h) rfl (fun w hF => e_val _ _ (Tryd.tf2 B1 _)) (hFF) ?_; simp only [Act.put, List.setIfInBounds_toArray, List.set_cons_succ, List.set_cons_zero]
          refine K_take 3 #[true, true, true, true, false, false, false, false, false, false, false, false, false, false, false, false] rfl (by kernel_rfl) (fun _ _ _ h => h) rfl (fun w hF => e_load 56 (.tmp 26) ⟨B1, 2, none⟩ (.slice (some ⟨G, 0, none⟩) c.length cap) rfl (Tryd.isAgg56 _) hF.2.1) (hFF) ?_; simp only [Act.put, List.setIfInBounds_toArray, List.set_cons_succ, List.set_cons_zero]
          refine K_take (v := .int .i64 y) 4 #[true, true, true, true, true, false, false, false, false, false, false, false, false, false, false, false] rfl (by kernel_rfl) (fun _ _ _ h => h) rfl (fun _ _ => rfl) (hFF) ?_; simp only [Act.put, List.setIfInBounds_toArray, List.set_cons_succ, List.set_cons_zero]
          refine K_take 5 #[true, true, true, true, true, true, false, false, false, false, false, false, false, false, false, false] rfl (by kernel_rfl) (fun _ _ _ h => h) rfl (fun w hF => e_val _ _ (Tryd.tf0 B1 _)) (hFF) ?_; simp only [Act.put, List.setIfInBounds_toArray, List.set_cons_succ, List.set_cons_zero]
          refine K_take 6 #[true, true, true, true, true, true, true, false, false, false, false, false, false, false, false, false] rfl (by kernel_rfl) (fun _ _ _ h => h) rfl (fun w hF => e_load 3 (.tmp 29) ⟨B1, 0, none⟩ (.int .i64 W) rfl (Tryd.isAgg3 _) hF.2.2.1) (hFF) ?_; simp only [Act.put, List.setIfInBounds_toArray, List.set_cons_succ, List.set_cons_zero]
          refine K_take 7 #[true, true, true, true, true, true, true, true, false, false, false, false, false, false, false, false] rfl (by kernel_rfl) (fun _ _ _ h => h) rfl (fun w hF => e_mul (.tmp 28) (.tmp 30) y W f0 rfl rfl e1 (by omega)) (hFF) ?_; simp only [Act.put, List.setIfInBounds_toArray, List.set_cons_succ, List.set_cons_zero]
          refine K_take (v := .int .i64 x) 8 #[true, true, true, true, true, true, true, true, true, false, false, false, false, false, false, false] rfl (by kernel_rfl) (fun _ _ _ h => h) rfl (fun _ _ => rfl) (hFF) ?_; simp only [Act.put, List.setIfInBounds_toArray, List.set_cons_succ, List.set_cons_zero]
          refine K_take 9 #[true, true, true, true, true, true, true, true, true, true, false, false, false, false, false, false] rfl (by kernel_rfl) (fun _ _ _ h => h) rfl (fun w hF => e_add (.tmp 31) (.tmp 32) f0 x ((f0 + x : Nat) : Int) rfl rfl (by omega) (by omega)) (hFF) ?_; simp only [Act.put, List.setIfInBounds_toArray, List.set_cons_succ, List.set_cons_zero]
          refine K_take 10 #[true, true, true, true, true, true, true, true, true, true, true, false, false, false, false, false] rfl (by kernel_rfl) (fun _ _ _ h => h) rfl (fun w hF => e_val _ _ (Tryd.six0 G c.length cap (f0 + x) hle _)) (hFF) ?_; simp only [Act.put, List.setIfInBounds_toArray, List.set_cons_succ, List.set_cons_zero]
          refine K_take 11 #[true, true, true, true, true, true, true, true, true, true, true, true, false, false, false, false] rfl (by kernel_rfl) (fun _ _ _ h => h) rfl (fun w hF => e_load 5 (.tmp 34) ⟨G, f0 + x, none⟩ (.int .u8 (at0 c (f0 + x)).toNat) rfl (Tryd.isAgg5 _) hF.2.2.2) (hFF) ?_; simp only [Act.put, List.setIfInBounds_toArray, List.set_cons_succ, List.set_cons_zero]
          refine K_one 12 #[true, true, true, true, true, true, true, true, true, true, true, true, true, false, false, false] rfl (by kernel_rfl) ?_
          refine r_slice1 56 5 (.tmp 35) (byteV (at0 c (f0 + x))) rfl (Tryd.bs1 _ _) rfl ?_
          intro w5 B5 N5
          simp only [Act.put, List.setIfInBounds_toArray, List.set_cons_succ, List.set_cons_zero]
          have g5 := N5.gr
          refine ⟨fun _ => ⟨g5.cell b3_2, g5.cell b1_2, g5.cell b1_0, g5.cell src⟩, ?_⟩
          have own5 := g5.row own
          have b15 := g5.blk b1
          have b25 := g5.blk b2
          have b35 := g5.blk b3
          have src5 := g5.cell src
          refine K_one 13 #[true, true, true, true, true, true, true, true, true, true, true, true, true, true, false, false] rfl (by kernel_rfl) ?_
          refine r_append (.tmp 25) (.tmp 36) 56 5 _ 1 1 w.heap.size Tryd.bytesI sl (nn x H + j) (cellsV (genC (nn x H + j) (fTu W H c))) rfl own5 ⟨B5, 0, none⟩ 1 1 [byteV (at0 c (f0 + x))] rfl rfl N5.cell1 (by intro u hu; simp at hu; subst hu; rfl) (by omega) (by decide) (by have := gg.size; have := g5.size; omega) rfl ?_
          intro sl' w6 own6 g6
          simp only [Act.put, List.setIfInBounds_toArray, List.set_cons_succ, List.set_cons_zero]
          have hne3 := own_ne own5 b35 (by decide)
          have hne2 := own_ne own5 b25 (by decide)
          have hne1 := own_ne own5 b15 (by decide)
          have b16 := g6.blk b15 hne1
          have b26 := g6.blk b25 hne2
          have b36 := g6.blk b35 hne3
          have gg6 := g6.gr (gg.trans g5) (own_gr own5 (Nat.le_refl _))
          have src6 : w6.cell? ⟨G, f0 + x, none⟩ = _ := own_cell (gg6.row hown) (f0 + x) hle rfl
          obtain ⟨c16_0, -, c16_2⟩ := tcells b16
          refine ⟨fun _ => ⟨(tcells b36).2.2, c16_2, c16_0, src6⟩, ?_⟩
          refine K_one 14 #[true, true, true, true, true, true, true, true, true, true, true, true, true, true, true, false] rfl (by kernel_rfl) ?_
          refine r_val (.pointer (some ⟨B3, 2, none⟩)) (e_val _ _ (Tryd.tf2 B3 _)) rfl ?_
          simp only [Act.put, List.setIfInBounds_toArray, List.set_cons_succ, List.set_cons_zero]
          refine ⟨fun _ => ⟨(tcells b36).2.2, c16_2, c16_0, src6⟩, ?_⟩
          refine K_one 15 #[true, true, true, true, true, true, true, true, true, true, true, true, true, true, true, true] rfl (by kernel_rfl) ?_
          refine r_store_cell 56 58 _ _ B3 2 rfl sl' rfl _ b36 (by show 2 < 3; decide) Tryd.sizeOf56 (own_one own6) rfl ?_
          intro w7 u7 b7'
          have b7 : Blk w7 B3 (tg H W sl') 58 := b7'
          simp only [Act.put]
          refine ⟨fun h => absurd rfl h, ?_⟩
          have tB36 := b36.lt
          have own7 := u7.row own6 (own_ne own6 b36 (by decide))
          refine K_done' (by kernel_rfl) ?_
          go_wp2
          go_roundw
          case rel => exact ⟨j + 1, sl', by omega, by (rw [← HYZ.out]; congr 1; omega), u7.blk b16 (by omega), u7.blk b26 (by omega), b7, by rw [← Nat.add_assoc, genC_succ, ← cellsV_append, HF.out]; exact own7, u7.gr gg6 (by omega)⟩
          case measure => simp [intOf]
        · obtain rfl : H = j := by omega
          have hneg : ¬ (0 : Int) ≤ (H : Int) - 1 - H := by omega
          have hnx : nn x H + H = nn (x + 1) H := by unfold nn; rw [Nat.succ_mul]
          rw [hnx] at own
          clear hjl hnx
          go_wp2
          go_roundw
          case rel => exact ⟨x + 1, sl, by go_num, by omega, b1, b2, b3, own, gg⟩
          case measure => simp [intOf]; omega
    · obtain rfl : W = x := by omega
      have lo2 : w.heap.size ≤ B2 := by omega
      have hne2 := own_ne own b2 (by decide)
      have hone := own_one own
      have hl : (genC (nn W H) (fTu W H c)).length = nn W H := genC_length _ _
      clear hlt
      go_wp2_with (first | (refine r_load_row 58 _ _ rfl _ _ _ b3 Tryd.underlying58 rfl Tryd.tinfo rfl ?_) | (refine r_store_row 58 58 _ _ B2 rfl (tg H W sl) _ rfl b2 Tryd.tsize rfl (tg_one hone) rfl ?_; intro w7 u7 b7))
      refine bodyPost_ret (results_row rfl _ _ _ _ _ _ rfl b7 Tryd.underlying58 rfl Tryd.tinfo) rfl ?_
      refine ⟨u7.gr gg lo2, sl, rfl, ?_⟩
      rw [hl]
      exact u7.row own hne2
end Go.Proofs.YtamdmhclhjkogaaDoor
namespace Go.Proofs.YtamdmhclhjkogaaDoor
open Go.RowKit
theorem own_apart {w1 w2 : World} {b1 b2 : Nat} {e1 e2 : TypeId} {s1 s2 : Nat} {v1 v2 : Value} {n1 n2 : Nat} {x1 x2 : List Value} (h1 : w1.ownsRow b1 e1 s1 v1 n1 x1) (h2 : w2.ownsRow b2 e2 s2 v2 n2 x2) (hb : w1.heap.size ≤ b2) : v1.ownBlock = none ∨ v1.ownBlock ≠ v2.ownBlock := by
  cases h : v1.ownBlock with
  | none => exact .inl rfl
  | some k =>
    refine .inr fun e => ?_
    have a := (h1.lt k h).2
    have b := (h2.lt k e.symm).1
    omega
end Go.Proofs.YtamdmhclhjkogaaDoor
