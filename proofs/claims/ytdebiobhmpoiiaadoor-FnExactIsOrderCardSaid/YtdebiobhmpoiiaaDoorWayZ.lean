/-
  The parts of a tray: in the program and in the model, and the law.
-/
import Derived.Test.YtdebiobhmpoiiaaDoorWayT
import Derived.Test.YtdebiobhmpoiiaaDoorBLa
import Derived.Test.YtdebiobhmpoiiaaDoorBMv
import Derived.WalkMore
namespace Go.Proofs.YtdebiobhmpoiiaaDoor
open Go.RowKit
/-- The first n places whose number is not below nought. -/
def posTo (R : List Int) : Nat → List Int
  | 0 => []
  | k + 1 => if 0 ≤ gi R k then posTo R k ++ [(k : Int)] else posTo R k
theorem posTo_le (R : List Int) (k : Nat) : (posTo R k).length ≤ k := by
  induction k with
  | zero => exact Nat.le_refl _
  | succ k ih =>
    unfold posTo
    split
    · rw [List.length_append]; exact Nat.succ_le_succ ih
    · omega
theorem mem_posTo (R : List Int) (n i : Nat) : (i : Int) ∈ posTo R n ↔ i < n ∧ 0 ≤ gi R i := by
  induction n with
  | zero => exact ⟨fun h => (by cases h), fun h => absurd h.1 (Nat.not_lt_zero _)⟩
  | succ n ih =>
    unfold posTo
    split
    · rename_i h0
      rw [List.mem_append, ih, List.mem_singleton]
      constructor
      · rintro (h | h)
        · exact ⟨by omega, h.2⟩
        · obtain rfl : i = n := by omega
          exact ⟨by omega, h0⟩
      · rintro ⟨h1, h2⟩
        rcases Nat.lt_or_ge i n with h | h
        · exact .inl ⟨h, h2⟩
        · exact .inr (by omega)
    · rename_i h0
      rw [ih]
      constructor
      · exact fun h => ⟨by omega, h.2⟩
      · rintro ⟨h1, h2⟩
        rcases Nat.lt_or_ge i n with h | h
        · exact ⟨h, h2⟩
        · obtain rfl : i = n := by omega
          exact absurd h2 h0
/-- A number is in one of the lists. -/
def seenI (L : List (List Int)) (j : Nat) : Bool := L.any fun l => l.contains (j : Int)
theorem seenI_snoc (L : List (List Int)) (l : List Int) (j : Nat) : seenI (L ++ [l]) j = (seenI L j || l.contains (j : Int)) := by
  unfold seenI
  rw [List.any_append]
  simp
/-- The parts that begin with one of the first k cells. -/
def partsTo (W H : Nat) (c : List UInt8) : Nat → List (List Int)
  | 0 => []
  | k + 1 => if at0 c k = 35 ∨ seenI (partsTo W H c k) k = true then partsTo W H c k else partsTo W H c k ++ [posTo (farL W H c k) (nn W H)]
theorem partsTo_skip {W H : Nat} {c : List UInt8} {k : Nat} (h : at0 c k = 35 ∨ seenI (partsTo W H c k) k = true) : partsTo W H c (k + 1) = partsTo W H c k := by rw [partsTo, if_pos h]
theorem partsTo_add {W H : Nat} {c : List UInt8} {k : Nat} (h1 : ¬ at0 c k = 35) (h2 : seenI (partsTo W H c k) k = false) : partsTo W H c (k + 1) = partsTo W H c k ++ [posTo (farL W H c k) (nn W H)] := by
  rw [partsTo, if_neg (by rw [h2]; simp [h1])]
theorem partsTo_le (W H : Nat) (c : List UInt8) (k : Nat) : (partsTo W H c k).length ≤ k ∧ total (partsTo W H c k) ≤ nn W H * k := by
  induction k with
  | zero => exact ⟨Nat.le_refl _, Nat.zero_le _⟩
  | succ k ih =>
    rw [Nat.mul_succ]
    unfold partsTo
    split
    · omega
    · have h1 := posTo_le (farL W H c k) (nn W H)
      have e : total (partsTo W H c k ++ [posTo (farL W H c k) (nn W H)]) = total (partsTo W H c k) + (posTo (farL W H c k) (nn W H)).length := by
        unfold total
        rw [List.map_append, List.sum_append]
        simp
      rw [e, List.length_append, List.length_singleton]
      omega
def paL (l : List UInt8) : List (List Int) := partsTo (rdG l).w (rdG l).h (rdG l).c (nn (rdG l).w (rdG l).h)
theorem paL_le (l : List UInt8) : (paL l).length ≤ 36 ∧ total (paL l) ≤ 1296 := by
  unfold paL
  obtain ⟨h1, h2⟩ := partsTo_le (rdG l).w (rdG l).h (rdG l).c (nn (rdG l).w (rdG l).h)
  have h36 : nn (rdG l).w (rdG l).h ≤ 36 := by
    rcases rd_cases l with ⟨_, hg, _⟩ | ⟨g, hp, hg, _⟩
    · rw [hg]; decide
    · rw [hg]; exact (parse_tray hp).n36
  have h3 : nn (rdG l).w (rdG l).h * nn (rdG l).w (rdG l).h ≤ 36 * 36 := Nat.mul_le_mul h36 h36
  omega
/-- Rows of earlier memory are no block of a later row. -/
theorem rows_before {T e : TypeId} {base b s n k j : Nat} {L : List (List Int)} {vs : List Value} {w w' : World} {v : Value} {xs : List Value} (h : RowsK T base L k j vs w) (hn : vs.length = L.length) (ho : w'.ownsRow b e s v n xs) (hb : w.heap.size ≤ b) : ∀ u ∈ vs, u.ownBlock = none ∨ u.ownBlock ≠ v.ownBlock := by
  intro u hu
  obtain ⟨i, hi, rfl⟩ := List.getElem_of_mem hu
  obtain ⟨x, hx, hox⟩ := h.at' i _ (List.getElem?_eq_getElem (show i < L.length by omega))
  rw [List.getElem?_eq_getElem hi] at hx
  cases hx
  exact own_apart' hox ho hb
set_option maxHeartbeats 2000000 in
set_option maxRecDepth 100000 in
theorem partWith_any (W H s : Nat) (c : List UInt8) (w : World) (hw1 : 1 ≤ W) (hw7 : W ≤ 7) (hh7 : H ≤ 7) (hs : s < nn W H) (h36 : nn W H ≤ 36) :
    Calls Tryd.prog 138 #[.agg (gv W H c), .int .i64 s] w (RetRow 3 (posTo (farL W H c s) (nn W H)) w) := by
  have gg := Gr.refl w
  obtain ⟨N, hN⟩ : ∃ N, N = nn W H := ⟨_, rfl⟩
  have hN1 : 1 ≤ N := by omega
  have hN36 : N ≤ 36 := by omega
  obtain ⟨R, hR⟩ : ∃ R, R = farL W H c s := ⟨_, rfl⟩
  have hRL : R.length = N := by rw [hR, hN]; exact (farL_ok hs).1
  have HST := hidI (fun (w : World) => show Calls Tryd.prog 163 #[.agg (gv W H c), .int .i64 s] w fun e w' => Gr w w' ∧ ∃ G cap, e = .returned (.slice (some ⟨G, 0, none⟩) N cap) ∧ w'.ownsRow w.heap.size 3 1 (.slice (some ⟨G, 0, none⟩) N cap) N (intsV R) from
    (hR ▸ stepsFrom_any W H s c w hw1 hw7 hh7 hs h36 : Calls Tryd.prog 163 #[.agg (gv W H c), .int .i64 s] w (RetRow 3 R w)).mono fun e w' ⟨g, v, he, ho⟩ => by
      rw [hRL] at ho
      obtain ⟨G, cap, rfl, -, -⟩ := own_shape ho hN1
      exact ⟨g, G, cap, he, ho⟩)
  have HRL := hidI hRL
  rw [← hR, ← hN]
  clear hR hN hRL
  go_enter Tryd.func138, Tryd.ntmps138
  go_wp2_with (first | (refine r_box 72 _ (gv W H c) rfl rfl ?_; intro w1 B1 N1; have g1 := N1.gr; have b1 : Blk w1 B1 (gv W H c) 72 := N1.blk; have l1 := N1.lo; have t1 := N1.hi; have z1 := g1.size; have gg := gg.trans g1; clear N1; obtain ⟨b1_0, b1_1, b1_2⟩ := gcells b1) | (refine r_load_row 72 _ _ rfl _ _ _ b1 Tryd.underlying72 rfl (Tryd.ginfo' _ _ _) rfl ?_) | (go_at_call 163; refine (HST.out _).mono ?_; rintro e w2 ⟨g2, G, cap, rfl, own2⟩; have gg := gg.trans g2; have z2 := g2.size))
  have HO2 := hidI own2
  have own0 : w2.ownsRow w2.heap.size 3 1 (.slice none 0 0) (posTo R 0).length (intsV (posTo R 0)) := World.ownsRow_nil _ _ _ _
  go_loopw [5, 12] (fun pv iv wr => ∃ k : Nat, k ≤ N ∧ iv = .int .i64 k ∧ wr.ownsRow w2.heap.size 3 1 pv (posTo R k).length (intsV (posTo R k)) ∧ wr.ownsRow w1.heap.size 3 1 (.slice (some ⟨G, 0, none⟩) N cap) N (intsV R) ∧ Gr w wr ∧ w2.heap.size ≤ wr.heap.size) (fun _ iv _ => N - (intOf iv).toNat)
  case atStart => exact ⟨0, Nat.zero_le _, rfl, own0, own2, gg, Nat.le_refl _⟩
  case round =>
    clear own0 own2 gg
    obtain ⟨k, hk, rfl, own, own2, gg, zr⟩ := hrel
    have hle := posTo_le R k
    by_cases hlt : k < N
    · obtain ⟨x, hx⟩ : ∃ x, x = gi R k := ⟨_, rfl⟩
      have cx := own_int own2 k hlt HRL.out.symm
      rw [← hx] at cx
      by_cases h0 : 0 ≤ x
      · have HS := hidI (show posTo R k ++ [(k : Int)] = posTo R (k + 1) from by rw [posTo, if_pos (by rw [← hx]; exact h0)])
        clear hx
        go_wp2_with (first | (refine r_idx 34 _ _ (.slice (some ⟨G, 0, none⟩) N cap) (.int .i64 k) _ rfl rfl (Tryd.wix0 G N cap k hlt _) rfl ?_) | (refine r_ldc 3 _ ⟨G, k, none⟩ (.int .i64 x) rfl (Tryd.isAgg3 _) cx rfl ?_) | (refine r_slice1 34 3 (.tmp 20) (.int .i64 k) rfl (Tryd.bsi1 _ _) rfl ?_; intro w5 B5 N5; have g5 := N5.gr; have own5 := g5.row own; have own2 := g5.row own2; have gg := gg.trans g5; have z5 := g5.size) | (refine r_append (.tmp 19) (.tmp 21) 34 3 _ 1 8 w2.heap.size Tryd.intsI u5 (posTo R k).length (intsV (posTo R k)) rfl own5 ⟨B5, 0, none⟩ 1 1 [.int .i64 k] rfl rfl N5.cell1 (intsV_one [(k : Int)]) (by omega) (by decide) (by omega) rfl ?_; intro v6 w6 own6 g6))
        have own2 := g6.row own2 (own_apart' HO2.out own5 (Nat.le_refl _))
        have gg := g6.gr gg (own_gr own5 (by omega))
        have z6 := g6.size
        go_roundw
        case rel => exact ⟨k + 1, by omega, by go_num, by rw [← HS.out, ← intsV_append, List.length_append]; exact own6, own2, gg, by omega⟩
        case measure => simp [intOf]; omega
      · have HS := hidI (show posTo R k = posTo R (k + 1) from by rw [posTo, if_neg (by rw [← hx]; exact h0)])
        have h1 : x < 0 := by omega
        clear hx h0
        go_wp2_with (first | (refine r_idx 34 _ _ (.slice (some ⟨G, 0, none⟩) N cap) (.int .i64 k) _ rfl rfl (Tryd.wix0 G N cap k hlt _) rfl ?_) | (refine r_ldc 3 _ ⟨G, k, none⟩ (.int .i64 x) rfl (Tryd.isAgg3 _) cx rfl ?_))
        go_roundw
        case rel => exact ⟨k + 1, by omega, by go_num, by rw [← HS.out]; exact own, own2, gg, zr⟩
        case measure => simp [intOf]; omega
    · obtain rfl : N = k := by omega
      clear hlt
      go_wp2
      go_ret
      exact ⟨gg, _, rfl, own_up own (by have := HO2.out; omega)⟩
theorem contains_any (v : Value) (l : List Int) (base : Nat) (x : Int) (w : World) (h : w.ownsRow base 3 1 v l.length (intsV l)) (hl : l.length ≤ 1073741824) :
    Calls Tryd.prog 81 #[v, .int .i64 x] w fun e w' => e = .returned (.bool (l.contains x)) ∧ w = w' := by
  obtain ⟨p, m, k, rfl⟩ := own_slice h
  obtain rfl : m = l.length := own_len h
  rcases Nat.eq_zero_or_pos l.length with h0 | h0
  · have e : l = [] := List.eq_nil_of_length_eq_zero h0
    subst e
    exact (Tryd.slices_Contains_int_empty p k x w).mono fun e w' ⟨h1, h2⟩ => ⟨h1, h2.symm⟩
  · obtain ⟨g, c, e, -, -⟩ := own_shape h h0
    cases e
    have hc := Tryd.slices_Contains_int g 0 l.length k l x w (Nat.le_refl _) (by omega) (fun j hj => by
      rw [Nat.zero_add]
      exact own_int h j hj rfl)
    rw [List.take_length] at hc
    exact hc.mono fun e w' ⟨h1, h2⟩ => ⟨h1, h2.symm⟩
end Go.Proofs.YtdebiobhmpoiiaaDoor
