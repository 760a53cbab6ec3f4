/-
  The parts of a tray: in the program and in the model, and the law.
-/
import Derived.Test.YtoadoeahbekkoaaDoorWayT
import Derived.Test.YtoadoeahbekkoaaDoorBLa
import Derived.Test.YtoadoeahbekkoaaDoorBMv
import Derived.WalkMore
namespace Go.Proofs.YtoadoeahbekkoaaDoor
open Go.RowKit
/-- The first n places whose number is not below nought. -/
def posTo (R : List Int) : Nat → List Int
  | 0 => []
  | k + 1 => if 0 ≤ gi R k then posTo R k ++ [(k : Int)] else posTo R k
theorem posTo_le (R : List Int) (k : Nat) : (posTo R k).length ≤ k := by
  induction k with
  | zero => exact Nat.le_refl _
  | succ k ih =>
    unfold posTo
    split
    · rw [List.length_append]; exact Nat.succ_le_succ ih
    · omega
theorem mem_posTo (R : List Int) (n i : Nat) : (i : Int) ∈ posTo R n ↔ i < n ∧ 0 ≤ gi R i := by
  induction n with
  | zero => exact ⟨fun h => (by cases h), fun h => absurd h.1 (Nat.not_lt_zero _)⟩
  | succ n ih =>
    unfold posTo
    split
    · rename_i h0
      rw [List.mem_append, ih, List.mem_singleton]
      constructor
      · rintro (h | h)
        · exact ⟨by omega, h.2⟩
        · obtain rfl : i = n := by omega
          exact ⟨by omega, h0⟩
      · rintro ⟨h1, h2⟩
        rcases Nat.lt_or_ge i n with h | h
        · exact .inl ⟨h, h2⟩
        · exact .inr (by omega)
    · rename_i h0
      rw [ih]
      constructor
      · exact fun h => ⟨by omega, h.2⟩
      · rintro ⟨h1, h2⟩
        rcases Nat.lt_or_ge i n with h | h
        · exact ⟨h, h2⟩
        · obtain rfl : i = n := by omega
          exact absurd h2 h0
/-- A number is in one of the lists. -/
def seenI (L : List (List Int)) (j : Nat) : Bool := L.any fun l => l.contains (j : Int)
theorem seenI_snoc (L : List (List Int)) (l : List Int) (j : Nat) : seenI (L ++ [l]) j = (seenI L j || l.contains (j : Int)) := by
  unfold seenI
  rw [List.any_append]
  simp
/-- The parts that begin with one of the first k cells. -/
def partsTo (W H : Nat) (c : List UInt8) : Nat → List (List Int)
  | 0 => []
  | k + 1 => if at0 c k = 35 ∨ seenI (partsTo W H c k) k = true then partsTo W H c k else partsTo W H c k ++ [posTo (farL W H c k) (nn W H)]
theorem partsTo_skip {W H : Nat} {c : List UInt8} {k : Nat} (h : at0 c k = 35 ∨ seenI (partsTo W H c k) k = true) : partsTo W H c (k + 1) = partsTo W H c k := by rw [partsTo, if_pos h]
theorem partsTo_add {W H : Nat} {c : List UInt8} {k : Nat} (h1 : ¬ at0 c k = 35) (h2 : seenI (partsTo W H c k) k = false) : partsTo W H c (k + 1) = partsTo W H c k ++ [posTo (farL W H c k) (nn W H)] := by
  rw [partsTo, if_neg (by rw [h2]; simp [h1])]
theorem partsTo_le (W H : Nat) (c : List UInt8) (k : Nat) : (partsTo W H c k).length ≤ k ∧ total (partsTo W H c k) ≤ nn W H * k := by
  induction k with
  | zero => exact ⟨Nat.le_refl _, Nat.zero_le _⟩
  | succ k ih =>
    rw [Nat.mul_succ]
    unfold partsTo
    split
    · omega
    · have h1 := posTo_le (farL W H c k) (nn W H)
      have e : total (partsTo W H c k ++ [posTo (farL W H c k) (nn W H)]) = total (partsTo W H c k) + (posTo (farL W H c k) (nn W H)).length := by
        unfold total
        rw [List.map_append, List.sum_append]
        simp
      rw [e, List.length_append, List.length_singleton]
      omega
def paL (l : List UInt8) : List (List Int) := partsTo (rdG l).w (rdG l).h (rdG l).c (nn (rdG l).w (rdG l).h)
theorem paL_le (l : List UInt8) : (paL l).length ≤ 36 ∧ total (paL l) ≤ 1296 := by
  unfold paL
  obtain ⟨h1, h2⟩ := partsTo_le (rdG l).w (rdG l).h (rdG l).c (nn (rdG l).w (rdG l).h)
  have h36 : nn (rdG l).w (rdG l).h ≤ 36 := by
    rcases rd_cases l with ⟨_, hg, _⟩ | ⟨g, hp, hg, _⟩
    · rw [hg]; decide
    · rw [hg]; exact (parse_tray hp).n36
  have h3 : nn (rdG l).w (rdG l).h * nn (rdG l).w (rdG l).h ≤ 36 * 36 := Nat.mul_le_mul h36 h36
  omega
/-- Rows of earlier memory are no block of a later row. -/
theorem rows_before {T e : TypeId} {base b s n k j : Nat} {L : List (List Int)} {vs : List Value} {w w' : World} {v : Value} {xs : List Value} (h : RowsK T base L k j vs w) (hn : vs.length = L.length) (ho : w'.ownsRow b e s v n xs) (hb : w.heap.size ≤ b) : ∀ u ∈ vs, u.ownBlock = none ∨ u.ownBlock ≠ v.ownBlock := by
  intro u hu
  obtain ⟨i, hi, rfl⟩ := List.getElem_of_mem hu
  obtain ⟨x, hx, hox⟩ := h.at' i _ (List.getElem?_eq_getElem (show i < L.length by omega))
  rw [List.getElem?_eq_getElem hi] at hx
  cases hx
  exact own_apart' hox ho hb
set_option maxHeartbeats 2000000 in
set_option maxRecDepth 100000 in
theorem partWith_any (W H s : Nat) (c : List UInt8) (w : World) (hw1 : 1 ≤ W) (hw7 : W ≤ 7) (hh7 : H ≤ 7) (hs : s < nn W H) (h36 : nn W H ≤ 36) :
    Calls Tryd.prog 69 #[.agg (gv W H c), .int .i64 s] w (RetRow 3 (posTo (farL W H c s) (nn W H)) w) := by
  have gg := Gr.refl w
  obtain ⟨N, hN⟩ : ∃ N, N = nn W H := ⟨_, rfl⟩
  have hN1 : 1 ≤ N := by omega
  have hN36 : N ≤ 36 := by omega
  obtain ⟨R, hR⟩ : ∃ R, R = farL W H c s := ⟨_, rfl⟩
  have hRL : R.length = N := by rw [hR, hN]; exact (farL_ok hs).1
  have HST := hidI (fun (w : World) => show Calls Tryd.prog 74 #[.agg (gv W H c), .int .i64 s] w fun e w' => Gr w w' ∧ ∃ G cap, e = .returned (.slice (some ⟨G, 0, none⟩) N cap) ∧ w'.ownsRow w.heap.size 3 1 (.slice (some ⟨G, 0, none⟩) N cap) N (intsV R) from
    (hR ▸ stepsFrom_any W H s c w hw1 hw7 hh7 hs h36 : Calls Tryd.prog 74 #[.agg (gv W H c), .int .i64 s] w (RetRow 3 R w)).mono fun e w' ⟨g, v, he, ho⟩ => by
      rw [hRL] at ho
      obtain ⟨G, cap, rfl, -, -⟩ := own_shape ho hN1
      exact ⟨g, G, cap, he, ho⟩)
  have HRL := hidI hRL
  rw [← hR, ← hN]
  clear hR hN hRL
  go_enter Tryd.func69, Tryd.ntmps69
  go_wp2_with (first | (refine r_box 74 _ (gv W H c) rfl rfl ?_; intro w1 B1 N1; have g1 := N1.gr; have b1 : Blk w1 B1 (gv W H c) 74 := N1.blk; have l1 := N1.lo; have t1 := N1.hi; have z1 := g1.size; have gg := gg.trans g1; clear N1; obtain ⟨b1_0, b1_1, b1_2⟩ := gcells b1) | (refine r_load_row 74 _ _ rfl _ _ _ b1 Tryd.underlying74 rfl (Tryd.ginfo' _ _ _) rfl ?_) | (go_at_call 74; refine (HST.out _).mono ?_; rintro e w2 ⟨g2, G, cap, rfl, own2⟩; have gg := gg.trans g2; have z2 := g2.size))
  have HO2 := hidI own2
  have own0 : w2.ownsRow w2.heap.size 3 1 (.slice none 0 0) (posTo R 0).length (intsV (posTo R 0)) := World.ownsRow_nil _ _ _ _
  go_loopw [5, 12] (fun pv iv wr => ∃ k : Nat, k ≤ N ∧ iv = .int .i64 k ∧ wr.ownsRow w2.heap.size 3 1 pv (posTo R k).length (intsV (posTo R k)) ∧ wr.ownsRow w1.heap.size 3 1 (.slice (some ⟨G, 0, none⟩) N cap) N (intsV R) ∧ Gr w wr ∧ w2.heap.size ≤ wr.heap.size) (fun _ iv _ => N - (intOf iv).toNat)
  case atStart => exact ⟨0, Nat.zero_le _, rfl, own0, own2, gg, Nat.le_refl _⟩
  case round =>
    clear own0 own2 gg
    obtain ⟨k, hk, rfl, own, own2, gg, zr⟩ := hrel
    have hle := posTo_le R k
    by_cases hlt : k < N
    · obtain ⟨x, hx⟩ : ∃ x, x = gi R k := ⟨_, rfl⟩
      have cx := own_int own2 k hlt HRL.out.symm
      rw [← hx] at cx
      by_cases h0 : 0 ≤ x
      · have HS := hidI (show posTo R k ++ [(k : Int)] = posTo R (k + 1) from by rw [posTo, if_pos (by rw [← hx]; exact h0)])
        clear hx
        go_wp2_with (first | (refine r_idx 40 _ _ (.slice (some ⟨G, 0, none⟩) N cap) (.int .i64 k) _ rfl rfl (Tryd.wix0 G N cap k hlt _) rfl ?_) | (refine r_ldc 3 _ ⟨G, k, none⟩ (.int .i64 x) rfl (Tryd.isAgg3 _) cx rfl ?_) | (refine r_slice1 40 3 (.tmp 20) (.int .i64 k) rfl (Tryd.bsi1 _ _) rfl ?_; intro w5 B5 N5; have g5 := N5.gr; have own5 := g5.row own; have own2 := g5.row own2; have gg := gg.trans g5; have z5 := g5.size) | (refine r_append (.tmp 19) (.tmp 21) 40 3 _ 1 8 w2.heap.size Tryd.intsI u5 (posTo R k).length (intsV (posTo R k)) rfl own5 ⟨B5, 0, none⟩ 1 1 [.int .i64 k] rfl rfl N5.cell1 (intsV_one [(k : Int)]) (by omega) (by decide) (by omega) rfl ?_; intro v6 w6 own6 g6))
        have own2 := g6.row own2 (own_apart' HO2.out own5 (Nat.le_refl _))
        have gg := g6.gr gg (own_gr own5 (by omega))
        have z6 := g6.size
        go_roundw
        case rel => exact ⟨k + 1, by omega, by go_num, by rw [← HS.out, ← intsV_append, List.length_append]; exact own6, own2, gg, by omega⟩
        case measure => simp [intOf]; omega
      · have HS := hidI (show posTo R k = posTo R (k + 1) from by rw [posTo, if_neg (by rw [← hx]; exact h0)])
        have h1 : x < 0 := by omega
        clear hx h0
        go_wp2_with (first | (refine r_idx 40 _ _ (.slice (some ⟨G, 0, none⟩) N cap) (.int .i64 k) _ rfl rfl (Tryd.wix0 G N cap k hlt _) rfl ?_) | (refine r_ldc 3 _ ⟨G, k, none⟩ (.int .i64 x) rfl (Tryd.isAgg3 _) cx rfl ?_))
        go_roundw
        case rel => exact ⟨k + 1, by omega, by go_num, by rw [← HS.out]; exact own, own2, gg, zr⟩
        case measure => simp [intOf]; omega
    · obtain rfl : N = k := by omega
      clear hlt
      go_wp2
      go_ret
      exact ⟨gg, _, rfl, own_up own (by have := HO2.out; omega)⟩
theorem contains_any (v : Value) (l : List Int) (base : Nat) (x : Int) (w : World) (h : w.ownsRow base 3 1 v l.length (intsV l)) (hl : l.length ≤ 1073741824) :
    Calls Tryd.prog 68 #[v, .int .i64 x] w fun e w' => e = .returned (.bool (l.contains x)) ∧ w = w' := by
  obtain ⟨p, m, k, rfl⟩ := own_slice h
  obtain rfl : m = l.length := own_len h
  rcases Nat.eq_zero_or_pos l.length with h0 | h0
  · have e : l = [] := List.eq_nil_of_length_eq_zero h0
    subst e
    exact (Tryd.slices_Contains_int_empty p k x w).mono fun e w' ⟨h1, h2⟩ => ⟨h1, h2.symm⟩
  · obtain ⟨g, c, e, -, -⟩ := own_shape h h0
    cases e
    have hc := Tryd.slices_Contains_int g 0 l.length k l x w (Nat.le_refl _) (by omega) (fun j hj => by
      rw [Nat.zero_add]
      exact own_int h j hj rfl)
    rw [List.take_length] at hc
    exact hc.mono fun e w' ⟨h1, h2⟩ => ⟨h1, h2.symm⟩
set_option maxHeartbeats 4000000 in
set_option maxRecDepth 100000 in
theorem iPartsOf (s : ByteArray) (w : World) (hm : ML w) (hs : s.size ≤ 1048576) : Calls Tryd.prog 23 #[.string s] w (RetSS 40 3 (paL s.data.toList) (rdOk s.data.toList) w) := by
  have gg := Gr.refl w
  rcases rd_cases s.data.toList with ⟨hp, hg, hk⟩ | ⟨g, hp, hg, hk⟩
  · have HK := hidI hk
    have HV := hidI (show paL s.data.toList = [] from by unfold paL; rw [hg]; rfl)
    clear hp hg hk
    go_enter Tryd.func23, Tryd.ntmps23
    go_wp2
    go_step3
    go_wp2_with (first | (go_at_call 52; refine (readTray_any s _ hm hs).mono ?_; rintro e w1 ⟨rfl, g1⟩; rw [HK.out]; have z1 := g1.size; have gg := gg.trans g1) | (refine r_alloc 74 _ Tryd.gzero rfl ?_; intro w2 B2 N2; have g2 := N2.gr; have b2 : Blk w2 B2 (gv 0 0 []) 74 := N2.blk; have l2 := N2.lo; have t2 := N2.hi; have z2 := g2.size; have gg := gg.trans g2; clear N2; obtain ⟨b2_0, b2_1, b2_2⟩ := gcells b2) | (refine r_store_row 74 74 _ _ _ rfl (gv _ _ _) _ rfl b2 (Tryd.gsize' _ _ _) (by simp only [gv_size]) (gv_one _ _ _) rfl ?_; intro w3 u3 b2'; have z3 := u3.size; have gg := u3.gr gg (by omega); clear b2; have b2 := b2'; clear b2'; obtain ⟨b2_0, b2_1, b2_2⟩ := gcells b2))
    rw [Exit.noGoto_ret]
    go_ret2
    exact ⟨gg, .slice none 0 0, [], by rw [HK.out]; rfl, by rw [HV.out]; exact World.ownsRow_nil _ _ _ _, by rw [HV.out]; exact RowsK.nil _ _ _ _ _⟩
  · have HK := hidI hk
    have HG := hidI hg
    have ht := parse_tray hp
    have hw7 := ht.w7
    have hh7 := ht.h7
    have hw1 := ht.w1
    have n36 := ht.n36
    obtain ⟨N, hN⟩ : ∃ N, N = nn g.w g.h := ⟨_, rfl⟩
    have hN36 : N ≤ 36 := by omega
    have HV := hidI (show paL s.data.toList = partsTo g.w g.h g.c N from by unfold paL; rw [hg, hN])
    have HCA := hidI (fun (w : World) => show Calls Tryd.prog 64 #[.agg (gv g.w g.h g.c)] w (Ret (.int .i64 N) w) from by rw [hN]; exact countAll_any g.w g.h g.c w hw7 hh7)
    have HPW := hidI (fun (k : Nat) (w : World) (hk : k < N) => show Calls Tryd.prog 69 #[.agg (gv g.w g.h g.c), .int .i64 k] w fun e w' => Gr w w' ∧ ∃ p m c, e = .returned (.slice p m c) ∧ w'.ownsRow w.heap.size 3 1 (.slice p m c) (posTo (farL g.w g.h g.c k) (nn g.w g.h)).length (intsV (posTo (farL g.w g.h g.c k) (nn g.w g.h))) from
      (partWith_any g.w g.h k g.c w hw1 hw7 hh7 (by rw [← hN]; exact hk) n36).mono fun e w' ⟨g, v, he, ho⟩ => by
        obtain ⟨p, m, c, rfl⟩ := own_slice ho
        exact ⟨g, p, m, c, he, ho⟩)
    clear hp hg hk ht hN
    go_enter Tryd.func23, Tryd.ntmps23
    go_wp2
    go_step3
    go_wp2_with (first | (go_at_call 52; refine (readTray_any s _ hm hs).mono ?_; rintro e w1 ⟨rfl, g1⟩; rw [HK.out, HG.out, gvG]; have z1 := g1.size; have gg := gg.trans g1) | (refine r_alloc 74 _ Tryd.gzero rfl ?_; intro w2 B2 N2; have g2 := N2.gr; have b2 : Blk w2 B2 (gv 0 0 []) 74 := N2.blk; have l2 := N2.lo; have t2 := N2.hi; have z2 := g2.size; have gg := gg.trans g2; clear N2; obtain ⟨b2_0, b2_1, b2_2⟩ := gcells b2) | (refine r_store_row 74 74 _ _ _ rfl (gv g.w g.h g.c) _ rfl b2 (Tryd.gsize' _ _ _) (by simp only [gv_size]) (gv_one _ _ _) rfl ?_; intro w3 u3 b2'; have z3 := u3.size; have gg := u3.gr gg (by omega); clear b2; have b2 := b2'; clear b2'; obtain ⟨b2_0, b2_1, b2_2⟩ := gcells b2))
    go_step3
    go_wp2_with (first | (refine r_load_row 74 _ _ rfl _ _ _ b2 Tryd.underlying74 rfl (Tryd.ginfo' _ _ _) rfl ?_) | (go_at_call 64; refine (HCA.out _).mono ?_; rintro e w4 ⟨rfl, g4⟩; have b2 := g4.blk b2; have gg := gg.trans g4; have z4 := g4.size))
    have own0 : w4.ownsRow w.heap.size 40 1 (.slice none 0 0) (partsTo g.w g.h g.c 0).length [] := World.ownsRow_nil _ _ _ _
    have R0 : RowsK 3 w.heap.size (partsTo g.w g.h g.c 0) 1 0 [] w4 := RowsK.nil _ _ _ _ _
    clear b2_0 b2_1 b2_2
    go_loopw [6, 19] (fun sv iv wr => ∃ (k : Nat) (vs : List Value), k ≤ N ∧ iv = .int .i64 k ∧ wr.ownsRow w.heap.size 40 1 sv (partsTo g.w g.h g.c k).length vs ∧ RowsK 3 w.heap.size (partsTo g.w g.h g.c k) 1 0 vs wr ∧ Blk wr B2 (gv g.w g.h g.c) 74 ∧ Gr w wr) (fun _ iv _ => N - (intOf iv).toNat)
    case atStart => exact ⟨0, [], Nat.zero_le _, rfl, own0, R0, b2, gg⟩
    case round =>
      clear own0 R0 b2 gg
      obtain ⟨k, vs, hk, rfl, own, R, b2, gg⟩ := hrel
      obtain ⟨wo, rfl⟩ : ∃ wo : World, wo = wr := ⟨_, rfl⟩
      obtain ⟨p7, n7, k7, rfl⟩ := own_slice own
      have hnl := own_len own
      have zo := gg.size
      obtain ⟨hpl, hpt⟩ := partsTo_le g.w g.h g.c k
      have HVL := hidI (show vs.length = (partsTo g.w g.h g.c k).length from by have := own.1; omega)
      by_cases hlt : k < N
      · have hck := (gcells b2).2.2 k (by omega)
        have hgk := fun B w => Tryd.gix B k (by omega) w
        by_cases hc : at0 g.c k = 35
        · have e2 : (((at0 g.c k).toNat : Int) == 35) = true := beq_byte hc
          have HS := hidI (partsTo_skip (W := g.w) (H := g.h) (c := g.c) (k := k) (.inl hc))
          clear hc
          go_wp2
          go_roundw
          case rel => exact ⟨k + 1, vs, by omega, by go_num, by rw [HS.out]; exact own, by rw [HS.out]; exact R, b2, gg⟩
          case measure => simp [intOf]; omega
        · have e2 : (((at0 g.c k).toNat : Int) == 35) = false := bne_byte hc
          obtain ⟨L, hL⟩ : ∃ L, L = partsTo g.w g.h g.c k := ⟨_, rfl⟩
          have HSK := hidI (fun (h : seenI L k = true) => partsTo_skip (W := g.w) (H := g.h) (c := g.c) (k := k) (.inr (hL ▸ h)))
          have HAD := hidI (fun (h : seenI L k = false) => partsTo_add (W := g.w) (H := g.h) (c := g.c) (k := k) hc (hL ▸ h))
          rw [← hL] at own R hnl hpl HVL hpt HAD
          subst hnl
          have HLL := hidI hL
          have HRO := hidI R
          clear hc hL
          go_wp2
          go_loopw [29] (fun tv wi => ∃ i : Nat, i ≤ L.length ∧ tv = .int .i64 i ∧ Hid (∀ m l, m < i → L[m]? = some l → l.contains (k : Int) = false) ∧ wi = wo) (fun tv _ => L.length - (intOf tv).toNat)
          case atStart => exact ⟨0, Nat.zero_le _, rfl, hidI (fun m l h => absurd h (Nat.not_lt_zero _)), rfl⟩
          case round =>
            obtain ⟨i, hi, rfl, HNO, rfl⟩ := hrel
            by_cases hil : i < L.length
            · obtain ⟨l, hl⟩ : ∃ l, L[i]? = some l := ⟨L[i], List.getElem?_eq_getElem hil⟩
              obtain ⟨v, hv, ho⟩ := R.at' i l hl
              rw [if_neg (Nat.not_lt_zero _)] at ho
              obtain ⟨g1, c1, e1, -, -⟩ := own_shape own (by omega)
              cases e1
              have cv := own_val own i v hil hv
              have hll := len_le_total hl
              have hlb : l.length ≤ 1073741824 := by
                have h3 : nn g.w g.h * k ≤ 36 * 36 := Nat.mul_le_mul n36 (by omega)
                omega
              cases hb : l.contains (k : Int) with
              | true =>
                have HC := hidI (show Calls Tryd.prog 68 #[v, .int .i64 k] wr fun e w' => e = .returned (.bool true) ∧ wr = w' from by rw [← hb]; exact contains_any v l _ k wr ho hlb)
                have HS := hidI (HSK.out (by unfold seenI; exact List.any_eq_true.2 ⟨l, List.mem_of_getElem? hl, hb⟩))
                clear hl hb ho
                go_wp2_with (first | (refine r_idx 33 _ _ (.slice (some ⟨g1, 0, none⟩) L.length k7) (.int .i64 i) _ rfl rfl (Tryd.ssix g1 L.length k7 i hil _) rfl ?_) | (refine r_ldc 40 _ ⟨g1, i, none⟩ v rfl (Tryd.isAgg40 _) cv rfl ?_) | (go_at_call 68; refine HC.out.mono ?_; rintro e wSame ⟨rfl, rfl⟩))
                go_roundw
                case rel => exact ⟨k + 1, vs, by omega, by go_num, by rw [HS.out, ← HLL.out]; exact own, by rw [HS.out, ← HLL.out]; exact R, b2, gg⟩
                case measure => simp [intOf]; omega
              | false =>
                have HC := hidI (show Calls Tryd.prog 68 #[v, .int .i64 k] wr fun e w' => e = .returned (.bool false) ∧ wr = w' from by rw [← hb]; exact contains_any v l _ k wr ho hlb)
                have HN2 := hidI (show ∀ m l, m < i + 1 → L[m]? = some l → l.contains (k : Int) = false from fun m l' hm hl' => by
                  rcases Nat.lt_or_ge m i with h | h
                  · exact HNO.out m l' h hl'
                  · obtain rfl : m = i := by omega
                    rw [hl] at hl'
                    cases hl'
                    exact hb)
                clear hl hb ho
                go_wp2_with (first | (refine r_idx 33 _ _ (.slice (some ⟨g1, 0, none⟩) L.length k7) (.int .i64 i) _ rfl rfl (Tryd.ssix g1 L.length k7 i hil _) rfl ?_) | (refine r_ldc 40 _ ⟨g1, i, none⟩ v rfl (Tryd.isAgg40 _) cv rfl ?_) | (go_at_call 68; refine HC.out.mono ?_; rintro e wSame ⟨rfl, rfl⟩))
                go_roundw
                case rel => exact ⟨i + 1, by omega, by go_num, HN2, by first | rfl | trivial⟩
                case measure => simp [intOf]; omega
            · obtain rfl : i = L.length := by omega
              have HS := hidI (HAD.out (by
                unfold seenI
                rw [List.any_eq_false]
                intro l hl
                obtain ⟨m, hm, e⟩ := List.getElem_of_mem hl
                rw [Bool.not_eq_true]
                exact HNO.out m l hm (by rw [List.getElem?_eq_getElem hm, e])))
              clear hil
              go_wp2_with (first | (refine r_load_row 74 _ _ rfl _ _ _ b2 Tryd.underlying74 rfl (Tryd.ginfo' _ _ _) rfl ?_) | (go_at_call 69; refine (HPW.out k _ hlt).mono ?_; rintro e w5 ⟨g5, p5, n5, c5, rfl, ho5⟩; have b2 := g5.blk b2; have own := g5.row own; have R := R.gr g5; have gg := gg.trans g5; have z5 := g5.size) | (refine r_slice1 33 40 (.tmp 40) (.slice p5 n5 c5) rfl (Tryd.bssi1 _ _ _ _) rfl ?_; intro w8 B8 N8; have g8 := N8.gr; have hz := g8.row ho5; have own := g8.row own; have R := R.gr g8; have b2 := g8.blk b2; have gg := gg.trans g8; have z8 := g8.size) | (refine r_append (.tmp 37) (.tmp 41) 33 40 _ 1 24 w.heap.size Tryd.intSSI (.slice p7 L.length k7) L.length vs rfl own ⟨B8, 0, none⟩ 1 1 [.slice p5 n5 c5] rfl rfl N8.cell1 (by intro u hu; simp at hu; subst hu; rfl) (by omega) (by decide) (by have := gg.size; omega) rfl ?_; intro v9 w9 own9 g9))
              have HBF := hidI (rows_before HRO.out HVL.out ho5 (Nat.le_refl _))
              have hz9 := g9.row hz (own_ne2 hz own (by decide))
              have R9 := R.grb own (by decide) g9
              have b29 := g9.blk b2 (own_ne own b2 (by decide))
              have gg9 := g9.gr gg (own_gr own (Nat.le_refl _))
              have R10 := R9.snoc HVL.out (own_up hz9 (show w.heap.size ≤ wr.heap.size from (by omega))) HBF.out
              go_roundw
              case rel => exact ⟨k + 1, vs ++ [.slice p5 n5 c5], by omega, by go_num, by rw [HS.out, List.length_append]; exact own9, by rw [HS.out]; exact R10, b29, gg9⟩
              case measure => simp [intOf]; omega
      · obtain rfl : N = k := by omega
        clear hlt
        go_wp2
        rw [Exit.noGoto_ret]
        go_ret2
        exact ⟨gg, .slice p7 n7 k7, vs, by rw [HK.out]; rfl, by rw [HV.out]; exact own, by rw [HV.out]; exact R⟩
def pbV (n : Nat) (f : Nat → Bool) : List Value := (List.range n).map fun j => Value.bool (f j)
theorem pbV_length (n : Nat) (f : Nat → Bool) : (pbV n f).length = n := by simp [pbV]
theorem pbV_get (n : Nat) (f : Nat → Bool) (j : Nat) (h : j < n) : (pbV n f)[j]? = some (.bool (f j)) := by
  unfold pbV
  rw [List.getElem?_map, List.getElem?_range h]
  rfl
theorem pbV_congr {n : Nat} {f g : Nat → Bool} (h : ∀ j, j < n → f j = g j) : pbV n f = pbV n g := by
  unfold pbV
  refine List.map_congr_left fun j hj => ?_
  rw [h j (List.mem_range.1 hj)]
theorem pbV_set (n : Nat) (f : Nat → Bool) (j : Nat) (x : Bool) (h : j < n) : (pbV n f).set j (.bool x) = pbV n fun i => if i = j then x else f i := by
  apply List.ext_getElem?
  intro i
  rw [List.getElem?_set]
  by_cases hi : i < n
  · by_cases e : j = i
    · subst e
      rw [if_pos rfl, if_pos (by rw [pbV_length]; exact h), pbV_get _ _ j h, if_pos rfl]
    · rw [if_neg e, pbV_get _ _ i hi, pbV_get _ _ i hi, if_neg (Ne.symm e)]
  · rw [if_neg (by omega), List.getElem?_eq_none (by rw [pbV_length]; omega), List.getElem?_eq_none (by rw [pbV_length]; omega)]
theorem contains_posTo (R : List Int) (n i : Nat) : (posTo R n).contains (i : Int) = (decide (i < n) && decide (0 ≤ gi R i)) := by
  rw [Bool.eq_iff_iff, List.contains_iff_mem, mem_posTo, Bool.and_eq_true, decide_eq_true_eq, decide_eq_true_eq]
/-- A row that grows in later memory leaves the rows of earlier memory. -/
theorem rows_grow {T e : TypeId} {base b s n k j : Nat} {L : List (List Int)} {vs : List Value} {w0 w w' : World} {v : Value} {xs : List Value} (h : RowsK T base L k j vs w) (h0 : RowsK T base L k j vs w0) (hn : vs.length = L.length) (ho : w.ownsRow b e s v n xs) (g : Grb v.ownBlock w w') (hb : w0.heap.size ≤ b) : RowsK T base L k j vs w' :=
  ⟨fun i l hl => by
    obtain ⟨x, hx, hox⟩ := h.at' i l hl
    exact ⟨x, hx, g.row hox (rows_before h0 hn ho hb x (List.mem_of_getElem? hx))⟩, h.ap⟩
theorem Tryd.pboolI : ElemInfo Tryd.prog 101 4 (.bool false) 1 1 := ⟨Tryd.underlying101, by kernel_rfl, rfl, by decide⟩
theorem Tryd.pbix (B n cap x : Nat) (hx : x < n) (w : World) : (Instr.indexAt 101 (.slice (some ⟨B, 0, none⟩) n cap) (.int .i64 x)).run Tryd.prog w = .ok (.pointer (some ⟨B, x, none⟩)) w := by
  have he : Tryd.prog.elem 101 = 4 := by kernel_rfl
  have hu : Tryd.prog.underlying 101 = some (.slice (Tryd.prog.elem 101)) := by rw [he]; exact Tryd.underlying101
  have hs : (sizeOf 4).run Tryd.prog w = .ok 1 w := by kernel_rfl
  rw [run_indexAt_slice w 101 ⟨B, 0, none⟩ n cap .i64 x hu, if_pos (by omega), he]
  simp [hs, Result.andThen, add_flat]
theorem own_pbools {w w1 : World} {B n : Nat} {T : TypeId} (N : New w w1 B (madeCells (Value.bool false).cells (n * 1)) T) (hn : n ≤ 1073741824) : w1.ownsRow w.heap.size T 1 (.slice (some ⟨B, 0, none⟩) n n) n (pbV n fun _ => false) := by
  refine ⟨by simp [pbV], .inr ⟨B, n, _, rfl, N.lo, N.blk, Nat.le_refl _, by unfold maxLen; omega, size_madeCells _ _, ?_⟩⟩
  apply List.ext_getElem?
  intro i
  by_cases hi : i < n
  · rw [List.getElem?_take, if_pos (by omega), pbV_get _ _ i hi]
    unfold madeCells
    simp [hi]
    have e : (Value.bool false).cells = #[Value.bool false] := rfl
    rw [e]
    simp [Nat.mod_one]
  · rw [List.getElem?_eq_none (by simp; omega), List.getElem?_eq_none (by rw [pbV_length]; omega)]
set_option maxHeartbeats 4000000 in
set_option maxRecDepth 100000 in
theorem sPartsOf (s : ByteArray) (w : World) (hs : s.size ≤ 1048576) : Calls Tryd.prog 22 #[.string s] w (RetSS 40 3 (paL s.data.toList) (rdOk s.data.toList) w) := by
  have gg := Gr.refl w
  go_enter Tryd.func22, Tryd.ntmps22
  go_wp2_with fail
  refine (tyRead_any s _ hs).mono ?_
  rintro e w1 ⟨g1, ⟨hp, rfl⟩ | ⟨g, sl, hp, rfl, hown⟩⟩
  · have HV := hidI (show paL s.data.toList = [] ∧ rdOk s.data.toList = false from by unfold paL; rw [(rd_parse_none hp).1]; exact ⟨rfl, (rd_parse_none hp).2⟩)
    have z1 := g1.size
    have gg := gg.trans g1
    clear hp
    go_wp2_with (first | (refine r_alloc 57 _ Tryd.tzero rfl ?_; intro w2 B2 N2; have g2 := N2.gr; have b2 : Blk w2 B2 (tg 0 0 (.slice none 0 0)) 57 := N2.blk; have l2 := N2.lo; have t2 := N2.hi; have z2 := g2.size; have gg := gg.trans g2; clear N2; obtain ⟨b2_0, b2_1, b2_2⟩ := tcells b2) | (refine r_store_row 57 57 _ _ _ rfl (tg _ _ _) _ rfl b2 Tryd.tsize rfl (tg_one rfl) rfl ?_; intro w3 u3 b2'; have z3 := u3.size; have gg := u3.gr gg (by omega); clear b2; have b2 := b2'; clear b2'; obtain ⟨b2_0, b2_1, b2_2⟩ := tcells b2))
    go_ret2
    exact ⟨gg, .slice none 0 0, [], by rw [HV.out.2]; rfl, by rw [HV.out.1]; exact World.ownsRow_nil _ _ _ _, by rw [HV.out.1]; exact RowsK.nil _ _ _ _ _⟩
  · obtain ⟨hg, hk⟩ := rd_parse_some hp
    have ht := parse_tray hp
    have z1 := g1.size
    have gg := gg.trans g1
    have hone := own_one hown
    have hw7 := ht.w7
    have hh7 := ht.h7
    have hw1 := ht.w1
    have n36 := ht.n36
    have hl1 : 0 < g.c.length := by rw [ht.len]; exact Nat.mul_pos ht.w1 ht.h1
    obtain ⟨N, hN⟩ : ∃ N, N = g.c.length := ⟨_, rfl⟩
    have hNn : N = nn g.w g.h := by rw [hN, ht.len]
    rw [← hN] at hown hl1
    obtain ⟨G, cap, rfl, -, -⟩ := own_shape hown hl1
    have HK := hidI hk
    have HV := hidI (show paL s.data.toList = partsTo g.w g.h g.c N from by unfold paL; rw [hg, hNn])
    have HNN := hidI hNn
    have HCL := hidI hN
    have hN36 : N ≤ 36 := by omega
    have hmk : N * 1 ≤ 16777216 := by omega
    have hby : 1 * N ≤ 281474976710656 := by omega
    have HFAR := hidI (fun (k : Nat) (w' : World) (hk : k < N) (ho : w'.ownsRow w.heap.size 5 1 (.slice (some ⟨G, 0, none⟩) N cap) N (cellsV g.c)) => show Calls Tryd.prog 67 #[.agg (tg g.w g.h (.slice (some ⟨G, 0, none⟩) N cap)), .int .i64 k] w' fun e w2 => Gr w' w2 ∧ ∃ G5 c5, e = .returned (.slice (some ⟨G5, 0, none⟩) N c5) ∧ w2.ownsRow w'.heap.size 3 1 (.slice (some ⟨G5, 0, none⟩) N c5) N (intsV (farL g.w g.h g.c k)) from
      (tyFar_any g.w g.h k w.heap.size G cap N g.c w' hw1 hw7 hh7 HNN.out hk hN36 HCL.out ho).mono fun e w2 ⟨g', v, he, ho⟩ => by
        rw [(farL_ok (W := g.w) (H := g.h) (c := g.c) (by rw [← HNN.out]; exact hk)).1, ← HNN.out] at ho
        obtain ⟨G5, c5, rfl, -, -⟩ := own_shape ho hl1
        exact ⟨g', G5, c5, he, ho⟩)
    have HRL := hidI (fun (k : Nat) (hk : k < N) => show (farL g.w g.h g.c k).length = N from by rw [(farL_ok (W := g.w) (H := g.h) (c := g.c) (by rw [← HNN.out]; exact hk)).1, HNN.out])
    clear hp hg hk ht hN hNn
    go_wp2_with (first | (refine r_alloc 57 _ Tryd.tzero rfl ?_; intro w2 B2 N2; have g2 := N2.gr; have b2 : Blk w2 B2 (tg 0 0 (.slice none 0 0)) 57 := N2.blk; have l2 := N2.lo; have t2 := N2.hi; have z2 := g2.size; have gg := gg.trans g2; clear N2; obtain ⟨b2_0, b2_1, b2_2⟩ := tcells b2) | (refine r_store_row 57 57 _ _ _ rfl (tg _ _ _) _ rfl b2 Tryd.tsize rfl (tg_one hone) rfl ?_; intro w3 u3 b2'; have z3 := u3.size; have gg := u3.gr gg (by omega); clear b2; have b2 := b2'; clear b2'; obtain ⟨b2_0, b2_1, b2_2⟩ := tcells b2) | (refine r_make 101 4 _ _ _ Tryd.pboolI (.tmp 22) (.tmp 22) N rfl rfl hmk hby (by omega) rfl ?_; intro w4 B4 N4; have own4 := own_pbools N4 (by omega); have l4 := N4.lo; have g4 := N4.gr; have b2 := g4.blk b2; obtain ⟨b2_0, b2_1, b2_2⟩ := tcells b2; have gg := gg.trans g4; have z4 := g4.size; clear N4))
    have hcr := g4.row (u3.row (g2.row hown) (own_new hown l2))
    have own0 : w4.ownsRow w.heap.size 40 1 (.slice none 0 0) (partsTo g.w g.h g.c 0).length [] := World.ownsRow_nil _ _ _ _
    have R0 : RowsK 3 w.heap.size (partsTo g.w g.h g.c 0) 1 0 [] w4 := RowsK.nil _ _ _ _ _
    have seen0 : w4.ownsRow w.heap.size 4 1 (.slice (some ⟨B4, 0, none⟩) N N) N (pbV N (seenI (partsTo g.w g.h g.c 0))) := own_up own4 (by omega)
    have hB24 : B2 < B4 := by omega
    clear b2_0 b2_1 b2_2 own4
    go_loopw [6, 27] (fun sv iv wr => ∃ (k : Nat) (vs : List Value), k ≤ N ∧ iv = .int .i64 k ∧ wr.ownsRow w.heap.size 40 1 sv (partsTo g.w g.h g.c k).length vs ∧ RowsK 3 w.heap.size (partsTo g.w g.h g.c k) 1 0 vs wr ∧ wr.ownsRow w.heap.size 4 1 (.slice (some ⟨B4, 0, none⟩) N N) N (pbV N (seenI (partsTo g.w g.h g.c k))) ∧ wr.ownsRow w.heap.size 5 1 (.slice (some ⟨G, 0, none⟩) N cap) N (cellsV g.c) ∧ Blk wr B2 (tg g.w g.h (.slice (some ⟨G, 0, none⟩) N cap)) 57 ∧ Gr w wr) (fun _ iv _ => N - (intOf iv).toNat)
    case atStart => exact ⟨0, [], Nat.zero_le _, rfl, own0, R0, seen0, hcr, b2, gg⟩
    case round =>
      clear own0 R0 b2 gg seen0 hcr
      obtain ⟨k, vs, hk, rfl, own, R, seen, hcr, b2, gg⟩ := hrel
      obtain ⟨wo, rfl⟩ : ∃ wo : World, wo = wr := ⟨_, rfl⟩
      obtain ⟨p7, n7, k7, rfl⟩ := own_slice own
      have hnl := own_len own
      have zo := gg.size
      obtain ⟨hpl, hpt⟩ := partsTo_le g.w g.h g.c k
      have HVL := hidI (show vs.length = (partsTo g.w g.h g.c k).length from by have := own.1; omega)
      by_cases hlt : k < N
      · have hck := own_cell hcr k (by rw [← HCL.out]; exact hlt) HCL.out
        have hgk := Tryd.six0 G N cap k hlt
        obtain ⟨L, hL⟩ : ∃ L, L = partsTo g.w g.h g.c k := ⟨_, rfl⟩
        have HSK := hidI (fun (h : at0 g.c k = 35 ∨ seenI L k = true) => partsTo_skip (W := g.w) (H := g.h) (c := g.c) (k := k) (by rw [← hL]; exact h))
        have HAD := hidI (fun (h1 : ¬ at0 g.c k = 35) (h : seenI L k = false) => partsTo_add (W := g.w) (H := g.h) (c := g.c) (k := k) h1 (hL ▸ h))
        rw [← hL] at own R hnl hpl HVL hpt HAD seen
        subst hnl
        have HLL := hidI hL
        have HRO := hidI R
        clear hL
        have csn := own_val seen k _ hlt (pbV_get N _ k hlt)
        cases hsn : seenI L k with
        | true =>
          rw [hsn] at csn
          have HS := hidI (HSK.out (.inr hsn))
          clear hsn
          go_wp2_with (first | (refine r_idx 101 _ _ (.slice (some ⟨B4, 0, none⟩) N N) (.int .i64 k) _ rfl rfl (Tryd.pbix B4 N N k hlt _) rfl ?_) | (refine r_ldc 4 _ ⟨B4, k, none⟩ (.bool true) rfl (Tryd.isAgg4 _) csn rfl ?_))
          go_roundw
          case rel => exact ⟨k + 1, vs, by omega, by go_num, by rw [HS.out, ← HLL.out]; exact own, by rw [HS.out, ← HLL.out]; exact R, by rw [HS.out, ← HLL.out]; exact seen, hcr, b2, gg⟩
          case measure => simp [intOf]; omega
        | false =>
          rw [hsn] at csn
          by_cases hc : at0 g.c k = 35
          · have e2 : (((at0 g.c k).toNat : Int) == 35) = true := beq_byte hc
            have HS := hidI (HSK.out (.inl hc))
            clear hsn hc
            go_wp2_with (first | (refine r_idx 101 _ _ (.slice (some ⟨B4, 0, none⟩) N N) (.int .i64 k) _ rfl rfl (Tryd.pbix B4 N N k hlt _) rfl ?_) | (refine r_ldc 4 _ ⟨B4, k, none⟩ (.bool false) rfl (Tryd.isAgg4 _) csn rfl ?_))
            go_roundw
            case rel => exact ⟨k + 1, vs, by omega, by go_num, by rw [HS.out, ← HLL.out]; exact own, by rw [HS.out, ← HLL.out]; exact R, by rw [HS.out, ← HLL.out]; exact seen, hcr, b2, gg⟩
            case measure => simp [intOf]; omega
          · have e2 : (((at0 g.c k).toNat : Int) == 35) = false := bne_byte hc
            have HS := hidI (HAD.out hc hsn)
            obtain ⟨Rk, hRk⟩ : ∃ Rk, Rk = farL g.w g.h g.c k := ⟨_, rfl⟩
            have HFK := hidI (fun (w' : World) (ho : w'.ownsRow w.heap.size 5 1 (.slice (some ⟨G, 0, none⟩) N cap) N (cellsV g.c)) => hRk ▸ HFAR.out k w' hlt ho)
            have HRKL := hidI (show Rk.length = N from by rw [hRk]; exact HRL.out k hlt)
            rw [← hRk, ← HNN.out] at HS
            clear hsn hc hRk
            go_wp2_with (first | (refine r_load_row 57 _ _ rfl _ _ _ b2 Tryd.underlying57 rfl Tryd.tinfo rfl ?_) | (refine r_idx 101 _ _ (.slice (some ⟨B4, 0, none⟩) N N) (.int .i64 k) _ rfl rfl (Tryd.pbix B4 N N k hlt _) rfl ?_) | (refine r_ldc 4 _ ⟨B4, k, none⟩ (.bool false) rfl (Tryd.isAgg4 _) csn rfl ?_) | (go_at_call 67; refine (HFK.out _ hcr).mono ?_; rintro e w5 ⟨g5, G5, c5, rfl, ho5⟩; have b2 := g5.blk b2; have own := g5.row own; have seen := g5.row seen; have hcr := g5.row hcr; have R := R.gr g5; have gg := gg.trans g5; have z5 := g5.size))
            have HO5 := hidI ho5
            have ownp : w5.ownsRow w5.heap.size 3 1 (.slice none 0 0) (posTo Rk 0).length (intsV (posTo Rk 0)) := World.ownsRow_nil _ _ _ _
            have seen0 : w5.ownsRow w.heap.size 4 1 (.slice (some ⟨B4, 0, none⟩) N N) N (pbV N fun i => seenI L i || (decide (i < 0) && decide (0 ≤ gi Rk i))) := by
              rw [pbV_congr (g := seenI L) (fun i _ => by simp)]
              exact seen
            clear seen csn
            go_loopw [10, 44] (fun pv tv wi => ∃ j : Nat, j ≤ N ∧ tv = .int .i64 j ∧ wi.ownsRow w5.heap.size 3 1 pv (posTo Rk j).length (intsV (posTo Rk j)) ∧ wi.ownsRow wo.heap.size 3 1 (.slice (some ⟨G5, 0, none⟩) N c5) N (intsV Rk) ∧ wi.ownsRow w.heap.size 40 1 (.slice p7 L.length k7) L.length vs ∧ RowsK 3 w.heap.size L 1 0 vs wi ∧ wi.ownsRow w.heap.size 4 1 (.slice (some ⟨B4, 0, none⟩) N N) N (pbV N fun i => seenI L i || (decide (i < j) && decide (0 ≤ gi Rk i))) ∧ wi.ownsRow w.heap.size 5 1 (.slice (some ⟨G, 0, none⟩) N cap) N (cellsV g.c) ∧ Blk wi B2 (tg g.w g.h (.slice (some ⟨G, 0, none⟩) N cap)) 57 ∧ Gr w wi ∧ w5.heap.size ≤ wi.heap.size) (fun _ tv _ => N - (intOf tv).toNat)
            case atStart => exact ⟨0, Nat.zero_le _, rfl, ownp, ho5, own, R, seen0, hcr, b2, gg, Nat.le_refl _⟩
            case round =>
              clear ownp ho5 own R seen0 hcr b2 gg
              obtain ⟨j, hj, rfl, ownp, ho5, own, R, seen, hcr, b2, gg, zi⟩ := hrel
              have hle := posTo_le Rk j
              by_cases hjl : j < N
              · obtain ⟨x, hx⟩ : ∃ x, x = gi Rk j := ⟨_, rfl⟩
                have cx := own_int ho5 j hjl HRKL.out.symm
                rw [← hx] at cx
                by_cases h0 : 0 ≤ x
                · have HP := hidI (show posTo Rk j ++ [(j : Int)] = posTo Rk (j + 1) from by rw [posTo, if_pos (by rw [← hx]; exact h0)])
                  have HSE := hidI (show (pbV N fun i => seenI L i || (decide (i < j) && decide (0 ≤ gi Rk i))).set j (.bool true) = pbV N fun i => seenI L i || (decide (i < j + 1) && decide (0 ≤ gi Rk i)) from by
                    rw [pbV_set _ _ _ _ hjl]
                    refine pbV_congr fun i hi => ?_
                    by_cases e : i = j
                    · subst e; rw [if_pos rfl, ← hx]; simp [h0]
                    · rw [if_neg e, show decide (i < j + 1) = decide (i < j) from by rw [decide_eq_decide]; omega])
                  clear hx
                  go_wp2_with (first | (refine r_idx 40 _ _ (.slice (some ⟨G5, 0, none⟩) N c5) (.int .i64 j) _ rfl rfl (Tryd.wix0 G5 N c5 j hjl _) rfl ?_) | (refine r_ldc 3 _ ⟨G5, j, none⟩ (.int .i64 x) rfl (Tryd.isAgg3 _) cx rfl ?_) | (refine r_slice1 40 3 (.tmp 52) (.int .i64 j) rfl (Tryd.bsi1 _ _) rfl ?_; intro w6 B6 N6; have g6 := N6.gr; have ownp := g6.row ownp; have ho5 := g6.row ho5; have own := g6.row own; have R := R.gr g6; have seen := g6.row seen; have hcr := g6.row hcr; have b2 := g6.blk b2; have gg := gg.trans g6; have z6 := g6.size) | (refine r_append (.tmp 51) (.tmp 53) 40 3 _ 1 8 w5.heap.size Tryd.intsI u10 (posTo Rk j).length (intsV (posTo Rk j)) rfl ownp ⟨B6, 0, none⟩ 1 1 [.int .i64 j] rfl rfl N6.cell1 (intsV_one [(j : Int)]) (by omega) (by decide) (by omega) rfl ?_; intro v8 w8 own8 g8; have ho5 := g8.row ho5 (own_apart' HO5.out ownp (Nat.le_refl _)); have own := g8.row own (own_ne2 own ownp (by decide)); have R := rows_grow R HRO.out HVL.out ownp g8 (by omega); have seen := g8.row seen (own_ne2 seen ownp (by decide)); have hcr := g8.row hcr (own_ne2 hcr ownp (by decide)); have b2 := g8.blk b2 (own_ne ownp b2 (by decide)); have gg := g8.gr gg (own_gr ownp (by omega)); have z8 := g8.size) | (refine r_idx 101 _ _ (.slice (some ⟨B4, 0, none⟩) N N) (.int .i64 j) _ rfl rfl (Tryd.pbix B4 N N j hjl _) rfl ?_) | (refine r_store_own 4 4 _ _ B4 j N N _ _ rfl (.bool true) rfl seen hjl Tryd.sizeOf4 rfl rfl ?_; intro w9 u9 seen9))
                  rw [HSE.out] at seen9
                  have own8 := u9.row own8 (own_ne3 own8 seen (by decide) rfl)
                  have ho5 := u9.row ho5 (own_ne3 ho5 seen (by decide) rfl)
                  have own := u9.row own (own_ne3 own seen (by decide) rfl)
                  have R := R.grb seen (by decide) u9.grb
                  have hcr := u9.row hcr (own_ne3 hcr seen (by decide) rfl)
                  have b2 := u9.blk b2 (by omega)
                  have gg := u9.gr gg (by omega)
                  have z9 := u9.size
                  go_roundw
                  case rel => exact ⟨j + 1, by omega, by go_num, by rw [← HP.out, ← intsV_append, List.length_append]; exact own8, ho5, own, R, seen9, hcr, b2, gg, by omega⟩
                  case measure => simp [intOf]; omega
                · have HP := hidI (show posTo Rk j = posTo Rk (j + 1) from by rw [posTo, if_neg (by rw [← hx]; exact h0)])
                  have HSE := hidI (show (pbV N fun i => seenI L i || (decide (i < j) && decide (0 ≤ gi Rk i))) = pbV N fun i => seenI L i || (decide (i < j + 1) && decide (0 ≤ gi Rk i)) from by
                    refine pbV_congr fun i hi => ?_
                    by_cases e : i = j
                    · subst e; rw [← hx]; simp [h0]
                    · rw [show decide (i < j + 1) = decide (i < j) from by rw [decide_eq_decide]; omega])
                  have h1 : x < 0 := by omega
                  clear hx h0
                  go_wp2_with (first | (refine r_idx 40 _ _ (.slice (some ⟨G5, 0, none⟩) N c5) (.int .i64 j) _ rfl rfl (Tryd.wix0 G5 N c5 j hjl _) rfl ?_) | (refine r_ldc 3 _ ⟨G5, j, none⟩ (.int .i64 x) rfl (Tryd.isAgg3 _) cx rfl ?_))
                  go_roundw
                  case rel => exact ⟨j + 1, by omega, by go_num, by rw [← HP.out]; exact ownp, ho5, own, R, by rw [← HSE.out]; exact seen, hcr, b2, gg, zi⟩
                  case measure => simp [intOf]; omega
              · obtain rfl : N = j := by omega
                obtain ⟨pp, np, cp, rfl⟩ := own_slice ownp
                have HSE := hidI (show (pbV N fun i => seenI L i || (decide (i < N) && decide (0 ≤ gi Rk i))) = pbV N (seenI (L ++ [posTo Rk N])) from by
                  refine pbV_congr fun i hi => ?_
                  rw [seenI_snoc, contains_posTo])
                have HBF := hidI (rows_before HRO.out HVL.out ownp (by omega))
                clear hjl
                go_wp2_with (first | (refine r_slice1 33 40 (.tmp 60) (.slice pp np cp) rfl (Tryd.bssi1 _ _ _ _) rfl ?_; intro w8 B8 N8; have g8 := N8.gr; have ownp := g8.row ownp; have own := g8.row own; have R := R.gr g8; have seen := g8.row seen; have hcr := g8.row hcr; have b2 := g8.blk b2; have gg := gg.trans g8; have z8 := g8.size) | (refine r_append (.tmp 59) (.tmp 61) 33 40 _ 1 24 w.heap.size Tryd.intSSI (.slice p7 L.length k7) L.length vs rfl own ⟨B8, 0, none⟩ 1 1 [.slice pp np cp] rfl rfl N8.cell1 (by intro u hu; simp at hu; subst hu; rfl) (by omega) (by decide) (by have := gg.size; omega) rfl ?_; intro v9 w9 own9 g9))
                have hz9 := g9.row ownp (own_ne2 ownp own (by decide))
                have R9 := R.grb own (by decide) g9
                have seen := g9.row seen (own_ne2 seen own (by decide))
                have hcr := g9.row hcr (own_ne2 hcr own (by decide))
                have b29 := g9.blk b2 (own_ne own b2 (by decide))
                have gg9 := g9.gr gg (own_gr own (Nat.le_refl _))
                have R10 := R9.snoc HVL.out (own_up hz9 (show w.heap.size ≤ w5.heap.size from (by omega))) HBF.out
                rw [HSE.out] at seen
                go_roundw
                case rel => exact ⟨k + 1, vs ++ [.slice pp np cp], by omega, by go_num, by rw [HS.out, List.length_append]; exact own9, by rw [HS.out]; exact R10, by rw [HS.out]; exact seen, hcr, b29, gg9⟩
                case measure => simp [intOf]; omega
      · obtain rfl : N = k := by omega
        clear hlt
        go_wp2
        go_ret2
        exact ⟨gg, .slice p7 n7 k7, vs, by rw [HK.out]; rfl, by rw [HV.out]; exact own, by rw [HV.out]; exact R⟩
set_option maxHeartbeats 4000000 in
set_option maxRecDepth 100000 in
theorem lawPartsOf (s : ByteArray) (w : World) (hm : ML w) : Calls Tryd.prog 8 #[.string s] w (Ret (.bool true) w) := by
  have gg := Gr.refl w
  by_cases hs : 1048576 < s.size
  · go_enter Tryd.func8, Tryd.ntmps8
    go_wp2
    go_ret
    exact ⟨rfl, gg⟩
  · have hs' : s.size ≤ 1048576 := by omega
    clear hs
    obtain ⟨hle, htl⟩ := paL_le s.data.toList
    obtain ⟨L, hL⟩ : ∃ L, L = paL s.data.toList := ⟨_, rfl⟩
    obtain ⟨ok, hok⟩ : ∃ ok, ok = rdOk s.data.toList := ⟨_, rfl⟩
    have HL := hidI hL
    have HOK := hidI hok
    rw [← hL] at hle htl
    clear hL hok
    go_enter Tryd.func8, Tryd.ntmps8
    go_wp2_with fail
    refine (sPartsOf s _ hs').mono ?_
    rintro e w1 ⟨g1, v1, us, rfl, own1, R1⟩
    rw [← HL.out] at own1 R1
    have gg := gg.trans g1
    rw [← HOK.out]
    go_wp2_with fail
    refine (iPartsOf s _ (gg.ml hm) hs').mono ?_
    rintro e w2 ⟨g2, v2, vs, rfl, own2, R2⟩
    rw [← HL.out] at own2 R2
    rw [← HOK.out]
    have gg := gg.trans g2
    have lo : w.heap.size ≤ w1.heap.size := g1.size
    have own1' := g2.row own1
    have R1' := R1.gr g2
    go_wp2_with fail
    refine (eqIntSS_any v2 v1 L vs us _ _ 1 _ own2 own1' R2 R1' (by omega) (by omega)).mono ?_
    rintro e w3 ⟨rfl, g3⟩
    have own2 := g3.row own2
    have R2 := R2.gr g3
    have gg := gg.trans g3
    have G03 := g2.trans g3
    go_wp2_with fail
    refine (markIntSS_any v2 L vs _ 1 _ own2 R2 (by omega) (by omega) (by decide)).mono ?_
    rintro e w4 ⟨rfl, own2', R2', hG⟩
    have gg := hG _ gg lo
    have G04 := hG _ G03 (Nat.le_refl _)
    clear hG
    obtain ⟨n, hn⟩ : ∃ n : Nat, n = 1 + total L := ⟨_, rfl⟩
    rw [← hn]
    have HN := hidI hn
    have hn2 : n ≤ 1300 := by omega
    clear hn
    have own2 := own2'
    have R2 := R2'
    clear own2' R2'
    go_wp2_with fail
    refine (heldIntSS_any v2 L vs _ 1 _ own2 R2 (by omega) (by omega) (by decide)).mono ?_
    rintro e w5 ⟨rfl, g5⟩
    rw [← HN.out]
    have own2 := g5.row own2
    have R2 := R2.gr g5
    have G05 := G04.trans g5
    have gg := gg.trans g5
    go_wp2_with fail
    refine (iPartsOf s _ (gg.ml hm) hs').mono ?_
    rintro e w6 ⟨g6, v6, ws, rfl, own6, R6⟩
    rw [← HL.out] at own6 R6
    rw [← HOK.out]
    have gg := gg.trans g6
    have G06 := G05.trans g6
    have own2 := g6.row own2
    have R2 := R2.gr g6
    have own1' := G06.row own1
    have R1' := R1.gr G06
    go_wp2_with fail
    refine (eqIntSS_any v6 v1 L ws us _ _ 1 _ own6 own1' R6 R1' (by omega) (by omega)).mono ?_
    rintro e w7 ⟨rfl, g7⟩
    have own2 := g7.row own2
    have R2 := R2.gr g7
    have gg := gg.trans g7
    go_wp2_with fail
    refine (heldIntSS_any v2 L vs _ 1 _ own2 R2 (by omega) (by omega) (by decide)).mono ?_
    rintro e w8 ⟨rfl, g8⟩
    rw [← HN.out]
    have gg := gg.trans g8
    go_wp2
    go_ret
    exact ⟨rfl, gg⟩
end Go.Proofs.YtoadoeahbekkoaaDoor
