/-
  Whether a list is an order, in the model; its functions and the laws.
-/
import Derived.Test.YtdebiobhmpoiiaaDoorOrdS
import Derived.Test.YtdebiobhmpoiiaaDoorFnE
import Derived.Deep.Cut
namespace Go.Proofs.YtdebiobhmpoiiaaDoor
open Go.RowKit
theorem set_midO (A B : List Int) (y x : Int) : (A ++ y :: B).set A.length x = A ++ x :: B := by
  induction A with
  | nil => rfl
  | cons a A ih => rw [List.cons_append, List.length_cons, List.set_cons_succ, ih]; rfl
def cpO (L : List Int) (k : Nat) : List Int := L.take k ++ List.replicate (L.length - k) 0
theorem cpO_length (L : List Int) {k : Nat} (hk : k ≤ L.length) : (cpO L k).length = L.length := by unfold cpO; rw [List.length_append, List.length_take, List.length_replicate]; omega
theorem cpO_zero (L : List Int) : cpO L 0 = List.replicate L.length 0 := by unfold cpO; simp
theorem cpO_all (L : List Int) : cpO L L.length = L := by unfold cpO; simp
theorem take_giT {L : List Int} {k : Nat} (h : k < L.length) : L.take (k + 1) = L.take k ++ [gi L k] := by
  rw [List.take_succ_eq_append_getElem h]
  unfold gi
  rw [List.getD_eq_getElem?_getD, List.getElem?_eq_getElem h]
  rfl
theorem cpO_set {L : List Int} {k : Nat} (h : k < L.length) : (cpO L k).set k (gi L k) = cpO L (k + 1) := by
  unfold cpO
  obtain ⟨m, hm⟩ : ∃ m, L.length - k = m + 1 := ⟨L.length - k - 1, by omega⟩
  rw [hm, List.replicate_succ, take_giT h, show L.length - (k + 1) = m by omega, List.append_assoc]
  have hl : (L.take k).length = k := by rw [List.length_take]; omega
  conv => lhs; rw [← hl]
  rw [hl]
  have := set_midO (L.take k) (List.replicate m 0) 0 (gi L k)
  rw [hl] at this
  exact this
theorem own_zerosO {w w1 : World} {B n : Nat} {T : TypeId} (N : New w w1 B (madeCells (Value.int .i64 0).cells (n * 1)) T) (hn : n ≤ 1073741824) : w1.ownsRow w.heap.size T 1 (.slice (some ⟨B, 0, none⟩) n n) n (intsV (List.replicate n 0)) := by
  refine ⟨by simp [intsV], .inr ⟨B, n, _, rfl, N.lo, N.blk, Nat.le_refl _, by unfold maxLen; omega, size_madeCells _ _, ?_⟩⟩
  apply List.ext_getElem?
  intro i
  by_cases hi : i < n
  · rw [List.getElem?_take, if_pos (by omega)]
    unfold madeCells intsV
    simp [hi]
    have e : (Value.int .i64 0).cells = #[Value.int .i64 0] := rfl
    rw [e]
    simp [Nat.mod_one]
  · rw [List.getElem?_eq_none (by simp; omega), List.getElem?_eq_none (by simp [intsV]; omega)]
theorem cellsV_setO (c : List UInt8) (i : Nat) (b : UInt8) : (cellsV c).set i (byteV b) = cellsV (c.set i b) := by unfold cellsV; rw [List.map_set]
theorem ne_of2 {a : Option Nat} {b : Nat} (h : a = none ∨ a ≠ some b) : a ≠ some b := h.elim (fun e => by rw [e]; simp) id
theorem urdl_getO : ∀ (d : Nat) (h : d < (⟨#[117, 114, 100, 108]⟩ : ByteArray).size), (⟨#[117, 114, 100, 108]⟩ : ByteArray)[d]'h = dB d
  | 0, _ => rfl
  | 1, _ => rfl
  | 2, _ => rfl
  | 3, _ => rfl
  | d + 4, h => absurd h (by show ¬ d + 4 < 4; omega)
theorem e_addO {P : Program} {w : World} {a : Act} {dst : Option Tmp} {ty : TypeId} {pos : String} {aft : Array Edge} {gd : Option (Nat × Bool)} {T yt : TypeId} (x y : Operand) (s t u : ByteArray) (hx : a.eval x = .string s) (hy : a.eval y = .string t) (hr : (Op.stringOp .add s t).run P w = .ok (.string u) w) :
    (execOp a.eval ⟨dst, .binOp .add T x y yt, ty, pos, aft, gd⟩).run P w = .ok (.value (.string u)) w := by
  unfold execOp
  simp only [hx, hy, eqGuard_add, Sem.run_bind, Sem.run_pure, Result.andThen_ok]
  show ((Op.stringOp .add s t).run P w).andThen _ = _
  rw [hr]
  rfl
theorem add_lastO {P : Program} (w : World) (u : List UInt8) (b : UInt8) (h : u.length ≤ 1000) : (Op.stringOp .add (mkS u) ⟨#[b]⟩ : Sem Value).run P w = .ok (.string (mkS (u ++ [b]))) w := by
  have := run_string_add_sum (P := P) w (mkS u) ⟨#[b]⟩ (by rw [mkS_size]; show u.length + 1 ≤ _; omega)
  rw [this]
  have e : mkS u ++ ⟨#[b]⟩ = mkS (u ++ [b]) := mkS_append u b
  rw [e]
theorem Tryd.ssubO (d : Nat) (h : d < 4) (w : World) : (Instr.sliceAt 9 (.string ⟨#[117, 114, 100, 108]⟩) (some (.int .i64 d)) (some (.int .i64 ((d : Int) + 1))) none).run Tryd.prog w = .ok (.string ⟨#[dB d]⟩) w := by
  have hd : d < (⟨#[117, 114, 100, 108]⟩ : ByteArray).size := h
  rw [← urdl_getO d hd]
  exact Tryd.ssub _ d hd w
set_option maxHeartbeats 4000000 in
set_option maxRecDepth 100000 in
theorem buOrder_any (g : Grid) (L : List Int) (G cap b0 bL : Nat) (sl : Value) (w : World) (F : FormG g) (hL : L.length ≤ 1048576) (hg : w.ownsRow b0 5 1 (.slice (some ⟨G, 0, none⟩) (nn g.w g.h) cap) (nn g.w g.h) (cellsV g.c)) (hown : w.ownsRow bL 3 1 sl L.length (intsV L)) :
    Calls Tryd.prog 42 #[.agg (tg g.w g.h (.slice (some ⟨G, 0, none⟩) (nn g.w g.h) cap)), sl] w (RetOd (orOkG g L) (mkS (orW g.w g.h L L.length)) w) := by
  have gg := Gr.refl w
  have h36 := F.t.n36
  obtain ⟨p, q, rfl⟩ := own_slO hown
  obtain ⟨N, hN⟩ : ∃ N, N = nn g.w g.h := ⟨_, rfl⟩
  have hcl : g.c.length = N := by rw [hN]; exact F.t.len
  have HTY := hidI (fun (c : List UInt8) (hc : c.length = N) => show Ty g.w g.h N c from ⟨F.t.w1, F.t.h1, F.t.w7, F.t.h7, hN, by rw [hN]; exact h36, hc.symm⟩)
  have HTB := hidI (fun w' (ho : w'.ownsRow b0 5 1 (.slice (some ⟨G, 0, none⟩) N cap) N (cellsV g.c)) => show Calls Tryd.prog 73 #[.agg (tg g.w g.h (.slice (some ⟨G, 0, none⟩) N cap))] w' (fun e w'' => Gr w' w'' ∧ ∃ v, e = .returned v ∧ w''.ownsRow w'.heap.size 3 1 v (blO g).length (intsV (blO g))) from by
    have := tyBalls_any g.w g.h b0 g.c G cap w' (by rw [hcl, hN]; exact h36) (by rw [hcl]; exact ho)
    rw [hcl] at this
    unfold blO
    rw [← hN]
    exact this)
  have HTE := hidI (fun w' => show Calls Tryd.prog 74 #[.int .i64 g.w, .int .i64 g.h] w' (RetG 5 g.w g.h (orC N L 0) w') from hN ▸ tyEmpty_any g.w g.h w' h36)
  have HOI := hidI (fun (k : Nat) (h : ∀ i, i < k → orB g.w g.h (blO g) L i = true) => OrI.of F h)
  have HLE := hidI (fun (k : Nat) (hI : OrI g L k) => hI.le F)
  have HAT := hidI (fun (k : Nat) (hI : OrI g L k) hb => hN ▸ hI.at F hb)
  have HMB := hidI (fun (x : Int) (hx : x ∈ blO g) => show ∃ i : Nat, i < N ∧ x = i from by
    obtain ⟨i, hi, e, -⟩ := mem_ballsO.1 hx
    exact ⟨i, by rw [hN]; exact hi, e⟩)
  have HOB := hidI (fun (k : Nat) => show orB g.w g.h (blO g) L k = ((blO g).contains (gi L k) && (decide (k = 0) || canB g.w g.h (orC N L k) (gi L k).toNat)) from by unfold orB; rw [hN])
  have HOL := hidI (fun k => orC_length N L k)
  have HW1 := hidI (fun (k : Nat) (e : k = 0) => show orW g.w g.h L (k + 1) = [] from by rw [orW, if_pos e])
  have HW2 := hidI (fun (k : Nat) (e : k ≠ 0) => show orW g.w g.h L (k + 1) = orW g.w g.h L k ++ [(wyL g.w g.h (orC N L k) (gi L k).toNat 4).headD 0] from by rw [orW, if_neg e, hN])
  have hb36 : (blO g).length ≤ 36 := Nat.le_trans (ballsTo_le _ _ _) h36
  have hN36 : N ≤ 36 := by rw [hN]; exact h36
  obtain ⟨n, hn⟩ : ∃ n, n = L.length := ⟨_, rfl⟩
  have HN := hidI hn
  have HROW := hidI (show w.ownsRow bL 3 1 (.slice p n q) n (intsV L) from by rw [hn]; exact hown)
  rw [← hN] at hg
  have HG := hidI hg
  rw [← hn] at hL
  rw [← hn, ← hN]
  obtain ⟨nb, hnb⟩ : ∃ nb, nb = (blO g).length := ⟨_, rfl⟩
  have HNB := hidI hnb
  rw [← hnb] at hb36
  have hN1 : 1 ≤ N := (HTY.out g.c hcl).pos
  clear hN hn hown hg hcl F h36 hnb
  by_cases hnn : n = nb
  · have e0 : ((n : Int) != (nb : Int)) = false := by rw [hnn]; exact bne_self_eq_false _
    have HYE := hidI (fun (ha : ∀ i, i < n → orB g.w g.h (blO g) L i = true) => or_yes (g := g) (L := L) (by rw [← HN.out]; exact ha) (by rw [← HN.out, ← HNB.out]; exact hnn))
    clear hnn
    go_enter Tryd.func42, Tryd.ntmps42
    go_wp2_with (first | (refine r_box (dst := some 2) 55 _ (tg (g.w) (g.h) (.slice (some ⟨G, 0, none⟩) N cap)) rfl rfl ?_; intro w1 B1 N1; have g1 := N1.gr; have b1 : Blk w1 B1 (tg (g.w) (g.h) (.slice (some ⟨G, 0, none⟩) N cap)) 55 := N1.blk; have l1 := N1.lo; have t1 := N1.hi; have z1 := g1.size; have gg := gg.trans g1; clear N1; obtain ⟨b1_0, b1_1, b1_2⟩ := tcells b1) | (refine r_load_row 55 _ _ rfl _ _ _ b1 Tryd.underlying55 rfl Tryd.tinfo rfl ?_) | (have zp := gg.size; go_at_call 73; refine (HTB.out _ (gg.row HG.out)).mono ?_; rintro e w2 ⟨g2, vb, rfl, ownB⟩; rw [← HNB.out] at ownB; obtain ⟨pb, qb, rfl⟩ := own_slO ownB; have ownB := own_up ownB zp; have b1 := g2.blk b1; obtain ⟨b1_0, b1_1, b1_2⟩ := tcells b1; have gg := gg.trans g2; have z2 := gg.size) | (have zp := gg.size; go_at_call 74; refine (HTE.out _).mono ?_; rintro e w3 ⟨g3, se, rfl, own⟩; have own := own_up own zp; rw [HOL.out] at own; have hone := own_one own; have ownB := g3.row ownB; have gg := gg.trans g3; have z3 := gg.size) | ((refine r_alloc (dst := some 7) 55 _ Tryd.tzero rfl ?_; intro w4 B4 N4; have g4 := N4.gr; have b4 : Blk w4 B4 (tg 0 0 (.slice none 0 0)) 55 := N4.blk; have l4 := N4.lo; have t4 := N4.hi; have z4 := g4.size; have gg := gg.trans g4; clear N4; obtain ⟨b4_0, b4_1, b4_2⟩ := tcells b4); have own := g4.row own; have ownB := g4.row ownB) | (have n4 := own_ne own b4 (by decide); have m4 := own_ne ownB b4 (by decide); (refine r_store_row 55 55 _ _ _ rfl (tg _ _ _) _ rfl b4 Tryd.tsize rfl (tg_one hone) rfl ?_; intro w5 u5 b4'; have z5 := u5.size; have gg := u5.gr gg (by omega); clear b4; have b4 := b4'; clear b4'; obtain ⟨b4_0, b4_1, b4_2⟩ := tcells b4); have own := u5.row own n4; have ownB := u5.row ownB m4))
    obtain ⟨Gn, cn, rfl, loG, hcn⟩ := own_shape own (by omega)
    go_loopw [8, 26] (fun sv iv wr => ∃ k : Nat, k ≤ n ∧ iv = .int .i64 k ∧ sv = .string (mkS (orW g.w g.h L k)) ∧ Hid (∀ i, i < k → orB g.w g.h (blO g) L i = true) ∧ Blk wr B4 (tg g.w g.h (.slice (some ⟨Gn, 0, none⟩) N cn)) 55 ∧ wr.ownsRow w.heap.size 5 1 (.slice (some ⟨Gn, 0, none⟩) N cn) N (cellsV (orC N L k)) ∧ wr.ownsRow w.heap.size 3 1 (.slice pb nb qb) nb (intsV (blO g)) ∧ Gr w wr) (fun _ iv _ => n - (intOf iv).toNat)
    case atStart => exact ⟨0, Nat.zero_le _, rfl, rfl, hidI (fun i hi => absurd hi (Nat.not_lt_zero _)), b4, own, ownB, gg⟩
    case round =>
      clear own ownB gg b4 hone
      obtain ⟨k, hk, rfl, rfl, HA, b4, own, ownB, gg⟩ := hrel
      by_cases hlt : k < n
      · have rowL := gg.row HROW.out
        obtain ⟨GL, cL, eG, -, -⟩ := own_shape rowL (by omega)
        obtain ⟨rfl, rfl⟩ : p = some ⟨GL, 0, none⟩ ∧ q = cL := by
          simp only [Value.slice.injEq] at eG
          exact ⟨eG.1, eG.2.2⟩
        clear eG
        have hck : wr.cell? ⟨GL, k, none⟩ = some (.int .i64 (gi L k)) := (rowL.cellAt k (by omega)).trans (intsV_getO L k (by rw [← HN.out]; exact hlt))
        have HST := hidI (fun (h : orB g.w g.h (blO g) L k = false) => or_stop (g := g) (L := L) (k := k) (by rw [← HN.out]; exact hlt) h)
        have HB := hidI (HOB.out k)
        have HIH := hidI (HOI.out k HA.out)
        have hk36 : k ≤ 36 := by have := HLE.out k HIH.out; rw [← HNB.out] at this; omega
        obtain ⟨x, hx⟩ : ∃ x, x = gi L k := ⟨_, rfl⟩
        have HX := hidI hx
        rw [← hx] at hck HB
        obtain ⟨c, hc⟩ : ∃ c, c = orC N L k := ⟨_, rfl⟩
        have HC := hidI hc
        have HCL := hidI (show c.length = N from by rw [hc]; exact HOL.out k)
        rw [← hc] at own HB
        obtain ⟨ways, hways⟩ : ∃ ways, ways = orW g.w g.h L k := ⟨_, rfl⟩
        have hwl : ways.length ≤ 36 := by rw [hways, orW_length]; omega
        have HWAY := hidI hways
        rw [← hways]
        have HHS := hidI (fun w' (ho : w'.ownsRow w.heap.size 3 1 (.slice pb nb qb) nb (intsV (blO g))) => show Calls Tryd.prog 75 #[.slice pb nb qb, .int .i64 x] w' (Ret (.bool ((blO g).contains x)) w') from by
          rw [HNB.out] at ho ⊢
          exact cbHas_anyX _ (blO g) x w.heap.size w' ho (by rw [← HNB.out]; omega))
        clear hx hc hways rowL
        cases hcon : (blO g).contains x with
        | false =>
          rw [hcon] at HHS HB
          have HV := hidI (HST.out (by rw [HB.out]; rfl))
          clear hcon
          go_wp2_with (first | (refine r_idx 34 _ _ (.slice (some ⟨GL, 0, none⟩) n q) (.int .i64 k) _ rfl rfl (Tryd.nixO GL n q k hlt _) rfl ?_) | (refine r_ldc 3 _ ⟨GL, k, none⟩ (.int .i64 x) rfl (Tryd.isAgg3 _) hck rfl ?_) | (go_at_call 75; refine (HHS.out _ ownB).mono ?_; rintro e w6 ⟨rfl, g6⟩; have gg := gg.trans g6))
          go_ret2
          exact ⟨fin_odN HV.out, gg⟩
        | true =>
          obtain ⟨i, hi, hxi⟩ := HMB.out x (List.contains_iff_mem.1 hcon)
          subst hxi
          rw [hcon] at HHS HB
          clear hcon
          have HB := hidI (show orB g.w g.h (blO g) L k = (decide (k = 0) || canB g.w g.h c i) from HB.out)
          have hgk := fun w => Tryd.six0 Gn N cn i hi w
          by_cases h46 : at0 c i = 46
          · have e1 : (((at0 c i).toNat : Int) == 46) = true := by rw [h46]; rfl
            have HSV := hidI (cellsV_setO c i 111)
            have HSC := hidI (show orC N L (k + 1) = c.set i 111 from by rw [orC, ← HC.out, ← HX.out]; rfl)
            clear h46
            go_upto_region 11 with (first | (refine r_idx 34 _ _ (.slice (some ⟨GL, 0, none⟩) n q) (.int .i64 k) _ rfl rfl (Tryd.nixO GL n q k hlt _) rfl ?_) | (refine r_ldc 3 _ ⟨GL, k, none⟩ (.int .i64 i) rfl (Tryd.isAgg3 _) hck rfl ?_) | (go_at_call 75; refine (HHS.out _ ownB).mono ?_; rintro e w6 ⟨rfl, g6⟩; have own := g6.row own; have ownB := g6.row ownB; have b4 := g6.blk b4; obtain ⟨b4_0, b4_1, b4_2⟩ := tcells b4; have hcc := own_cell own i (by rw [HCL.out]; exact hi) HCL.out.symm; have gg := gg.trans g6; have z6 := gg.size))
            by_cases h0 : k = 0
            · have HS2 := hidI (HW1.out k h0)
              have HWN := hidI (show ways = [] from by rw [HWAY.out, h0]; rfl)
              have HAK := hidI (show ∀ i, i < k + 1 → orB g.w g.h (blO g) L i = true from fun i hi => if h : i < k then HA.out i h else by rw [show i = k by omega, HB.out, decide_eq_true h0]; rfl)
              have hd0 : decide ((0 : Int) < (k : Int)) = false := decide_eq_false (by omega)
              clear h0
              go_wp2_with (first | (refine r_val (.bool false) (e_gtrF _ _ (k : Int) 0 false rfl rfl hd0) rfl ?_) | (refine r_store_own 5 5 _ _ Gn i N cn w.heap.size (cellsV c) rfl (byteV 111) rfl own hi Tryd.sizeOf5 rfl rfl ?_; intro w9 u9 own9; rw [HSV.out] at own9))
              go_roundw
              case rel => exact ⟨k + 1, by omega, by go_num, by rw [HS2.out, HWN.out], HAK, u9.blk b4 (fun e => own_ne own b4 (by decide) (by rw [e]; rfl)), by rw [HSC.out]; exact own9, u9.row ownB (ne_of2 (own_ne2 ownB own (by decide))), u9.gr gg loG⟩
              case measure => simp [intOf]; omega
            · have hd0 : decide ((0 : Int) < (k : Int)) = true := decide_eq_true (by omega)
              have HWY := hidI (fun (b : Nat) w' ho => buWay_any g.w g.h b Gn cn N i c w' (HTY.out c HCL.out) hi ho)
              have HCW := hidI (bwN_can (W := g.w) (H := g.h) (c := c) (i := i))
              have hbl := bwN_le (W := g.w) (H := g.h) (c := c) (i := i)
              have HHD := hidI (show 0 ≤ bwN g.w g.h c i → (wyL g.w g.h c i 4).headD 0 = dB (bwN g.w g.h c i).toNat from fun h => by
                unfold bwN at h ⊢
                by_cases hb : besB g.w g.h c i = true
                · rw [if_pos hb] at h ⊢
                  exact (wy_head h).1
                · rw [if_neg hb] at h
                  exact absurd h (by decide))
              obtain ⟨bw, hbw⟩ : ∃ bw, bw = bwN g.w g.h c i := ⟨_, rfl⟩
              rw [← hbw] at HWY HCW hbl HHD
              clear hbw
              go_upto_region 13 with (first | (refine r_val (.bool true) (e_gtrF _ _ (k : Int) 0 true rfl rfl hd0) rfl ?_) | (refine r_load_row 55 _ _ rfl _ _ _ b4 Tryd.underlying55 rfl Tryd.tinfo rfl ?_) | (go_at_call 76; refine (HWY.out _ _ own).mono ?_; rintro e w7 ⟨rfl, g7⟩; have own := g7.row own; have ownB := g7.row ownB; have b4 := g7.blk b4; obtain ⟨b4_0, b4_1, b4_2⟩ := tcells b4; have gg := gg.trans g7; have z7 := gg.size))
              by_cases hneg : bw < 0
              · have hdn : decide (bw < 0) = true := decide_eq_true hneg
                have HV := hidI (HST.out (by
                  rw [HB.out, decide_eq_false h0, Bool.false_or]
                  cases hcb : canB g.w g.h c i with
                  | false => rfl
                  | true => have := HCW.out.1 hcb; omega))
                clear hneg h0
                go_wp2_with (refine r_val (.bool true) (e_lssF _ _ bw 0 true rfl rfl hdn) rfl ?_)
                go_ret2
                exact ⟨fin_odN HV.out, gg⟩
              · have hdn : decide (bw < 0) = false := decide_eq_false hneg
                obtain ⟨d, rfl⟩ : ∃ d : Nat, bw = d := ⟨bw.toNat, by omega⟩
                have hd4 : d < 4 := by omega
                have HAK := hidI (show ∀ i, i < k + 1 → orB g.w g.h (blO g) L i = true from fun j hj => if h : j < k then HA.out j h else by rw [show j = k by omega, HB.out, HCW.out.2 (by omega), Bool.or_true])
                have HS2 := hidI (show orW g.w g.h L (k + 1) = ways ++ [dB d] from by
                  rw [HW2.out k h0, ← HWAY.out, ← HC.out, ← HX.out]
                  show ways ++ [(wyL g.w g.h c i 4).headD 0] = _
                  rw [HHD.out (by omega)]
                  rfl)
                have HAD := hidI (fun w' => add_lastO (P := Tryd.prog) w' ways (dB d) (by omega))
                have HSB := hidI (fun w' => Tryd.ssubO d hd4 w')
                have hdp : (d : Int) + 1 = (d : Int) + 1 := rfl
                clear hneg h0 hdp
                go_wp2_with (first | (refine r_val (.bool false) (e_lssF _ _ (d : Int) 0 false rfl rfl hdn) rfl ?_) | (go_at_call 61; refine (tiDirs_any _).mono ?_; rintro e wSame ⟨rfl, rfl⟩) | (refine r_val (.string ⟨#[dB d]⟩) (e_val _ _ (HSB.out _)) rfl ?_) | (refine r_val (.string (mkS (ways ++ [dB d]))) (e_addO _ _ (mkS ways) ⟨#[dB d]⟩ _ rfl rfl (HAD.out _)) rfl ?_) | (refine r_store_own 5 5 _ _ Gn i N cn w.heap.size (cellsV c) rfl (byteV 111) rfl own hi Tryd.sizeOf5 rfl rfl ?_; intro w9 u9 own9; rw [HSV.out] at own9))
                go_roundw
                case rel => exact ⟨k + 1, by omega, by go_num, by rw [HS2.out], HAK, u9.blk b4 (fun e => own_ne own b4 (by decide) (by rw [e]; rfl)), by rw [HSC.out]; exact own9, u9.row ownB (ne_of2 (own_ne2 ownB own (by decide))), u9.gr gg loG⟩
                case measure => simp [intOf]; omega
          · have e1 : (((at0 c i).toNat : Int) == 46) = false := by
              rw [beq_eq_false_iff_ne]
              intro e
              exact h46 (UInt8.toNat_inj.1 (by have h35 : (46 : UInt8).toNat = 46 := rfl; omega))
            have HV := hidI (HST.out (by
              cases hb : orB g.w g.h (blO g) L k with
              | false => rfl
              | true =>
                obtain ⟨j, hj, -, -, hj46⟩ := HAT.out k HIH.out hb
                rw [← HX.out] at hj
                have : i = j := by omega
                rw [← this, ← HC.out] at hj46
                exact absurd hj46 h46))
            clear h46
            go_wp2_with (first | (refine r_idx 34 _ _ (.slice (some ⟨GL, 0, none⟩) n q) (.int .i64 k) _ rfl rfl (Tryd.nixO GL n q k hlt _) rfl ?_) | (refine r_ldc 3 _ ⟨GL, k, none⟩ (.int .i64 i) rfl (Tryd.isAgg3 _) hck rfl ?_) | (go_at_call 75; refine (HHS.out _ ownB).mono ?_; rintro e w6 ⟨rfl, g6⟩; have own := g6.row own; have ownB := g6.row ownB; have b4 := g6.blk b4; obtain ⟨b4_0, b4_1, b4_2⟩ := tcells b4; have hcc := own_cell own i (by rw [HCL.out]; exact hi) HCL.out.symm; have gg := gg.trans g6; have z6 := gg.size))
            go_ret2
            exact ⟨fin_odN HV.out, gg⟩
      · obtain rfl : k = n := by omega
        have HV := hidI (HYE.out HA.out)
        clear hlt
        go_wp2
        go_ret2
        exact ⟨fin_odY HV.out rfl, gg⟩
  · have e0 : ((n : Int) != (nb : Int)) = true := by
      rw [bne_iff_ne]
      omega
    have HV := hidI (or_len (g := g) (L := L) (by rw [← HN.out, ← HNB.out]; exact hnn))
    clear hnn
    go_enter Tryd.func42, Tryd.ntmps42
    go_wp2_with (first | (refine r_box (dst := some 2) 55 _ (tg (g.w) (g.h) (.slice (some ⟨G, 0, none⟩) N cap)) rfl rfl ?_; intro w1 B1 N1; have g1 := N1.gr; have b1 : Blk w1 B1 (tg (g.w) (g.h) (.slice (some ⟨G, 0, none⟩) N cap)) 55 := N1.blk; have l1 := N1.lo; have t1 := N1.hi; have z1 := g1.size; have gg := gg.trans g1; clear N1; obtain ⟨b1_0, b1_1, b1_2⟩ := tcells b1) | (refine r_load_row 55 _ _ rfl _ _ _ b1 Tryd.underlying55 rfl Tryd.tinfo rfl ?_) | (have zp := gg.size; go_at_call 73; refine (HTB.out _ (gg.row HG.out)).mono ?_; rintro e w2 ⟨g2, vb, rfl, ownB⟩; rw [← HNB.out] at ownB; obtain ⟨pb, qb, rfl⟩ := own_slO ownB; have gg := gg.trans g2))
    go_ret2
    exact ⟨fin_odN HV.out, gg⟩
set_option maxHeartbeats 1000000 in
set_option maxRecDepth 100000 in
theorem toIntsO_any (p : Option Addr) (c : Nat) (L : List Int) (w : World) (hr : Rd w p L.length (intsV L)) (hl : L.length ≤ 1048576) :
    Calls Tryd.prog 18 #[.slice p L.length c] w fun e w' => Gr w w' ∧ ∃ v, e = .returned v ∧ w'.ownsRow w.heap.size 3 1 v L.length (intsV L) := by
  have gg := Gr.refl w
  have HZ := hidI (cpO_zero L)
  have HE := hidI (cpO_all L)
  have HS := hidI (fun k (hk : k < L.length) => cpO_set hk)
  have HG := hidI (fun k (hk : k < L.length) => intsV_getO L k hk)
  obtain ⟨n, hn⟩ : ∃ n, n = L.length := ⟨_, rfl⟩
  rw [← hn] at hr hl HZ HE HS HG ⊢
  have HR := hidI hr
  have hmk : n * 1 ≤ 16777216 := by omega
  have hby : 8 * n ≤ 281474976710656 := by omega
  clear hn hr
  go_enter Tryd.func18, Tryd.ntmps18
  go_wp2_with (refine r_make 34 3 _ _ _ Tryd.intsI (.tmp 6) (.tmp 6) n rfl rfl hmk hby (by omega) rfl ?_; intro w1 B1 N1; have own1 := own_zerosO N1 (by omega); have g1 := N1.gr; have z1 := g1.size; have gg := gg.trans g1; clear N1)
  rw [← HZ.out] at own1
  go_loopw [4] (fun i wr => ∃ k : Nat, k ≤ n ∧ i = .int .i64 k ∧ wr.ownsRow w.heap.size 3 1 (.slice (some ⟨B1, 0, none⟩) n n) n (intsV (cpO L k)) ∧ Gr w wr) (fun i _ => n - (intOf i).toNat)
  case atStart => exact ⟨0, Nat.zero_le _, rfl, own1, gg⟩
  case round =>
    obtain ⟨k, hk, rfl, own, gg⟩ := hrel
    by_cases hlt : k < n
    · obtain ⟨ad, rfl, hcell⟩ := (HR.out.gr gg).2 (by omega)
      have hc := hcell k (.int .i64 (gi L k)) (HG.out k hlt)
      have HK := hidI (HS.out k hlt)
      clear hcell
      generalize gi L k = x at *
      go_wp2_with (refine r_store_own 3 3 _ _ B1 k n n w.heap.size (intsV (cpO L k)) rfl (.int .i64 x) rfl own hlt Tryd.sizeOf3 rfl rfl ?_; intro w10 u10 own10; rw [intsV_setO, HK.out] at own10)
      go_roundw
      case rel => exact ⟨k + 1, by omega, by go_num, own10, u10.gr gg (own_gr own (Nat.le_refl _) _ rfl)⟩
      case measure => simp [intOf]; omega
    · obtain rfl : k = n := by omega
      rw [HE.out] at own
      clear hlt
      go_wp2
      go_ret
      exact ⟨gg, _, rfl, own⟩
end Go.Proofs.YtdebiobhmpoiiaaDoor
