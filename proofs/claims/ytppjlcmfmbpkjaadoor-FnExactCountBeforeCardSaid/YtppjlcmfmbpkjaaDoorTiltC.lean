/-
  How many trays become this one when they are tilted: in the program and in the model, and the law.
-/
import Derived.Test.YtppjlcmfmbpkjaaDoorTiltY
namespace Go.Proofs.YtppjlcmfmbpkjaaDoor
open Go.RowKit
/-- A number of sets, as both count it. -/
def chT (n : Nat) : Nat → Nat
  | 0 => 1
  | i + 1 => chT n i * (n - i) / (i + 1)
theorem chT_le {n i : Nat} (hn : n ≤ 7) (hi : i ≤ 7) : chT n i ≤ 35 := by
  have h : ∀ a : Fin 8, ∀ b : Fin 8, chT a.val b.val ≤ 35 := by decide
  exact h ⟨n, by omega⟩ ⟨i, by omega⟩
section
variable {P : Program} {w : World} {ops : Array Oper} {rest : List Oper} {a : Act} {Q : Exit → Act → World → Prop} {dst : Option Tmp} {ty : TypeId} {pos : String} {aft : Array Edge} {gd : Option (Nat × Bool)}
theorem e_quo {T yt : TypeId} (x y : Operand) (m n : Nat) (hx : a.eval x = .int .i64 m) (hy : a.eval y = .int .i64 n) (hn : 0 < n) (hm : m ≤ 9223372036854775807) :
    (execOp a.eval ⟨dst, .binOp .quo T x y yt, ty, pos, aft, gd⟩).run P w = .ok (.value (.int .i64 (m / n : Nat))) w := by
  unfold execOp
  simp only [hx, hy, eqGuard_quo, Sem.run_bind, Sem.run_pure, Result.andThen_ok, run_quo T m n hn hm]
end
set_option maxHeartbeats 1000000 in
set_option maxRecDepth 100000 in
theorem countSets_any (n k : Nat) (w : World) (hn : n ≤ 7) (hk : k ≤ n) : Calls Tryd.prog 60 #[.int .i64 n, .int .i64 k] w (Ret (.int .i64 (chT n k : Nat)) w) := by
  have gg := Gr.refl w
  have HCH := hidI (fun i (hi : i ≤ 7) => chT_le hn hi)
  go_enter Tryd.func60, Tryd.ntmps60
  go_wp2
  go_loopw [5, 8] (fun cv iv wr => ∃ i : Nat, i ≤ k ∧ iv = .int .i64 i ∧ cv = .int .i64 (chT n i : Nat) ∧ Gr w wr) (fun _ iv _ => k - (intOf iv).toNat)
  case atStart => exact ⟨0, Nat.zero_le _, rfl, rfl, gg⟩
  case round =>
    obtain ⟨i, hi, rfl, rfl, gg⟩ := hrel
    by_cases hlt : i < k
    · have hc := chT_le hn (show i ≤ 7 by omega)
      have hc' := HCH.out (i + 1) (by omega)
      have HS := hidI (show chT n (i + 1) = chT n i * (n - i) / (i + 1) from rfl)
      obtain ⟨c, hcc⟩ : ∃ c, c = chT n i := ⟨_, rfl⟩
      rw [← hcc] at hc HS ⊢
      have hp : c * (n - i) ≤ 35 * 7 := Nat.mul_le_mul hc (by omega)
      have hpe : (c : Int) * ((n : Int) - (i : Int)) = ((c * (n - i) : Nat) : Int) := by rw [Int.natCast_mul]; congr 1; omega
      obtain ⟨p, hpp⟩ : ∃ p, p = c * (n - i) := ⟨_, rfl⟩
      rw [← hpp] at hp hpe HS
      have hi1 : Value.int .i64 ((i : Int) + 1) = .int .i64 ((i + 1 : Nat) : Int) := by congr 1
      have HI1 := hidI hi1
      have HPE := hidI hpe
      clear hcc hpp hpe hi1
      go_wp2_with (first | (refine r_val (.int .i64 (p : Int)) (e_mul _ _ (c : Int) ((n : Int) - (i : Int)) (p : Int) rfl rfl HPE.out (by omega)) rfl ?_) | (refine r_val (.int .i64 ((p / (i + 1) : Nat) : Int)) (e_quo (.tmp 15) (.tmp 17) p (i + 1) rfl HI1.out (Nat.succ_pos _) (by omega)) rfl ?_))
      go_roundw
      case rel => exact ⟨i + 1, by omega, by go_num, by (rw [HS.out]; exact congrArg _ (Int.natCast_ediv _ _).symm), gg⟩
      case measure => simp [intOf]; omega
    · obtain rfl : i = k := by omega
      clear hlt
      go_wp2
      go_ret
      exact ⟨rfl, gg⟩
set_option maxHeartbeats 1000000 in
set_option maxRecDepth 100000 in
theorem tiChoose_any (n k : Nat) (w : World) (hn : n ≤ 7) (hk : k ≤ n) : Calls Tryd.prog 59 #[.int .i64 n, .int .i64 k] w (Ret (.int .i64 (chT n k : Nat)) w) := by
  have gg := Gr.refl w
  have HCH := hidI (fun i (hi : i ≤ 7) => chT_le hn hi)
  go_enter Tryd.func59, Tryd.ntmps59
  go_wp2
  go_loopw [5, 6] (fun cv iv wr => ∃ i : Nat, i ≤ k ∧ iv = .int .i64 i ∧ cv = .int .i64 (chT n i : Nat) ∧ Gr w wr) (fun _ iv _ => k - (intOf iv).toNat)
  case atStart => exact ⟨0, Nat.zero_le _, rfl, rfl, gg⟩
  case round =>
    obtain ⟨i, hi, rfl, rfl, gg⟩ := hrel
    by_cases hlt : i < k
    · have hc := chT_le hn (show i ≤ 7 by omega)
      have hc' := HCH.out (i + 1) (by omega)
      have HS := hidI (show chT n (i + 1) = chT n i * (n - i) / (i + 1) from rfl)
      obtain ⟨c, hcc⟩ : ∃ c, c = chT n i := ⟨_, rfl⟩
      rw [← hcc] at hc HS ⊢
      have hp : c * (n - i) ≤ 35 * 7 := Nat.mul_le_mul hc (by omega)
      have hpe : (c : Int) * ((n : Int) - (i : Int)) = ((c * (n - i) : Nat) : Int) := by rw [Int.natCast_mul]; congr 1; omega
      obtain ⟨p, hpp⟩ : ∃ p, p = c * (n - i) := ⟨_, rfl⟩
      rw [← hpp] at hp hpe HS
      have hi1 : Value.int .i64 ((i : Int) + 1) = .int .i64 ((i + 1 : Nat) : Int) := by congr 1
      have HI1 := hidI hi1
      have HPE := hidI hpe
      clear hcc hpp hpe hi1
      go_wp2_with (first | (refine r_val (.int .i64 (p : Int)) (e_mul _ _ (c : Int) ((n : Int) - (i : Int)) (p : Int) rfl rfl HPE.out (by omega)) rfl ?_) | (refine r_val (.int .i64 ((p / (i + 1) : Nat) : Int)) (e_quo (.tmp 16) (.tmp 18) p (i + 1) rfl HI1.out (Nat.succ_pos _) (by omega)) rfl ?_))
      go_roundw
      case rel => exact ⟨i + 1, by omega, by go_num, by (rw [HS.out]; exact congrArg _ (Int.natCast_ediv _ _).symm), gg⟩
      case measure => simp [intOf]; omega
    · obtain rfl : i = k := by omega
      clear hlt
      go_wp2
      go_ret
      exact ⟨rfl, gg⟩
set_option maxHeartbeats 2000000 in
set_option maxRecDepth 100000 in
theorem countBalls_any (W H : Int) (base : Nat) (c : List UInt8) (s : List Nat) (sv : Value) (w : World) (hl : ∀ x ∈ s, x < c.length) (hcells : ∀ i, i < c.length → isCellB (at0 c i) = true) (h36 : c.length ≤ 36) (h7 : s.length ≤ 7) (own : w.ownsRow base 3 1 sv s.length (intsV (zz s))) :
    Calls Tryd.prog 61 #[.agg (gv W H c), sv] w (Ret (.int .i64 (nbTo c s s.length : Nat)) w) := by
  have gg := Gr.refl w
  obtain ⟨p1, n1, k1, rfl⟩ := own_slice own
  obtain rfl : n1 = s.length := own_len own
  have HL := hidI hl
  have HC := hidI hcells
  clear hl hcells
  go_enter Tryd.func61, Tryd.ntmps61
  go_wp2_with (refine r_box 53 _ (gv W H c) rfl rfl ?_; intro w1 B1 N1; have g1 := N1.gr; have b1 : Blk w1 B1 (gv W H c) 53 := N1.blk; have l1 := N1.lo; have t1 := N1.hi; have z1 := g1.size; have gg := gg.trans g1; clear N1; obtain ⟨b1_0, b1_1, b1_2⟩ := gcells b1)
  go_loopw [5, 10] (fun cv iv wr => ∃ j : Nat, j ≤ s.length ∧ iv = .int .i64 j ∧ cv = .int .i64 (nbTo c s j : Nat) ∧ Gr w1 wr) (fun _ iv _ => s.length - (intOf iv).toNat)
  case atStart => exact ⟨0, Nat.zero_le _, rfl, rfl, Gr.refl w1⟩
  case round =>
    obtain ⟨j, hj, rfl, rfl, gr⟩ := hrel
    have b1 := gr.blk b1
    have hnb := nbTo_le c s j
    by_cases hlt : j < s.length
    · have own := gr.row (g1.row own)
      obtain ⟨x, hx⟩ : ∃ x, x = s.getD j 0 := ⟨_, rfl⟩
      have hxl := HL.out x (by rw [hx]; exact getD_mem hlt)
      have hx36 : x < 36 := by omega
      obtain ⟨gs, cs, e1, -, -⟩ := own_shape own (by omega)
      cases e1
      have hcs := own_int own j hlt (zz_length s).symm
      rw [zz_get hlt, ← hx] at hcs
      have hcg := (gcells b1).2.2 x hx36
      have hix := Tryd.gix B1 x hx36
      have hbl := ball_cell (HC.out x hxl)
      by_cases hb : isBallB (at0 c x) = true
      · have HS := hidI (show nbTo c s (j + 1) = nbTo c s j + 1 from by rw [nbTo, if_pos (by rw [← hx]; exact hb)])
        have HB := hidI (hbl.trans hb)
        clear hb hbl hx
        go_wp2_with (go_at_call 91; refine (isBall_any _ _).mono ?_; rintro e wSame ⟨rfl, rfl⟩; rw [HB.out])
        go_roundw
        case rel => exact ⟨j + 1, by omega, by go_num, by (rw [HS.out]; go_num), gr⟩
        case measure => simp [intOf]; omega
      · have HS := hidI (show nbTo c s (j + 1) = nbTo c s j from by rw [nbTo, if_neg (by rw [← hx]; exact hb)]; rfl)
        have HB := hidI (hbl.trans (by simpa using hb : isBallB (at0 c x) = false))
        clear hb hbl hx
        go_wp2_with (go_at_call 91; refine (isBall_any _ _).mono ?_; rintro e wSame ⟨rfl, rfl⟩; rw [HB.out])
        go_roundw
        case rel => exact ⟨j + 1, by omega, by go_num, by rw [HS.out], gr⟩
        case measure => simp [intOf]; omega
    · obtain rfl : j = s.length := by omega
      clear hlt
      go_wp2
      go_ret
      exact ⟨rfl, gg.trans gr⟩
/-- The product over the first k stretches, as the machine multiplies. -/
def prTo (c : List UInt8) (L : List (List Nat)) : Nat → Int
  | 0 => 1
  | k + 1 => wrap64 (prTo c L k * ((chT (L.getD k []).length (nbTo c (L.getD k []) (L.getD k []).length) : Nat) : Int))
theorem prTo_succ {c : List UInt8} {L : List (List Nat)} {k : Nat} {s : List Nat} (h : L[k]? = some s) : prTo c L (k + 1) = wrap64 (prTo c L k * ((chT s.length (nbTo c s s.length) : Nat) : Int)) := by
  have e : L.getD k [] = s := by rw [List.getD_eq_getElem?_getD, h]; rfl
  rw [prTo, e]
def cbN (l : List UInt8) (dir : ByteArray) : Int := if dtOk l dir then (if sameB (rdG l) (tiltG (dS dir).toNat (rdG l)) then prTo (rdG l).c (strL (rdG l).w (rdG l).h (rdG l).c (dS dir).toNat) (strL (rdG l).w (rdG l).h (rdG l).c (dS dir).toNat).length else 0) else 0
theorem cb_no {l : List UInt8} {dir : ByteArray} (h : dtOk l dir = false) : cbN l dir = 0 := by unfold cbN; rw [h]; rfl
theorem cb_yes {l : List UInt8} {dir : ByteArray} {g : Grid} {d : Nat} (hy : dtOk l dir = true) (hg : rdG l = g) (hd : dS dir = (d : Nat)) : cbN l dir = if sameB g (tiltG d g) then prTo g.c (strL g.w g.h g.c d) (strL g.w g.h g.c d).length else 0 := by unfold cbN; rw [hy, hg, hd]; rfl
theorem dS_of {d : Nat} (h : d < 4) : dS ⟨#[dB d]⟩ = (d : Nat) := by
  rcases dB_cases h with ⟨rfl, e⟩ | ⟨rfl, e⟩ | ⟨rfl, e⟩ | ⟨rfl, e⟩ <;> rfl
theorem fin_ib {a b : Int} {x y : Bool} (h1 : a = b) (h2 : x = y) : Ending.returned (.tuple #[.int .i64 a, .bool x]) = .returned (.tuple #[.int .i64 b, .bool y]) := by rw [h1, h2]
set_option maxHeartbeats 4000000 in
set_option maxRecDepth 100000 in
theorem iCountBefore (s dir : ByteArray) (w : World) (hm : ML w) (hs : s.size ≤ 1048576) : Calls Tryd.prog 32 #[.string s, .string dir] w (Ret (.tuple #[.int .i64 (cbN s.data.toList dir), .bool (dtOk s.data.toList dir)]) w) := by
  have gg := Gr.refl w
  rcases dt_cases s.data.toList dir with hn | ⟨g, d, hp, hg, hk, h4, e1, e2, hdo, hy⟩
  · have HV := hidI (cb_no hn)
    have HN := hidI hn
    clear hn
    go_enter Tryd.func32, Tryd.ntmps32
    go_wp2_with (first | (go_at_call 45; refine (readTilt_no s dir _ (gg.ml hm) hs HN.out).mono ?_; rintro e w1 ⟨rfl, g1⟩; have z1 := g1.size; have gg := gg.trans g1) | (refine r_alloc 53 _ Tryd.gzero rfl ?_; intro w2 B2 N2; have g2 := N2.gr; have b2 : Blk w2 B2 (gv 0 0 []) 53 := N2.blk; have l2 := N2.lo; have t2 := N2.hi; have z2 := g2.size; have gg := gg.trans g2; clear N2; obtain ⟨b2_0, b2_1, b2_2⟩ := gcells b2) | (refine r_store_row 53 53 _ _ _ rfl (gv 0 0 []) _ rfl b2 (Tryd.gsize' _ _ _) (by simp only [gv_size]) (gv_one _ _ _) rfl ?_; intro w3 u3 b2'; have z3 := u3.size; have gg := u3.gr gg (by omega); clear b2; have b2 := b2'; clear b2'; obtain ⟨b2_0, b2_1, b2_2⟩ := gcells b2))
    go_ret2
    exact ⟨fin_ib HV.out.symm HN.out.symm, gg⟩
  · obtain ⟨hc, w1', h1', hl⟩ := cel_of hp
    have HC := hidI hc
    have HY := hidI hy
    have hv := cb_yes hy hg e2
    have HRT := hidI (fun w (hm : ML w) => readTilt_yes s dir g d w hm hs hg hk e1 hdo)
    have HIS := hidI (fun w => isStill_any g d w hc h4)
    have w7 := hc.w7
    have h7 := hc.h7
    have n36 := hc.n36
    have hlen := hc.len
    have h36 : g.c.length ≤ 36 := by omega
    have HS := hidI (hc.strs h4)
    obtain ⟨L, hL⟩ : ∃ L, L = strL g.w g.h g.c d := ⟨_, rfl⟩
    rw [← hL] at hv HS
    have HL := hidI hL
    have hsm := HS.out.small
    cases hst : sameB g (tiltG d g)
    · rw [hst] at hv HIS
      have HV := hidI (show cbN s.data.toList dir = 0 from hv)
      clear hp hg hk e1 e2 hdo hc hl hy hv hst hlen hL
      go_enter Tryd.func32, Tryd.ntmps32
      go_wp2_with (first | (go_at_call 45; refine (HRT.out _ (gg.ml hm)).mono ?_; rintro e w1 ⟨rfl, g1⟩; have z1 := g1.size; have gg := gg.trans g1) | (refine r_alloc 53 _ Tryd.gzero rfl ?_; intro w2 B2 N2; have g2 := N2.gr; have b2 : Blk w2 B2 (gv 0 0 []) 53 := N2.blk; have l2 := N2.lo; have t2 := N2.hi; have z2 := g2.size; have gg := gg.trans g2; clear N2; obtain ⟨b2_0, b2_1, b2_2⟩ := gcells b2) | (refine r_store_row 53 53 _ _ _ rfl (gv g.w g.h g.c) _ rfl b2 (Tryd.gsize' _ _ _) (by simp only [gv_size]) (gv_one _ _ _) rfl ?_; intro w3 u3 b2'; have z3 := u3.size; have gg := u3.gr gg (by omega); clear b2; have b2 := b2'; clear b2'; obtain ⟨b2_0, b2_1, b2_2⟩ := gcells b2) | (refine r_load_row 53 _ _ rfl _ _ _ b2 Tryd.underlying53 rfl (Tryd.ginfo' _ _ _) rfl ?_) | (go_at_call 55; refine (HIS.out _).mono ?_; rintro e w4 ⟨rfl, g4⟩; have z4 := g4.size; have gg := gg.trans g4))
      go_ret2
      exact ⟨fin_ib HV.out.symm HY.out.symm, gg⟩
    · rw [hst] at hv HIS
      have HV := hidI (show cbN s.data.toList dir = prTo g.c L L.length from hv)
      clear hp hg hk e1 e2 hdo hc hl hy hv hst hlen hL
      go_enter Tryd.func32, Tryd.ntmps32
      go_wp2_with (first | (go_at_call 45; refine (HRT.out _ (gg.ml hm)).mono ?_; rintro e w1 ⟨rfl, g1⟩; have z1 := g1.size; have gg := gg.trans g1) | (refine r_alloc 53 _ Tryd.gzero rfl ?_; intro w2 B2 N2; have g2 := N2.gr; have b2 : Blk w2 B2 (gv 0 0 []) 53 := N2.blk; have l2 := N2.lo; have t2 := N2.hi; have z2 := g2.size; have gg := gg.trans g2; clear N2; obtain ⟨b2_0, b2_1, b2_2⟩ := gcells b2) | (refine r_store_row 53 53 _ _ _ rfl (gv g.w g.h g.c) _ rfl b2 (Tryd.gsize' _ _ _) (by simp only [gv_size]) (gv_one _ _ _) rfl ?_; intro w3 u3 b2'; have z3 := u3.size; have gg := u3.gr gg (by omega); clear b2; have b2 := b2'; clear b2'; obtain ⟨b2_0, b2_1, b2_2⟩ := gcells b2) | (refine r_load_row 53 _ _ rfl _ _ _ b2 Tryd.underlying53 rfl (Tryd.ginfo' _ _ _) rfl ?_) | (go_at_call 55; refine (HIS.out _).mono ?_; rintro e w4 ⟨rfl, g4⟩; have z4 := g4.size; have b2 := g4.blk b2; obtain ⟨b2_0, b2_1, b2_2⟩ := gcells b2; have gg := gg.trans g4))
      refine (stretches_any g.w g.h d g.c _ h4 w7 h7 n36 HC.out.len HC.out.cells).mono ?_
      rintro e w5 ⟨g5, v5, vs, rfl, own, R⟩
      rw [← HL.out] at own R
      rw [zzz_length] at own
      obtain ⟨p5, n5, k5, rfl⟩ := own_slice own
      obtain rfl : n5 = L.length := own_len own
      have b2 := g5.blk b2
      have gg := gg.trans g5
      go_wp2
      go_loopw [9, 29] (fun cv iv wr => ∃ k : Nat, k ≤ L.length ∧ iv = .int .i64 k ∧ cv = .int .i64 (prTo g.c L k) ∧ Gr w5 wr) (fun _ iv _ => L.length - (intOf iv).toNat)
      case atStart => exact ⟨0, Nat.zero_le _, rfl, rfl, Gr.refl w5⟩
      case round =>
        obtain ⟨k, hk, rfl, rfl, gr⟩ := hrel
        have b2 := gr.blk b2
        have gg := gg.trans gr
        by_cases hlt : k < L.length
        · obtain ⟨st, hst⟩ : ∃ st, L[k]? = some st := ⟨L[k], List.getElem?_eq_getElem hlt⟩
          obtain ⟨v, hv, ov⟩ := R.get hst
          have own := gr.row own
          have ov := gr.row ov
          obtain ⟨g1', c1', e1', -, -⟩ := own_shape own (by omega)
          cases e1'
          have hcv := own_val own k v hlt hv
          have hsm' := List.mem_of_getElem? hst
          obtain ⟨hs1, hs7⟩ := HS.out.len7 st hsm'
          have HLT := hidI (fun x hx => (HS.out.str st hsm').lt x hx)
          have hnb := nbTo_le g.c st st.length
          have HPR := hidI (prTo_succ (c := g.c) hst)
          obtain ⟨pv, nv, kv, rfl⟩ := own_slice ov
          obtain rfl : nv = st.length := own_len ov
          have hix := Tryd.ssix g1' L.length k5 k hlt
          have OV := hidI ov
          clear hst hv ov hsm'
          generalize prTo g.c L k = y at *
          go_wp2_with (first | (refine r_load_row 53 _ _ rfl _ _ _ b2 Tryd.underlying53 rfl (Tryd.ginfo' _ _ _) rfl ?_) | (go_at_call 61; refine (countBalls_any g.w g.h _ g.c st _ _ HLT.out HC.out.cells h36 hs7 OV.out).mono ?_; rintro e w6 ⟨rfl, g6⟩; have z6 := g6.size; have gg := gg.trans g6) | (go_at_call 60; refine (countSets_any st.length _ _ hs7 hnb).mono ?_; rintro e w7 ⟨rfl, g7⟩; have z7 := g7.size; have gg := gg.trans g7))
          go_roundw
          case rel => exact ⟨k + 1, by omega, by go_num, by rw [HPR.out], (gr.trans g6).trans g7⟩
          case measure => simp [intOf]; omega
        · obtain rfl : k = L.length := by omega
          clear hlt
          go_wp2
          go_ret2
          exact ⟨fin_ib HV.out.symm HY.out.symm, gg⟩
set_option maxHeartbeats 4000000 in
set_option maxRecDepth 100000 in
theorem sCountBefore (s dir : ByteArray) (w : World) (hs : s.size ≤ 1048576) : Calls Tryd.prog 31 #[.string s, .string dir] w (Ret (.tuple #[.int .i64 (cbN s.data.toList dir), .bool (dtOk s.data.toList dir)]) w) := by
  have gg := Gr.refl w
  go_enter Tryd.func31, Tryd.ntmps31
  go_wp2_with fail
  refine (tiRead_any s dir _ hs).mono ?_
  rintro e w1 ⟨g1, ⟨hn, W, H, sl, x, hone, rfl⟩ | ⟨g, sl, d, hp, h4, e1, hy, rfl, hown⟩⟩
  · have HV := hidI (cb_no hn)
    have HN := hidI hn
    have gg := gg.trans g1
    have z1 := g1.size
    clear hn
    go_wp2_with (first | (refine r_alloc 46 _ Tryd.tzero rfl ?_; intro w2 B2 N2; have g2 := N2.gr; have b2 : Blk w2 B2 (tg 0 0 (.slice none 0 0)) 46 := N2.blk; have l2 := N2.lo; have t2 := N2.hi; have z2 := g2.size; have gg := gg.trans g2; clear N2; obtain ⟨b2_0, b2_1, b2_2⟩ := tcells b2) | (refine r_store_row 46 46 _ _ _ rfl (tg _ _ _) _ rfl b2 Tryd.tsize rfl (tg_one hone) rfl ?_; intro w3 u3 b2'; have z3 := u3.size; have gg := u3.gr gg (by omega); clear b2; have b2 := b2'; clear b2'; obtain ⟨b2_0, b2_1, b2_2⟩ := tcells b2))
    go_ret2
    exact ⟨fin_ib HV.out.symm HN.out.symm, gg⟩
  · obtain ⟨hc, w1', h1', hl⟩ := cel_of hp
    have HY := hidI hy
    have HC := hidI hc
    have hone := own_one hown
    have hct := hc.tilt h4
    have w7 := hc.w7
    have h7 := hc.h7
    have n36 := hc.n36
    have hlen := hc.len
    have h36 : g.c.length ≤ 36 := by omega
    have hv := cb_yes hy (rd_parse_some hp).1 (by rw [e1]; exact dS_of h4)
    have hst := same_txt hc hct w1' h1' w1' h1'
    rw [← txt_of hp] at hst
    have HTL := hidI (show (tiltG d g).c.length = nn g.w g.h from hct.len)
    have HS := hidI (hc.strs h4)
    obtain ⟨L, hL⟩ : ∃ L, L = strL g.w g.h g.c d := ⟨_, rfl⟩
    rw [← hL] at hv HS
    have HL := hidI hL
    have hsm := HS.out.small
    have gg := gg.trans g1
    have z1 := g1.size
    have hq : ((txtB g.w g.h (tiltG d g).c).toList == s.toList) = sameB g (tiltG d g) := by
      rw [eql_bool, hst, Bool.eq_iff_iff, decide_eq_true_eq, decide_eq_true_eq]
      exact ⟨Eq.symm, Eq.symm⟩
    clear hp e1 hc hy hct hst hL hlen
    cases hsb : sameB g (tiltG d g)
    all_goals
      rw [hsb] at hq hv
      go_wp2_with (first | (refine r_alloc 46 _ Tryd.tzero rfl ?_; intro w2 B2 N2; have g2 := N2.gr; have b2 : Blk w2 B2 (tg 0 0 (.slice none 0 0)) 46 := N2.blk; have l2 := N2.lo; have t2 := N2.hi; have z2 := g2.size; have gg := gg.trans g2; clear N2; obtain ⟨b2_0, b2_1, b2_2⟩ := tcells b2) | (refine r_store_row 46 46 _ _ _ rfl (tg _ _ _) _ rfl b2 Tryd.tsize rfl (tg_one hone) rfl ?_; intro w3 u3 b2'; have z3 := u3.size; have gg := u3.gr gg (by omega); clear b2; have b2 := b2'; clear b2'; obtain ⟨b2_0, b2_1, b2_2⟩ := tcells b2) | (refine r_load_row 46 _ _ rfl _ _ _ b2 Tryd.underlying46 rfl Tryd.tinfo rfl ?_))
      have own0 := u3.row (g2.row hown) (own_new hown l2)
      refine (tiTilt_any g w.heap.size d sl _ HC.out h4 hl own0).mono ?_
      rintro e w4 ⟨g4, s4, rfl, own4⟩
      have gg := gg.trans g4
      have b2 := g4.blk b2
      have own0 := g4.row own0
      clear hsb
    · have HV := hidI (show cbN s.data.toList dir = 0 from hv)
      clear hv
      go_wp2_with (go_at_call 43; refine (tyText_n g.w g.h _ _ (tiltG d g).c _ _ w1' h1' w7 h7 n36 HTL.out rfl own4).mono ?_; rintro e w5 ⟨rfl, g5⟩; have z5 := g5.size; have gg := gg.trans g5)
      go_ret2
      exact ⟨fin_ib HV.out.symm HY.out.symm, gg⟩
    · have HV := hidI (show cbN s.data.toList dir = prTo g.c L L.length from hv)
      clear hv
      obtain ⟨G, cap, rfl, -, -⟩ := own_shape own0 hl
      go_wp2_with (first | (go_at_call 43; refine (tyText_n g.w g.h _ _ (tiltG d g).c _ _ w1' h1' w7 h7 n36 HTL.out rfl own4).mono ?_; rintro e w5 ⟨rfl, g5⟩; have z5 := g5.size; have b2 := g5.blk b2; obtain ⟨b2_0, b2_1, b2_2⟩ := tcells b2; have gg := gg.trans g5) | (refine r_load_row 46 _ _ rfl _ _ _ b2 Tryd.underlying46 rfl Tryd.tinfo rfl ?_))
      have own0 := g5.row own0
      refine (tiStretches_any g.w g.h w.heap.size d g.c G cap _ h4 w7 h7 h36 HC.out.len HC.out.cells own0).mono ?_
      rintro e w6 ⟨g6, v6, vs, rfl, own, R⟩
      rw [← HL.out] at own R
      rw [zzz_length] at own
      obtain ⟨p6, n6, k6, rfl⟩ := own_slice own
      obtain rfl : n6 = L.length := own_len own
      have b2 := g6.blk b2
      have own0 := g6.row own0
      have gg := gg.trans g6
      go_wp2
      go_loopw [9, 34] (fun cv iv wr => ∃ k : Nat, k ≤ L.length ∧ iv = .int .i64 k ∧ cv = .int .i64 (prTo g.c L k) ∧ Gr w6 wr) (fun _ iv _ => L.length - (intOf iv).toNat)
      case atStart => exact ⟨0, Nat.zero_le _, rfl, rfl, Gr.refl w6⟩
      case round =>
        obtain ⟨k, hk, rfl, rfl, gr⟩ := hrel
        have b2 := gr.blk b2
        have own0 := gr.row own0
        have gg := gg.trans gr
        by_cases hlt : k < L.length
        · obtain ⟨st, hst⟩ : ∃ st, L[k]? = some st := ⟨L[k], List.getElem?_eq_getElem hlt⟩
          obtain ⟨v, hv, ov⟩ := R.get hst
          have own := gr.row own
          have ov := gr.row ov
          obtain ⟨g1', c1', e1', -, -⟩ := own_shape own (by omega)
          cases e1'
          have hcv := own_val own k v hlt hv
          have hsm' := List.mem_of_getElem? hst
          obtain ⟨hs1, hs7⟩ := HS.out.len7 st hsm'
          have HLT := hidI (fun x hx => (HS.out.str st hsm').lt x hx)
          have hnb := nbTo_le g.c st st.length
          have HPR := hidI (prTo_succ (c := g.c) hst)
          obtain ⟨gs, cs, rfl, -, -⟩ := own_shape ov hs1
          have hix := Tryd.ssix g1' L.length k6 k hlt
          clear hst hv hsm'
          generalize prTo g.c L k = y at *
          go_wp2
          obtain ⟨wo, hwo⟩ : ∃ wo, wo = wr := ⟨_, rfl⟩
          rw [← hwo] at gr b2 own0 gg own ov hcv
          have gq : Gr wo wr := by rw [hwo]; exact Gr.refl _
          go_loopw [12, 40] (fun nv jv wi => ∃ j : Nat, j ≤ st.length ∧ jv = .int .i64 j ∧ nv = .int .i64 (nbTo g.c st j : Nat) ∧ Gr wo wi) (fun _ jv _ => st.length - (intOf jv).toNat)
          case atStart => exact ⟨0, Nat.zero_le _, rfl, rfl, gq⟩
          case round =>
            obtain ⟨j, hj, rfl, rfl, gi⟩ := hrel
            have hnj := nbTo_le g.c st j
            have b2 := gi.blk b2
            by_cases hlj : j < st.length
            · obtain ⟨x, hx⟩ : ∃ x, x = st.getD j 0 := ⟨_, rfl⟩
              have hcs := own_int (gi.row ov) j hlj (zz_length st).symm
              rw [zz_get hlj, ← hx] at hcs
              have hxl := HLT.out x (by rw [hx]; exact getD_mem hlj)
              have hcx := own_cell (gi.row own0) x hxl rfl
              have hix := Tryd.six0 G g.c.length cap x hxl
              obtain ⟨b2_0, b2_1, b2_2⟩ := tcells b2
              by_cases hb : isBallB (at0 g.c x) = true
              · have HN := hidI (show nbTo g.c st (j + 1) = nbTo g.c st j + 1 from by rw [nbTo, if_pos (by rw [← hx]; exact hb)])
                have HB := hidI hb
                clear hb hx
                go_wp2_with (go_at_call 58; refine (tyBall_any _ _).mono ?_; rintro e wSame ⟨rfl, rfl⟩; rw [HB.out])
                go_roundw
                case rel => exact ⟨j + 1, by omega, by go_num, by (rw [HN.out]; go_num), gi⟩
                case measure => simp [intOf]; omega
              · have HN := hidI (show nbTo g.c st (j + 1) = nbTo g.c st j from by rw [nbTo, if_neg (by rw [← hx]; exact hb)]; rfl)
                have HB := hidI (show isBallB (at0 g.c x) = false from by simpa using hb)
                clear hb hx
                go_wp2_with (go_at_call 58; refine (tyBall_any _ _).mono ?_; rintro e wSame ⟨rfl, rfl⟩; rw [HB.out])
                go_roundw
                case rel => exact ⟨j + 1, by omega, by go_num, by rw [HN.out], gi⟩
                case measure => simp [intOf]; omega
            · obtain rfl : j = st.length := by omega
              clear hlj
              have gg := gg.trans gi
              go_wp2_with (go_at_call 59; refine (tiChoose_any st.length _ _ hs7 hnb).mono ?_; rintro e w7 ⟨rfl, g7⟩; have z7 := g7.size; have gg := gg.trans g7)
              go_roundw
              case rel => exact ⟨k + 1, by omega, by go_num, by rw [HPR.out], (gr.trans gi).trans g7⟩
              case measure => simp [intOf]; omega
        · obtain rfl : k = L.length := by omega
          clear hlt
          go_wp2
          go_ret2
          exact ⟨fin_ib HV.out.symm HY.out.symm, gg⟩
set_option maxHeartbeats 1000000 in
theorem lawCountBefore (s t : ByteArray) (w : World) (hm : ML w) : Calls Tryd.prog 10 #[.string s, .string t] w (Ret (.bool true) w) := by
  have gg := Gr.refl w
  by_cases hs : 1048576 < s.size
  · go_enter Tryd.func10, Tryd.ntmps10
    go_wp2
    go_ret
    exact ⟨rfl, gg⟩
  · have hs' : s.size ≤ 1048576 := by omega
    clear hs
    by_cases hc : 1048576 < t.size
    · go_enter Tryd.func10, Tryd.ntmps10
      go_wp2
      go_ret
      exact ⟨rfl, gg⟩
    · have hc' : t.size ≤ 1048576 := by omega
      clear hc
      go_enter Tryd.func10, Tryd.ntmps10
      go_wp2_with (first | (go_at_call 31; refine (sCountBefore s t _ hs').mono ?_; rintro e w1 ⟨rfl, g1⟩; have z1 := g1.size; have gg := gg.trans g1) | (go_at_call 32; refine (iCountBefore s t _ (gg.ml hm) hs').mono ?_; rintro e w2 ⟨rfl, g2⟩; have z2 := g2.size; have gg := gg.trans g2))
      go_ret
      exact ⟨rfl, gg⟩
end Go.Proofs.YtppjlcmfmbpkjaaDoor
