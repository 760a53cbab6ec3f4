/-
  The sign of a word's permutation: in the program and in the model; and the law.
-/
import Derived.Test.YtbppbbkcampglaaGreatDoorMachC
namespace Go.Proofs.YtbppbbkcampglaaGreatDoor
open Go.RowKit
/-- The sign behind the first j cycles. -/
def sgTo (L : List (List Int)) : Nat → Int
  | 0 => 1
  | j + 1 => if (L.getD j []).length % 2 = 0 then - sgTo L j else sgTo L j
theorem sgTo_cases (L : List (List Int)) (j : Nat) : sgTo L j = 1 ∨ sgTo L j = -1 := by
  induction j with
  | zero => exact .inl rfl
  | succ j ih =>
    unfold sgTo
    split
    · rcases ih with h | h <;> rw [h]
      · exact .inr rfl
      · exact .inl rfl
    · exact ih
def sgI (l : List UInt8) (u : ByteArray) : Int := if cbB l u then sgTo (ciL l u) (ciL l u).length else 0
theorem fin_ib {a b : Int} {x y : Bool} (h1 : a = b) (h2 : x = y) : Ending.returned (.tuple #[.int .i64 a, .bool x]) = .returned (.tuple #[.int .i64 b, .bool y]) := by rw [h1, h2]
set_option maxHeartbeats 2000000 in
set_option maxRecDepth 100000 in
theorem iSignOfWord (s u : ByteArray) (w : World) (hm : ML w) (hs : s.size ≤ 1048576) : Calls Tryz.prog 28 #[.string s, .string u] w (Ret (.tuple #[.int .i64 (sgI s.data.toList u), .bool (cbB s.data.toList u)]) w) := by
  skip
  have gg := Gr.refl w
  have hlt := prN_lt s.data.toList u
  have hle := prN_le s.data.toList u
  have HPZ := hidI (prL_zz s.data.toList u)
  have hcl := (ciL_le s.data.toList u).1
  have hct := (ciL_le s.data.toList u).2
  have HCI := hidI (show zzz (cyL (prN s.data.toList u) (prN s.data.toList u).length) = ciL s.data.toList u from rfl)
  have HNO := hidI (show cbB s.data.toList u = false → sgI s.data.toList u = 0 from fun h => by unfold sgI; rw [h]; rfl)
  have HYE := hidI (show cbB s.data.toList u = true → sgI s.data.toList u = sgTo (ciL s.data.toList u) (ciL s.data.toList u).length from fun h => by unfold sgI; rw [h]; rfl)
  obtain ⟨p, hp⟩ : ∃ p, p = prN s.data.toList u := ⟨_, rfl⟩
  rw [← hp] at hlt hle HPZ HCI
  obtain ⟨L, hL⟩ : ∃ L, L = ciL s.data.toList u := ⟨_, rfl⟩
  rw [← hL] at HCI HYE hcl hct
  have HLT := hidI hlt
  clear hlt hp hL
  go_enter Tryz.func28, Tryz.ntmps28
  go_wp2_with fail
  refine (iPermutationOf s u _ hm hs).mono ?_
  rintro e w1 ⟨g1, v1, rfl, own1⟩
  rw [HPZ.out, zz_length] at own1
  have z1 := g1.size
  have gg := gg.trans g1
  cases hcb : cbB s.data.toList u with
  | false =>
    have HE := hidI (HNO.out hcb)
    have HCB := hidI hcb
    clear hcb
    go_wp2
    go_ret2
    exact ⟨fin_ib HE.out.symm HCB.out.symm, gg⟩
  | true =>
    have HE := hidI (HYE.out hcb)
    have HCB := hidI hcb
    clear hcb
    go_wp2_with fail
    refine (cyclesOf_any p _ v1 _ HLT.out hle own1).mono ?_
    rintro e w2 ⟨g2, v2, vs, rfl, own2, R2⟩
    have gg := gg.trans g2
    rw [HCI.out] at own2 R2
    have z2 := g2.size
    obtain ⟨p2, n2, c2, rfl⟩ := own_slice own2
    obtain rfl : n2 = L.length := own_len own2
    go_wp2
    go_loopw [8, 22] (fun sv iv wr => ∃ j : Nat, j ≤ L.length ∧ iv = .int .i64 j ∧ sv = .int .i64 (sgTo L j) ∧ wr = w2) (fun _ iv _ => L.length - (intOf iv).toNat)
    case atStart => exact ⟨0, Nat.zero_le _, rfl, rfl, rfl⟩
    case round =>
      obtain ⟨j, hj, rfl, rfl, rfl⟩ := hrel
      by_cases hjl : j < L.length
      · obtain ⟨l, hl⟩ : ∃ l, L[j]? = some l := ⟨L[j], List.getElem?_eq_getElem hjl⟩
        obtain ⟨v, hv, ov⟩ := R2.at' j l hl
        rw [if_neg (Nat.not_lt_zero _)] at ov
        obtain ⟨G2, c9, e9, -, -⟩ := own_shape own2 (by omega)
        cases e9
        have cv := own_val own2 j v hjl hv
        have hll := len_le_total hl
        obtain ⟨pv, nv, kv, rfl⟩ := own_slice ov
        obtain rfl : nv = l.length := own_len ov
        obtain ⟨n, hn⟩ : ∃ n, n = l.length := ⟨_, rfl⟩
        rw [← hn] at cv hll
        obtain ⟨r, hr⟩ : ∃ r, r = n % 2 := ⟨_, rfl⟩
        have HRR := hidI (fun (w : World) => show (binOp .rem 3 (.int .i64 (n : Int)) (.int .i64 ((2 : Nat) : Int))).run Tryz.prog w = .ok (.int .i64 (r : Nat)) w from by rw [hr]; exact run_rem _ n 2 (by decide))
        have hgd : L.getD j [] = l := by rw [List.getD_eq_getElem?_getD, hl]; rfl
        have HSG := hidI (show sgTo L (j + 1) = if r = 0 then - sgTo L j else sgTo L j from by rw [sgTo, hgd, ← hn, ← hr])
        have hsc := sgTo_cases L j
        obtain ⟨sg, hsg⟩ : ∃ sg, sg = sgTo L j := ⟨_, rfl⟩
        rw [← hsg] at hsc HSG ⊢
        clear hn hr hl hv ov hgd hsg
        by_cases h0 : r = 0
        · subst h0
          rw [if_pos rfl] at HSG
          rcases hsc with rfl | rfl
          all_goals
            go_wp2_with (first | (refine r_idx 32 _ _ (.slice (some ⟨G2, 0, none⟩) L.length c2) (.int .i64 j) _ rfl rfl (Tryz.ssix G2 L.length c2 j hjl _) rfl ?_) | (refine r_ldc 25 _ ⟨G2, j, none⟩ (.slice pv n kv) rfl (Tryz.isAgg25 _) cv rfl ?_) | (refine r_binC .rem _ _ (.int .i64 n) (.int .i64 2) (.int .i64 ((0 : Nat) : Int)) rfl rfl (fun _ => rfl) (HRR.out _) rfl ?_) | (refine r_eqI _ _ ((0 : Nat) : Int) 0 true rfl rfl rfl rfl ?_))
            go_roundw
            case rel => exact ⟨j + 1, by omega, by go_num, by first | (rw [HSG.out]; done) | (rw [HSG.out]; rfl), trivial⟩
            case measure => simp [intOf]; omega
        · rw [if_neg h0] at HSG
          have hd : decide (((r : Nat) : Int) = 0) = false := decide_eq_false (by omega)
          go_wp2_with (first | (refine r_idx 32 _ _ (.slice (some ⟨G2, 0, none⟩) L.length c2) (.int .i64 j) _ rfl rfl (Tryz.ssix G2 L.length c2 j hjl _) rfl ?_) | (refine r_ldc 25 _ ⟨G2, j, none⟩ (.slice pv n kv) rfl (Tryz.isAgg25 _) cv rfl ?_) | (refine r_binC .rem _ _ (.int .i64 n) (.int .i64 2) (.int .i64 (r : Nat)) rfl rfl (fun _ => rfl) (HRR.out _) rfl ?_) | (refine r_eqI _ _ (r : Nat) 0 false rfl rfl hd rfl ?_))
          go_roundw
          case rel => exact ⟨j + 1, by omega, by go_num, by rw [HSG.out], trivial⟩
          case measure => simp [intOf]; omega
      · obtain rfl : j = L.length := by omega
        clear hjl
        go_wp2
        go_ret2
        exact ⟨fin_ib HE.out.symm HCB.out.symm, gg⟩
set_option maxHeartbeats 2000000 in
set_option maxRecDepth 100000 in
theorem sSignOfWord (s u : ByteArray) (w : World) (hs : s.size ≤ 1048576) : Calls Tryz.prog 27 #[.string s, .string u] w (Ret (.tuple #[.int .i64 (sgI s.data.toList u), .bool (cbB s.data.toList u)]) w) := by
  skip
  have gg := Gr.refl w
  have hlt := prN_lt s.data.toList u
  have hle := prN_le s.data.toList u
  have HPZ := hidI (prL_zz s.data.toList u)
  have hcl := (ciL_le s.data.toList u).1
  have hct := (ciL_le s.data.toList u).2
  have HCI := hidI (show zzz (cyL (prN s.data.toList u) (prN s.data.toList u).length) = ciL s.data.toList u from rfl)
  have HNO := hidI (show cbB s.data.toList u = false → sgI s.data.toList u = 0 from fun h => by unfold sgI; rw [h]; rfl)
  have HYE := hidI (show cbB s.data.toList u = true → sgI s.data.toList u = sgTo (ciL s.data.toList u) (ciL s.data.toList u).length from fun h => by unfold sgI; rw [h]; rfl)
  obtain ⟨p, hp⟩ : ∃ p, p = prN s.data.toList u := ⟨_, rfl⟩
  rw [← hp] at hlt hle HPZ HCI
  obtain ⟨L, hL⟩ : ∃ L, L = ciL s.data.toList u := ⟨_, rfl⟩
  rw [← hL] at HCI HYE hcl hct
  have HLT := hidI hlt
  clear hlt hp hL
  go_enter Tryz.func27, Tryz.ntmps27
  go_wp2_with fail
  refine (mcAsked_any s u _ hs).mono ?_
  rintro e w1 ⟨g1, v1, rfl, own1⟩
  rw [HPZ.out, zz_length] at own1
  have z1 := g1.size
  have gg := gg.trans g1
  cases hcb : cbB s.data.toList u with
  | false =>
    have HE := hidI (HNO.out hcb)
    have HCB := hidI hcb
    clear hcb
    go_wp2
    go_ret2
    exact ⟨fin_ib HE.out.symm HCB.out.symm, gg⟩
  | true =>
    have HE := hidI (HYE.out hcb)
    have HCB := hidI hcb
    clear hcb
    go_wp2_with fail
    refine (mcCycles_any p _ v1 _ HLT.out hle own1).mono ?_
    rintro e w2 ⟨g2, v2, vs, rfl, own2, R2⟩
    have gg := gg.trans g2
    rw [HCI.out] at own2 R2
    have z2 := g2.size
    obtain ⟨p2, n2, c2, rfl⟩ := own_slice own2
    obtain rfl : n2 = L.length := own_len own2
    go_wp2
    go_loopw [8, 22] (fun sv iv wr => ∃ j : Nat, j ≤ L.length ∧ iv = .int .i64 j ∧ sv = .int .i64 (sgTo L j) ∧ wr = w2) (fun _ iv _ => L.length - (intOf iv).toNat)
    case atStart => exact ⟨0, Nat.zero_le _, rfl, rfl, rfl⟩
    case round =>
      obtain ⟨j, hj, rfl, rfl, rfl⟩ := hrel
      by_cases hjl : j < L.length
      · obtain ⟨l, hl⟩ : ∃ l, L[j]? = some l := ⟨L[j], List.getElem?_eq_getElem hjl⟩
        obtain ⟨v, hv, ov⟩ := R2.at' j l hl
        rw [if_neg (Nat.not_lt_zero _)] at ov
        obtain ⟨G2, c9, e9, -, -⟩ := own_shape own2 (by omega)
        cases e9
        have cv := own_val own2 j v hjl hv
        have hll := len_le_total hl
        obtain ⟨pv, nv, kv, rfl⟩ := own_slice ov
        obtain rfl : nv = l.length := own_len ov
        obtain ⟨n, hn⟩ : ∃ n, n = l.length := ⟨_, rfl⟩
        rw [← hn] at cv hll
        obtain ⟨r, hr⟩ : ∃ r, r = n % 2 := ⟨_, rfl⟩
        have HRR := hidI (fun (w : World) => show (binOp .rem 3 (.int .i64 (n : Int)) (.int .i64 ((2 : Nat) : Int))).run Tryz.prog w = .ok (.int .i64 (r : Nat)) w from by rw [hr]; exact run_rem _ n 2 (by decide))
        have hgd : L.getD j [] = l := by rw [List.getD_eq_getElem?_getD, hl]; rfl
        have HSG := hidI (show sgTo L (j + 1) = if r = 0 then - sgTo L j else sgTo L j from by rw [sgTo, hgd, ← hn, ← hr])
        have hsc := sgTo_cases L j
        obtain ⟨sg, hsg⟩ : ∃ sg, sg = sgTo L j := ⟨_, rfl⟩
        rw [← hsg] at hsc HSG ⊢
        clear hn hr hl hv ov hgd hsg
        by_cases h0 : r = 0
        · subst h0
          rw [if_pos rfl] at HSG
          rcases hsc with rfl | rfl
          all_goals
            go_wp2_with (first | (refine r_idx 32 _ _ (.slice (some ⟨G2, 0, none⟩) L.length c2) (.int .i64 j) _ rfl rfl (Tryz.ssix G2 L.length c2 j hjl _) rfl ?_) | (refine r_ldc 25 _ ⟨G2, j, none⟩ (.slice pv n kv) rfl (Tryz.isAgg25 _) cv rfl ?_) | (refine r_binC .rem _ _ (.int .i64 n) (.int .i64 2) (.int .i64 ((0 : Nat) : Int)) rfl rfl (fun _ => rfl) (HRR.out _) rfl ?_) | (refine r_eqI _ _ ((0 : Nat) : Int) 0 true rfl rfl rfl rfl ?_))
            go_roundw
            case rel => exact ⟨j + 1, by omega, by go_num, by first | (rw [HSG.out]; done) | (rw [HSG.out]; rfl), trivial⟩
            case measure => simp [intOf]; omega
        · rw [if_neg h0] at HSG
          have hd : decide (((r : Nat) : Int) = 0) = false := decide_eq_false (by omega)
          go_wp2_with (first | (refine r_idx 32 _ _ (.slice (some ⟨G2, 0, none⟩) L.length c2) (.int .i64 j) _ rfl rfl (Tryz.ssix G2 L.length c2 j hjl _) rfl ?_) | (refine r_ldc 25 _ ⟨G2, j, none⟩ (.slice pv n kv) rfl (Tryz.isAgg25 _) cv rfl ?_) | (refine r_binC .rem _ _ (.int .i64 n) (.int .i64 2) (.int .i64 (r : Nat)) rfl rfl (fun _ => rfl) (HRR.out _) rfl ?_) | (refine r_eqI _ _ (r : Nat) 0 false rfl rfl hd rfl ?_))
          go_roundw
          case rel => exact ⟨j + 1, by omega, by go_num, by rw [HSG.out], trivial⟩
          case measure => simp [intOf]; omega
      · obtain rfl : j = L.length := by omega
        clear hjl
        go_wp2
        go_ret2
        exact ⟨fin_ib HE.out.symm HCB.out.symm, gg⟩
set_option maxHeartbeats 1000000 in
theorem lawSignOfWord (s t : ByteArray) (w : World) (hm : ML w) : Calls Tryz.prog 7 #[.string s, .string t] w (Ret (.bool true) w) := by
  have gg := Gr.refl w
  by_cases hs : 1048576 < s.size
  · go_enter Tryz.func7, Tryz.ntmps7
    go_wp2
    go_ret
    exact ⟨rfl, gg⟩
  · have hs' : s.size ≤ 1048576 := by omega
    clear hs
    by_cases hc : 1048576 < t.size
    · go_enter Tryz.func7, Tryz.ntmps7
      go_wp2
      go_ret
      exact ⟨rfl, gg⟩
    · have hc' : t.size ≤ 1048576 := by omega
      clear hc
      obtain ⟨x, hx⟩ : ∃ x, x = sgI s.data.toList t := ⟨_, rfl⟩
      obtain ⟨y, hy⟩ : ∃ y, y = cbB s.data.toList t := ⟨_, rfl⟩
      have HX := hidI hx
      have HY := hidI hy
      clear hx hy
      go_enter Tryz.func7, Tryz.ntmps7
      go_wp2_with (first | (go_at_call 27; refine (sSignOfWord s t _ hs').mono ?_; rintro e w1 ⟨rfl, g1⟩; rw [← HX.out, ← HY.out]; have z1 := g1.size; have gg := gg.trans g1) | (go_at_call 28; refine (iSignOfWord s t _ (gg.ml hm) hs').mono ?_; rintro e w2 ⟨rfl, g2⟩; rw [← HX.out, ← HY.out]; have z2 := g2.size; have gg := gg.trans g2))
      go_ret
      exact ⟨rfl, gg⟩
end Go.Proofs.YtbppbbkcampglaaGreatDoor
