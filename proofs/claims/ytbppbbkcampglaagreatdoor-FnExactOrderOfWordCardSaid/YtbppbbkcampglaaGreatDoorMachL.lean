/-
  The order of a word: in the model; and the law.
-/
import Derived.Test.YtbppbbkcampglaaGreatDoorMachO
namespace Go.Proofs.YtbppbbkcampglaaGreatDoor
open Go.RowKit
theorem cyl_pos {p : List Nat} (hp : Prm p) : ∀ i, i < (zzz (cyL p p.length)).length → 0 < ((zzz (cyL p p.length)).getD i []).length := by
  obtain ⟨hS, -⟩ := cySt_all hp p.length (Nat.le_refl _)
  intro i hi
  rw [zzz_length] at hi
  obtain ⟨c, l, hc, hl, e, -⟩ := hS.cyc _ (List.getElem_mem hi)
  unfold zzz
  rw [List.getD_eq_getElem?_getD, List.getElem?_map, List.getElem?_eq_getElem hi]
  show 0 < (zz ((cyL p p.length)[i])).length
  rw [zz_length, e, trk_length]
  exact hl
set_option maxHeartbeats 600000 in
set_option maxRecDepth 100000 in
theorem sOrderOfWord (s u : ByteArray) (w : World) (hs : s.size ≤ 1048576) : Calls Tryz.prog 20 #[.string s, .string u] w (Ret (.tuple #[.int .i64 (orI s.data.toList u), .bool (cbB s.data.toList u)]) w) := by
  have gg := Gr.refl w
  have hprm := prN_prm s.data.toList u
  have hle := prN_le s.data.toList u
  have HPZ := hidI (prL_zz s.data.toList u)
  have HNO := hidI (show cbB s.data.toList u = false → orI s.data.toList u = 0 from fun h => by unfold orI; rw [h]; rfl)
  have HYE := hidI (show cbB s.data.toList u = true → orI s.data.toList u = (ordP (prN s.data.toList u) : Nat) from fun h => by unfold orI; rw [h]; rfl)
  obtain ⟨p, hp⟩ : ∃ p, p = prN s.data.toList u := ⟨_, rfl⟩
  rw [← hp] at hprm hle HPZ HYE
  have HLT := hidI hprm.lt
  have HPO := hidI (fun j (hj : j ≤ (zzz (cyL p p.length)).length) => ordTo_pos (cyl_pos hprm) j hj)
  have HLE := hidI (fun j => ordP_le hprm hle j)
  have hcl := cyL_all hprm.lt hle
  have HOP := hidI (show ordTo (zzz (cyL p p.length)) (zzz (cyL p p.length)).length = ordP p from rfl)
  obtain ⟨L, hL⟩ : ∃ L, L = zzz (cyL p p.length) := ⟨_, rfl⟩
  have hLl : L.length ≤ 36 := by rw [hL, zzz_length]; exact hcl.1
  have hLt : total L ≤ 36 := by rw [hL]; exact hcl.2
  have HCI := hidI hL.symm
  rw [← hL] at HPO HLE HOP
  clear hprm hp hcl hL
  go_enter Tryz.func20, Tryz.ntmps20
  go_wp2_with fail
  refine (mcAsked_any s u _ hs).mono ?_
  rintro e w1 ⟨g1, v1, rfl, own1⟩
  rw [HPZ.out, zz_length] at own1
  have z1 := g1.size
  have gg := gg.trans g1
  cases hcb : cbB s.data.toList u with
  | false =>
    have HE := hidI (HNO.out hcb)
    have HCB := hidI hcb
    clear hcb
    go_wp2
    go_ret2
    exact ⟨fin_ib HE.out.symm HCB.out.symm, gg⟩
  | true =>
    have HE := hidI (HYE.out hcb)
    have HCB := hidI hcb
    clear hcb
    go_wp2_with fail
    refine (mcCycles_any p _ v1 _ HLT.out hle own1).mono ?_
    rintro e w2 ⟨g2, v2, vs, rfl, own2, R2⟩
    have gg := gg.trans g2
    rw [HCI.out] at own2 R2
    have z2 := g2.size
    obtain ⟨p2, n2, c2, rfl⟩ := own_slice own2
    obtain rfl : n2 = L.length := own_len own2
    have HO2 := hidI own2
    have HR2 := hidI R2
    have g22 := Gr.refl w2
    clear own2 R2 own1
    go_wp2
    go_loopw [8, 24] (fun ov iv wr => ∃ j : Nat, j ≤ L.length ∧ iv = .int .i64 j ∧ ov = .int .i64 (ordTo L j : Nat) ∧ Gr w wr ∧ Gr w2 wr) (fun _ iv _ => L.length - (intOf iv).toNat)
    case atStart => exact ⟨0, Nat.zero_le _, rfl, rfl, gg, g22⟩
    case round =>
      clear gg g22
      obtain ⟨j, hj, rfl, rfl, gg, g22⟩ := hrel
      by_cases hjl : j < L.length
      · have own2 := g22.row HO2.out
        obtain ⟨l, hl⟩ : ∃ l, L[j]? = some l := ⟨L[j], List.getElem?_eq_getElem hjl⟩
        obtain ⟨v, hv, ov⟩ := HR2.out.at' j l hl
        rw [if_neg (Nat.not_lt_zero _)] at ov
        obtain ⟨G2, c9, e9, -, -⟩ := own_shape own2 (by omega)
        cases e9
        have cv := own_val own2 j v hjl hv
        have hll := len_le_total hl
        obtain ⟨pv, nv, kv, rfl⟩ := own_slice ov
        obtain rfl : nv = l.length := own_len ov
        have hgd : L.getD j [] = l := by rw [List.getD_eq_getElem?_getD, hl]; rfl
        have hop := HPO.out j hj
        have hol := HLE.out j
        have hol2 := HLE.out (j + 1)
        obtain ⟨n, hn⟩ : ∃ n, n = l.length := ⟨_, rfl⟩
        rw [← hn] at cv hll
        obtain ⟨o, ho⟩ : ∃ o, o = ordTo L j := ⟨_, rfl⟩
        have HNX := hidI (show o / Nat.gcd o n * n = ordTo L (j + 1) from by rw [lcm_eq, ho, hn, ordTo, hgd])
        rw [← ho] at hop hol ⊢
        obtain ⟨o2, ho2⟩ : ∃ o2, o2 = ordTo L (j + 1) := ⟨_, rfl⟩
        rw [← ho2] at HNX hol2
        have HO3 := hidI ho2.symm
        have HGP := hidI (show 0 < Nat.gcd o n from Nat.gcd_pos_of_pos_left _ hop)
        have hol : o ≤ 68719476736 := hol
        have hol2 : o2 ≤ 68719476736 := hol2
        clear hn ho ho2 hl hv ov hgd own2
        go_wp2_with (first | (refine r_idx 32 _ _ (.slice (some ⟨G2, 0, none⟩) L.length c2) (.int .i64 j) _ rfl rfl (Tryz.ssix G2 L.length c2 j hjl _) rfl ?_) | (refine r_ldc 25 _ ⟨G2, j, none⟩ (.slice pv n kv) rfl (Tryz.isAgg25 _) cv rfl ?_))
        go_loopw [11, 12] (fun av bv wi => ∃ a b : Nat, av = .int .i64 a ∧ bv = .int .i64 b ∧ a ≤ 68719476736 ∧ b ≤ 68719476736 ∧ Hid (Nat.gcd a b = Nat.gcd o n) ∧ Gr w wi ∧ Gr w2 wi) (fun _ bv _ => (intOf bv).toNat)
        case atStart => exact ⟨o, n, rfl, rfl, hol, by omega, hidI rfl, gg, g22⟩
        case round =>
          clear gg g22
          obtain ⟨a, b, rfl, rfl, ha, hb, HG, gg, g22⟩ := hrel
          by_cases hb0 : 0 < b
          · have HG2 := hidI (show Nat.gcd b (a % b) = Nat.gcd o n from by rw [← HG.out, Nat.gcd_comm b (a % b), ← Nat.gcd_rec, Nat.gcd_comm])
            have hmod := Nat.mod_lt a hb0
            have hd : (0 : Int) < (b : Int) := by omega
            go_wp2
            refine q_whole (by kernel_rfl) (by kernel_rfl) ?_
            refine q_move _ (.int .i64 b) rfl rfl ?_; simp only [Act.put, List.setIfInBounds_toArray, List.set_cons_succ, List.set_cons_zero]
            refine q_move _ (.int .i64 a) rfl rfl ?_; simp only [Act.put, List.setIfInBounds_toArray, List.set_cons_succ, List.set_cons_zero]
            refine q_move _ (.int .i64 b) rfl rfl ?_; simp only [Act.put, List.setIfInBounds_toArray, List.set_cons_succ, List.set_cons_zero]
            refine q_rem _ _ _ _ (a) (b) rfl rfl (hb0) rfl ?_; simp only [Act.put, List.setIfInBounds_toArray, List.set_cons_succ, List.set_cons_zero]
            refine q_assign _ (.int .i64 b) rfl rfl ?_; simp only [Act.put, List.setIfInBounds_toArray, List.set_cons_succ, List.set_cons_zero]
            refine q_assign _ (.int .i64 (a % b : Nat)) rfl rfl ?_; simp only [Act.put, List.setIfInBounds_toArray, List.set_cons_succ, List.set_cons_zero]
            refine wpQuiet_nil ?_; intro w5 g5; have z5 := g5.size; have gg := gg.trans g5
            have g22 := g22.trans g5
            obtain ⟨r, hr⟩ : ∃ r, r = a % b := ⟨_, rfl⟩
            rw [← hr] at HG2 hmod ⊢
            clear hr
            go_wp2
            go_roundw
            case rel => exact ⟨b, r, rfl, rfl, hb, by omega, HG2, gg, g22⟩
            case measure => simp [intOf]; omega
          · obtain rfl : b = 0 := by omega
            have HA := hidI (show a = Nat.gcd o n from by rw [← HG.out, Nat.gcd_zero_right])
            have HA0 := hidI (show 0 < a from by rw [HA.out]; exact HGP.out)
            obtain ⟨q, hq⟩ : ∃ q, q = o / a := ⟨_, rfl⟩
            have HQR := hidI (fun (w : World) => show (binOp .quo 3 (.int .i64 (o : Int)) (.int .i64 (a : Int))).run Tryz.prog w = .ok (.int .i64 (q : Nat)) w from by rw [hq]; exact run_quo _ o a HA0.out (by omega))
            have HMR := hidI (fun (w : World) => show (binOp .mul 3 (.int .i64 (q : Int)) (.int .i64 (n : Int))).run Tryz.prog w = .ok (.int .i64 (o2 : Nat)) w from run_mul _ _ _ _ (by rw [← Int.natCast_mul, hq, HA.out, HNX.out]) (by omega))
            clear hq hb0
            go_wp2_with (first | (refine r_binC .quo _ _ (.int .i64 o) (.int .i64 a) (.int .i64 (q : Nat)) rfl rfl (fun _ => rfl) (HQR.out _) rfl ?_) | (refine r_binC .mul _ _ (.int .i64 q) (.int .i64 n) (.int .i64 (o2 : Nat)) rfl rfl (fun _ => rfl) (HMR.out _) rfl ?_))
            go_roundw
            case rel => exact ⟨j + 1, by omega, by go_num, by rw [HO3.out], gg, g22⟩
            case measure => simp [intOf]; omega
      · obtain rfl : j = L.length := by omega
        clear hjl
        go_wp2
        go_ret2
        exact ⟨fin_ib (by rw [HE.out, HOP.out]) HCB.out.symm, gg⟩
set_option maxHeartbeats 1000000 in
theorem lawOrderOfWord (s t : ByteArray) (w : World) (hm : ML w) : Calls Tryz.prog 5 #[.string s, .string t] w (Ret (.bool true) w) := by
  have gg := Gr.refl w
  by_cases hs : 1048576 < s.size
  · go_enter Tryz.func5, Tryz.ntmps5
    go_wp2
    go_ret
    exact ⟨rfl, gg⟩
  · have hs' : s.size ≤ 1048576 := by omega
    clear hs
    by_cases hc : 1048576 < t.size
    · go_enter Tryz.func5, Tryz.ntmps5
      go_wp2
      go_ret
      exact ⟨rfl, gg⟩
    · have hc' : t.size ≤ 1048576 := by omega
      clear hc
      obtain ⟨x, hx⟩ : ∃ x, x = orI s.data.toList t := ⟨_, rfl⟩
      obtain ⟨y, hy⟩ : ∃ y, y = cbB s.data.toList t := ⟨_, rfl⟩
      have HX := hidI hx
      have HY := hidI hy
      clear hx hy
      go_enter Tryz.func5, Tryz.ntmps5
      go_wp2_with (first | (go_at_call 20; refine (sOrderOfWord s t _ hs').mono ?_; rintro e w1 ⟨rfl, g1⟩; rw [← HX.out, ← HY.out]; have z1 := g1.size; have gg := gg.trans g1) | (go_at_call 21; refine (iOrderOfWord s t _ (gg.ml hm) hs').mono ?_; rintro e w2 ⟨rfl, g2⟩; rw [← HX.out, ← HY.out]; have z2 := g2.size; have gg := gg.trans g2))
      go_ret
      exact ⟨rfl, gg⟩
end Go.Proofs.YtbppbbkcampglaaGreatDoor
