/-
  How many trays a move keeps: the model's cycles of cells.
-/
import Derived.Test.YtmjmjibokombiaaKepT
namespace Go.Proofs.Ytmjmjibokombiaa
open Go.RowKit
theorem rotK_succ (r w h x y : Nat) : rotK (r + 1) (w, h, x, y) = rotK r (h, w, h - 1 - y, x) := rfl
theorem pmM_length (W H k : Nat) : (pmM W H k).length = nn W H := by simp [pmM]
theorem pmM_get {W H k i : Nat} (h : i < nn W H) : (pmM W H k).getD i 0 = toK W H k i := by
  unfold pmM
  rw [List.getD_eq_getElem?_getD, List.getElem?_map, List.getElem?_range h]
  rfl
set_option maxHeartbeats 1000000 in
set_option maxRecDepth 100000 in
theorem cnTo_any (W H k i : Nat) (w : World) (h1 : 1 ≤ W) (hw : W ≤ 7) (hh : H ≤ 7) (hk : k < 8) (hi : i < nn W H) : Calls Try.prog 28 #[.int .i64 W, .int .i64 H, .int .i64 k, .int .i64 i] w (Ret (.int .i64 (toK W H k i : Nat)) w) := by
  have gg := Gr.refl w
  have hi2 : i < W * H := hi
  have hil : i ≤ 49 := by have := Nat.mul_le_mul hw hh; omega
  obtain ⟨V, hV⟩ : ∃ V, V = toK W H k i := ⟨_, rfl⟩
  obtain ⟨x0, hx0⟩ : ∃ x0, x0 = i % W := ⟨_, rfl⟩
  obtain ⟨y0, hy0⟩ : ∃ y0, y0 = i / W := ⟨_, rfl⟩
  have hxw : x0 < W := by rw [hx0]; exact Nat.mod_lt _ (by omega)
  have hyh : y0 < H := by rw [hy0]; exact Nat.div_lt_of_lt_mul hi2
  obtain ⟨r, hr⟩ : ∃ r, r = k % 4 := ⟨_, rfl⟩
  have hr4 : r < 4 := by omega
  have HRR := hidI (fun (w : World) => show (binOp .rem 3 (.int .i64 (k : Int)) (.int .i64 ((4 : Nat) : Int))).run Try.prog w = .ok (.int .i64 (r : Nat)) w from by rw [hr]; exact run_rem _ k 4 (by decide))
  obtain ⟨x1, hx1⟩ : ∃ x1, x1 = W - 1 - x0 := ⟨_, rfl⟩
  obtain ⟨W1, hW1⟩ : ∃ W1, W1 = W - 1 := ⟨_, rfl⟩
  obtain ⟨S, hS⟩ : ∃ S, S = rotK r (W, H, if 4 ≤ k then x1 else x0, y0) := ⟨_, rfl⟩
  have HVS := hidI (show S.2.2.2 * S.1 + S.2.2.1 = V from by rw [hV, hS, hr, hx1, hx0, hy0]; rfl)
  have hW17 : W1 ≤ 7 := by omega
  have hx17 : x1 ≤ 7 := by omega
  have H1 := hidI (show (W : Int) - 1 = (W1 : Int) from by omega)
  have H2 := hidI (show (W1 : Int) - (x0 : Int) = (x1 : Int) from by omega)
  have HX0 := hidI hx0
  have HY0 := hidI hy0
  rw [← hV]
  by_cases h4 : 4 ≤ k
  · have HS := hidI (show rotK r (W, H, x1, y0) = S from by rw [hS, if_pos h4])
    have hx1w : x1 < W := by omega
    clear hV hx0 hy0 hr hx1 hW1 hS hi2
    go_enter Try.func28, Try.ntmps28
    go_wp2
    refine q_whole (by kernel_rfl) (by kernel_rfl) ?_
    refine q_move _ (.int .i64 i) rfl rfl ?_; simp only [Act.put, List.setIfInBounds_toArray, List.set_cons_succ, List.set_cons_zero]
    refine q_move _ (.int .i64 W) rfl rfl ?_; simp only [Act.put, List.setIfInBounds_toArray, List.set_cons_succ, List.set_cons_zero]
    refine q_rem _ _ _ _ (i) (W) rfl rfl (by omega) rfl ?_; simp only [Act.put, List.setIfInBounds_toArray, List.set_cons_succ, List.set_cons_zero]
    rw [← HX0.out]
    refine q_move _ (.int .i64 i) rfl rfl ?_; simp only [Act.put, List.setIfInBounds_toArray, List.set_cons_succ, List.set_cons_zero]
    refine q_move _ (.int .i64 W) rfl rfl ?_; simp only [Act.put, List.setIfInBounds_toArray, List.set_cons_succ, List.set_cons_zero]
    refine q_quo _ _ _ _ (i) (W) rfl rfl (by omega) (by omega) rfl ?_; simp only [Act.put, List.setIfInBounds_toArray, List.set_cons_succ, List.set_cons_zero]
    rw [← HY0.out]
    refine q_assign _ (.int .i64 x0) rfl rfl ?_; simp only [Act.put, List.setIfInBounds_toArray, List.set_cons_succ, List.set_cons_zero]
    refine q_assign _ (.int .i64 y0) rfl rfl ?_; simp only [Act.put, List.setIfInBounds_toArray, List.set_cons_succ, List.set_cons_zero]
    refine wpQuiet_nil ?_; intro w1 g1; have z1 := g1.size; have gg := gg.trans g1
    go_wp2_with (first | (refine r_subN _ _ (W : Int) 1 (W1 : Int) rfl rfl H1.out (by omega) rfl ?_) | (refine r_subN _ _ (W1 : Int) (x0 : Int) (x1 : Int) rfl rfl H2.out (by omega) rfl ?_) | (refine r_binC .rem _ _ (.int .i64 k) (.int .i64 4) (.int .i64 ((r : Nat) : Int)) rfl rfl (fun _ => rfl) (HRR.out _) rfl ?_))
    have gg2 := gg
    go_loopw [0, 1, 9, 10, 11] (fun wv hv xv yv rv wr => ∃ a b x y r : Nat, wv = .int .i64 a ∧ hv = .int .i64 b ∧ xv = .int .i64 x ∧ yv = .int .i64 y ∧ rv = .int .i64 r ∧ Hid (rotK r (a, b, x, y) = S) ∧ x < a ∧ y < b ∧ a ≤ 7 ∧ b ≤ 7 ∧ r ≤ 4 ∧ Gr w wr) (fun _ _ _ _ rv _ => (intOf rv).toNat)
    case atStart => exact ⟨W, H, x1, y0, r, rfl, rfl, rfl, rfl, rfl, HS, by omega, by omega, hw, hh, by omega, gg2⟩
    case round =>
      clear gg gg2
      obtain ⟨a, b, x, y, r, rfl, rfl, rfl, rfl, rfl, HR, hx, hy, ha, hb, hr4, gg⟩ := hrel
      rcases Nat.eq_zero_or_pos r with h0 | h0
      · subst h0
        have hS := HR.out
        have HV := hidI (show y * a + x = V from by rw [← HVS.out, ← hS]; rfl)
        obtain ⟨ya, hya⟩ : ∃ ya, ya = y * a := ⟨_, rfl⟩
        have hyl : y * a ≤ 7 * 7 := Nat.mul_le_mul (by omega) (by omega)
        have HM := hidI (show (y : Int) * (a : Int) = (ya : Int) from by rw [hya, Int.natCast_mul])
        have HA := hidI (show (ya : Int) + (x : Int) = (V : Int) from by rw [← HV.out, ← hya]; simp)
        have hV : V ≤ 100 := by rw [← HV.out]; omega
        have hya49 : ya ≤ 49 := by omega
        clear hS hya hyl
        go_wp2_with (first | (refine r_mulN _ _ (y : Int) (a : Int) (ya : Int) rfl rfl HM.out (by omega) rfl ?_) | (refine r_val (.int .i64 (V : Int)) (e_addK _ _ (ya : Int) (x : Int) (V : Int) rfl rfl HA.out (by omega)) rfl ?_))
        go_ret
        exact ⟨rfl, gg⟩
      · obtain ⟨r, rfl⟩ : ∃ q, r = q + 1 := ⟨r - 1, by omega⟩
        rw [rotK_succ] at HR
        obtain ⟨b1, hb1⟩ : ∃ b1, b1 = b - 1 := ⟨_, rfl⟩
        obtain ⟨xn, hxn⟩ : ∃ xn, xn = b - 1 - y := ⟨_, rfl⟩
        rw [← hxn] at HR
        have hxb : xn < b := by omega
        have H1 := hidI (show (b : Int) - 1 = (b1 : Int) from by omega)
        have H2 := hidI (show (b1 : Int) - (y : Int) = (xn : Int) from by omega)
        have hb17 : b1 ≤ 7 := by omega
        have hr5 : r ≤ 4 := by omega
        have H3 := hidI (show ((r + 1 : Nat) : Int) - 1 = (r : Int) from by omega)
        clear hb1 hxn
        go_wp2_with (first | (refine r_subN _ _ (b : Int) 1 (b1 : Int) rfl rfl H1.out (by omega) rfl ?_) | (refine r_subN _ _ (b1 : Int) (y : Int) (xn : Int) rfl rfl H2.out (by omega) rfl ?_) | (refine r_subN _ _ ((r + 1 : Nat) : Int) 1 (r : Int) rfl rfl H3.out (by omega) rfl ?_))
        go_roundw
        case rel => exact ⟨b, a, xn, x, r, rfl, rfl, rfl, rfl, rfl, HR, hxb, hx, hb, ha, hr5, gg⟩
        case measure => first | (simp [intOf]; done) | (simp [intOf]; omega)
  · have HS := hidI (show rotK r (W, H, x0, y0) = S from by rw [hS, if_neg h4])
    clear hV hx0 hy0 hr hx1 hW1 hS hi2
    go_enter Try.func28, Try.ntmps28
    go_wp2
    refine q_whole (by kernel_rfl) (by kernel_rfl) ?_
    refine q_move _ (.int .i64 i) rfl rfl ?_; simp only [Act.put, List.setIfInBounds_toArray, List.set_cons_succ, List.set_cons_zero]
    refine q_move _ (.int .i64 W) rfl rfl ?_; simp only [Act.put, List.setIfInBounds_toArray, List.set_cons_succ, List.set_cons_zero]
    refine q_rem _ _ _ _ (i) (W) rfl rfl (by omega) rfl ?_; simp only [Act.put, List.setIfInBounds_toArray, List.set_cons_succ, List.set_cons_zero]
    rw [← HX0.out]
    refine q_move _ (.int .i64 i) rfl rfl ?_; simp only [Act.put, List.setIfInBounds_toArray, List.set_cons_succ, List.set_cons_zero]
    refine q_move _ (.int .i64 W) rfl rfl ?_; simp only [Act.put, List.setIfInBounds_toArray, List.set_cons_succ, List.set_cons_zero]
    refine q_quo _ _ _ _ (i) (W) rfl rfl (by omega) (by omega) rfl ?_; simp only [Act.put, List.setIfInBounds_toArray, List.set_cons_succ, List.set_cons_zero]
    rw [← HY0.out]
    refine q_assign _ (.int .i64 x0) rfl rfl ?_; simp only [Act.put, List.setIfInBounds_toArray, List.set_cons_succ, List.set_cons_zero]
    refine q_assign _ (.int .i64 y0) rfl rfl ?_; simp only [Act.put, List.setIfInBounds_toArray, List.set_cons_succ, List.set_cons_zero]
    refine wpQuiet_nil ?_; intro w1 g1; have z1 := g1.size; have gg := gg.trans g1
    go_wp2_with (first | (refine r_binC .rem _ _ (.int .i64 k) (.int .i64 4) (.int .i64 ((r : Nat) : Int)) rfl rfl (fun _ => rfl) (HRR.out _) rfl ?_))
    have gg2 := gg
    go_loopw [0, 1, 9, 10, 11] (fun wv hv xv yv rv wr => ∃ a b x y r : Nat, wv = .int .i64 a ∧ hv = .int .i64 b ∧ xv = .int .i64 x ∧ yv = .int .i64 y ∧ rv = .int .i64 r ∧ Hid (rotK r (a, b, x, y) = S) ∧ x < a ∧ y < b ∧ a ≤ 7 ∧ b ≤ 7 ∧ r ≤ 4 ∧ Gr w wr) (fun _ _ _ _ rv _ => (intOf rv).toNat)
    case atStart => exact ⟨W, H, x0, y0, r, rfl, rfl, rfl, rfl, rfl, HS, by omega, by omega, hw, hh, by omega, gg2⟩
    case round =>
      clear gg gg2
      obtain ⟨a, b, x, y, r, rfl, rfl, rfl, rfl, rfl, HR, hx, hy, ha, hb, hr4, gg⟩ := hrel
      rcases Nat.eq_zero_or_pos r with h0 | h0
      · subst h0
        have hS := HR.out
        have HV := hidI (show y * a + x = V from by rw [← HVS.out, ← hS]; rfl)
        obtain ⟨ya, hya⟩ : ∃ ya, ya = y * a := ⟨_, rfl⟩
        have hyl : y * a ≤ 7 * 7 := Nat.mul_le_mul (by omega) (by omega)
        have HM := hidI (show (y : Int) * (a : Int) = (ya : Int) from by rw [hya, Int.natCast_mul])
        have HA := hidI (show (ya : Int) + (x : Int) = (V : Int) from by rw [← HV.out, ← hya]; simp)
        have hV : V ≤ 100 := by rw [← HV.out]; omega
        have hya49 : ya ≤ 49 := by omega
        clear hS hya hyl
        go_wp2_with (first | (refine r_mulN _ _ (y : Int) (a : Int) (ya : Int) rfl rfl HM.out (by omega) rfl ?_) | (refine r_val (.int .i64 (V : Int)) (e_addK _ _ (ya : Int) (x : Int) (V : Int) rfl rfl HA.out (by omega)) rfl ?_))
        go_ret
        exact ⟨rfl, gg⟩
      · obtain ⟨r, rfl⟩ : ∃ q, r = q + 1 := ⟨r - 1, by omega⟩
        rw [rotK_succ] at HR
        obtain ⟨b1, hb1⟩ : ∃ b1, b1 = b - 1 := ⟨_, rfl⟩
        obtain ⟨xn, hxn⟩ : ∃ xn, xn = b - 1 - y := ⟨_, rfl⟩
        rw [← hxn] at HR
        have hxb : xn < b := by omega
        have H1 := hidI (show (b : Int) - 1 = (b1 : Int) from by omega)
        have H2 := hidI (show (b1 : Int) - (y : Int) = (xn : Int) from by omega)
        have hb17 : b1 ≤ 7 := by omega
        have hr5 : r ≤ 4 := by omega
        have H3 := hidI (show ((r + 1 : Nat) : Int) - 1 = (r : Int) from by omega)
        clear hb1 hxn
        go_wp2_with (first | (refine r_subN _ _ (b : Int) 1 (b1 : Int) rfl rfl H1.out (by omega) rfl ?_) | (refine r_subN _ _ (b1 : Int) (y : Int) (xn : Int) rfl rfl H2.out (by omega) rfl ?_) | (refine r_subN _ _ ((r + 1 : Nat) : Int) 1 (r : Int) rfl rfl H3.out (by omega) rfl ?_))
        go_roundw
        case rel => exact ⟨b, a, xn, x, r, rfl, rfl, rfl, rfl, rfl, HR, hxb, hx, hb, ha, hr5, gg⟩
        case measure => first | (simp [intOf]; done) | (simp [intOf]; omega)
theorem Try.boolK : ElemInfo Try.prog 51 4 (.bool false) 1 1 := ⟨Try.underlying51, by kernel_rfl, rfl, by decide⟩
set_option maxHeartbeats 2000000 in
set_option maxRecDepth 100000 in
theorem cnCycles_any (W H k0 : Nat) (w : World) (hg : PmG W H k0) (h1 : 1 ≤ W) (hw : W ≤ 7) (hh : H ≤ 7) (n36 : nn W H ≤ 36) (hk8 : k0 < 8) :
    Calls Try.prog 21 #[.int .i64 W, .int .i64 H, .int .i64 k0] w fun e w' => Gr w w' ∧ ∃ v, e = .returned v ∧ w'.ownsRow w.heap.size 3 1 v (szs (pmM W H k0)).length (intsV (zz (szs (pmM W H k0)))) := by
  have gg := Gr.refl w
  obtain ⟨p, hp⟩ : ∃ p, p = pmM W H k0 := ⟨_, rfl⟩
  obtain ⟨m, hm⟩ : ∃ m, m = p.length := ⟨_, rfl⟩
  have hmn : m = nn W H := by rw [hm, hp, pmM_length]
  have hlt0 : ∀ i, i < p.length → p.getD i 0 < p.length := fun i hi => by
    have := hg.m (p.getD i 0) (by rw [← hp, List.getD_eq_getElem?_getD, List.getElem?_eq_getElem hi]; exact List.getElem_mem hi)
    omega
  have HLT := hidI (fun i (hi : i < m) => show p.getD i 0 < m from by rw [hm] at hi ⊢; exact hlt0 i hi)
  have HTO := hidI (fun i (hi : i < m) w' => show Calls Try.prog 28 #[.int .i64 W, .int .i64 H, .int .i64 k0, .int .i64 i] w' (Ret (.int .i64 (p.getD i 0 : Nat)) w') from by
    have := cnTo_any W H k0 i w' h1 hw hh hk8 (by omega)
    rw [← pmM_get (by omega), ← hp] at this
    exact this)
  have HM := hidI hm.symm
  have HQI0 := hidI (fun k (hk : k ≤ m) => show CyI m (cyQ p k) from hm ▸ cyQ_inv hlt0 k (hm ▸ hk))
  have HLL0 := hidI (fun k (hk : k ≤ m) => show (cyL p k).length ≤ k from (cyL_le hlt0 k (hm ▸ hk)).1)
  have HEND := hidI (show szs (pmM W H k0) = (cyL p m).map List.length from by unfold szs; rw [← hp, ← hm])
  have HMN := hidI (show (W : Int) * (H : Int) = (m : Int) from by rw [hmn, nn_int])
  have h36 : m ≤ 36 := by omega
  have hmk : m * 1 ≤ 16777216 := by omega
  have hby : 1 * m ≤ 281474976710656 := by omega
  rw [HEND.out]
  clear hp hm hmn hlt0 hg n36 h1 hw hh hk8
  go_enter Try.func21, Try.ntmps21
  go_wp2_with (first | (refine r_mulN _ _ (W : Int) (H : Int) (m : Int) rfl rfl HMN.out (by omega) rfl ?_) | (refine r_make 51 4 _ _ _ Try.boolK (.tmp 14) (.tmp 14) m rfl rfl hmk hby (by omega) rfl ?_; intro w1 B4 N1; have seen := own_flags0 N1 (by omega); have g1 := N1.gr; have lo4 := N1.lo; have z1 := g1.size; have gg := gg.trans g1; clear N1))
  have own0 : w1.ownsRow w.heap.size 3 1 (.slice none 0 0) (cyL p 0).length (intsV (zz ((cyL p 0).map List.length))) := World.ownsRow_nil _ _ _ _
  have seen : w1.ownsRow w.heap.size 4 1 (.slice (some ⟨B4, 0, none⟩) m m) m (flV m (cyQ p 0)) := seen
  go_loopw [7, 18] (fun sv iv wr => ∃ k : Nat, k ≤ m ∧ iv = .int .i64 k ∧ wr.ownsRow w.heap.size 3 1 sv (cyL p k).length (intsV (zz ((cyL p k).map List.length))) ∧ wr.ownsRow w.heap.size 4 1 (.slice (some ⟨B4, 0, none⟩) m m) m (flV m (cyQ p k)) ∧ Gr w wr) (fun _ iv _ => m - (intOf iv).toNat)
  case atStart => exact ⟨0, Nat.zero_le _, rfl, own0, seen, gg⟩
  case round =>
    clear own0 seen gg
    obtain ⟨k, hk, rfl, own, seen, gg⟩ := hrel
    have zo := gg.size
    have hLl := HLL0.out k hk
    by_cases hlt : k < m
    · obtain ⟨L, hL⟩ : ∃ L, L = cyL p k := ⟨_, rfl⟩
      obtain ⟨Q, hQ⟩ : ∃ Q, Q = cyQ p k := ⟨_, rfl⟩
      rw [← hL] at own hLl
      rw [← hQ] at seen
      have HLL := hidI (show (L.map List.length).length = L.length from List.length_map _)
      have HLE := hidI hL.symm
      have HQE := hidI hQ.symm
      have HQI := hidI (show CyI m Q from by rw [hQ]; exact HQI0.out k hk)
      clear hL hQ
      obtain ⟨pv0, nv0, kv0, rfl⟩ := own_slice own
      go_wp2
      have seen0 : wr.ownsRow w.heap.size 4 1 (.slice (some ⟨B4, 0, none⟩) m m) m (flV m (Q ++ [])) := by rw [List.append_nil]; exact seen
      have HI0 := hidI (show CyI m (Q ++ []) from by rw [List.append_nil]; exact HQI.out)
      have HN0 := hidI (show cyN p (Q ++ []) k = cyN p Q k from by rw [List.append_nil])
      go_loopw [10, 11] (fun nv jv wi => ∃ (C : List Nat) (i : Nat), i < m ∧ jv = .int .i64 i ∧ nv = .int .i64 (C.length : Nat) ∧ wi.ownsRow w.heap.size 3 1 (.slice pv0 nv0 kv0) L.length (intsV (zz (L.map List.length))) ∧ wi.ownsRow w.heap.size 4 1 (.slice (some ⟨B4, 0, none⟩) m m) m (flV m (Q ++ C)) ∧ Gr w wi ∧ Hid (CyI m (Q ++ C)) ∧ Hid (cyN p (Q ++ C) i = cyN p Q k) ∧ Hid ((C = [] ∧ i = k) ∨ (C ≠ [] ∧ k ∉ Q))) (fun nv _ _ => m - (intOf nv).toNat)
      case atStart => exact ⟨[], k, hlt, rfl, rfl, own, seen0, gg, HI0, HN0, hidI (.inl ⟨rfl, rfl⟩)⟩
      case round =>
        clear own seen seen0 gg HI0 HN0
        obtain ⟨C, i, hi, rfl, rfl, own, seen, gg, HI, HNI, HCK⟩ := hrel
        have zi := gg.size
        have csn := own_val seen i _ hi (flV_get m (Q ++ C) i hi)
        have hle := HI.out.le
        rw [List.length_append] at hle
        by_cases hin : i ∈ Q ++ C
        · rw [decide_eq_true hin] at csn
          have HQC := hidI (show cyN p Q k = Q ++ C from by rw [← HNI.out, cyN_done hin])
          have HIN := hidI hin
          clear hin
          rcases HCK.out with ⟨eC, eI⟩ | ⟨hC, hkQ⟩
          · subst eC eI
            have hin := HIN.out
            rw [List.append_nil] at hin seen
            have HS := hidI (cyL_skip (p := p) (k := i) (by rw [HQE.out]; exact hin))
            clear hin
            go_wp2_with (first | (refine r_idx 51 _ _ (.slice (some ⟨B4, 0, none⟩) m m) (.int .i64 i) _ rfl rfl (Try.boix7 B4 m m i hi _) rfl ?_) | (refine r_ldc 4 _ ⟨B4, i, none⟩ (.bool true) rfl (Try.isAgg4 _) csn rfl ?_))
            go_roundw
            case rel => exact ⟨i + 1, by omega, by go_num, by rw [HS.out.1, HLE.out]; exact own, by rw [HS.out.2, HQE.out]; exact seen, gg⟩
            case measure => simp [intOf]; omega
          · have HKQ := hidI (show k ∉ cyQ p k from by rw [HQE.out]; exact hkQ)
            have hC0 : 0 < C.length := List.length_pos_iff.2 hC
            have HS := hidI (cyL_add (p := p) (k := k) (T := C) HKQ.out (by rw [HQE.out]; exact HQC.out))
            obtain ⟨nc, hnc⟩ : ∃ nc, nc = C.length := ⟨_, rfl⟩
            have HLS := hidI (show intsV (zz (L.map List.length)) ++ [Value.int .i64 (nc : Nat)] = intsV (zz ((cyL p (k + 1)).map List.length)) from by
              rw [HS.out.1, HLE.out, List.map_append, zz_append, ← intsV_append, hnc]
              rfl)
            have HLN := hidI (show L.length + 1 = (cyL p (k + 1)).length from by
              rw [HS.out.1, HLE.out]
              simp)
            rw [← hnc] at hC0 hle ⊢
            clear hC hkQ hnc
            obtain rfl : nv0 = L.length := own_len own
            go_wp2_with (first | (refine r_idx 51 _ _ (.slice (some ⟨B4, 0, none⟩) m m) (.int .i64 i) _ rfl rfl (Try.boix7 B4 m m i hi _) rfl ?_) | (refine r_ldc 4 _ ⟨B4, i, none⟩ (.bool true) rfl (Try.isAgg4 _) csn rfl ?_) | (refine r_slice1 34 3 (.tmp 40) (.int .i64 nc) rfl (Try.bsiK _ _) rfl ?_; intro wn Bn Nn; have gn := Nn.gr; have own := gn.row own; have seen := gn.row seen; have gg := gg.trans gn; have zn := gn.size; have nse := own_ne2 seen own (by decide)) | (refine r_append (.tmp 39) (.tmp 41) 34 3 _ 1 8 w.heap.size Try.intsK (.slice pv0 L.length kv0) L.length (intsV (zz (L.map List.length))) rfl own ⟨Bn, 0, none⟩ 1 1 [.int .i64 nc] rfl rfl Nn.cell1 (intsV_one [(nc : Int)]) (by omega) (by decide) (by omega) rfl ?_; intro va wa owna ga; have seen := ga.row seen nse; have gg := ga.gr gg (own_gr own (Nat.le_refl _)); rw [HLS.out, HLN.out] at owna))
            go_roundw
            case rel => exact ⟨k + 1, by omega, by go_num, owna, by rw [HS.out.2, HQE.out]; exact seen, gg⟩
            case measure => simp [intOf]; omega
        · rw [decide_eq_false hin] at csn
          have HI2 := hidI (HI.out.add hi hin)
          have hroom := HI.out.room hi hin
          rw [List.length_append] at hroom
          have HTI := hidI (HTO.out i hi)
          obtain ⟨y, hy⟩ : ∃ y, y = p.getD i 0 := ⟨_, rfl⟩
          have hym := HLT.out i hi
          rw [← hy] at hym HTI
          have HN2 := hidI (show cyN p (Q ++ (C ++ [i])) y = cyN p Q k from by
            rw [← HNI.out, hy, ← List.append_assoc]
            exact (cyN_step (by rw [HM.out]; exact HI.out) (by rw [HM.out]; exact hi) hin).symm)
          have HK2 := hidI (show (C ++ [i] = [] ∧ y = k) ∨ (C ++ [i] ≠ [] ∧ k ∉ Q) from .inr ⟨by simp, by
            rcases HCK.out with ⟨e1, e2⟩ | ⟨-, e2⟩
            · subst e1 e2
              rw [List.append_nil] at hin
              exact hin
            · exact e2⟩)
          have HFS := hidI (flV_set m (Q ++ C) i)
          rw [List.append_assoc] at HI2 HFS
          obtain ⟨nc, hnc⟩ : ∃ nc, nc = C.length := ⟨_, rfl⟩
          have HNC := hidI (show (C ++ [i]).length = nc + 1 from by rw [List.length_append, ← hnc]; rfl)
          rw [← hnc] at hle hroom ⊢
          clear hin hy hnc
          go_wp2_with (first | (refine r_idx 51 _ _ (.slice (some ⟨B4, 0, none⟩) m m) (.int .i64 i) _ rfl rfl (Try.boix7 B4 m m i hi _) rfl ?_) | (refine r_ldc 4 _ ⟨B4, i, none⟩ (.bool false) rfl (Try.isAgg4 _) csn rfl ?_) | (refine r_store_own 4 4 _ _ B4 i m m w.heap.size (flV m (Q ++ C)) rfl (.bool true) rfl seen hi Try.sizeOf4 rfl rfl ?_; intro w5 u5 seen5; rw [HFS.out] at seen5; have own := u5.grb.row own (own_ne2 own seen (by decide)); have gg := u5.gr gg lo4; have z5 := u5.size) | (go_at_call 28; refine (HTI.out _).mono ?_; rintro e w6 ⟨rfl, g6⟩; have own := g6.row own; have seen5 := g6.row seen5; have gg := gg.trans g6))
          go_roundw
          case rel => exact ⟨C ++ [i], y, hym, rfl, by rw [HNC.out]; go_num, own, seen5, gg, HI2, HN2, HK2⟩
          case measure => simp [intOf]; omega
    · obtain rfl : k = m := by omega
      clear hlt
      go_wp2
      go_ret
      exact ⟨gg, _, rfl, by rw [List.length_map]; exact own⟩
end Go.Proofs.Ytmjmjibokombiaa
