/-
  IsReversible: both sides and the law.
-/
import Derived.Test.YtcjmikafomlbiaaGreatDoorGateL
import Derived.Test.YtcjmikafomlbiaaGreatDoorGateM
namespace Go.Proofs.YtcjmikafomlbiaaGreatDoor
open Go.RowKit
/-- Are the numbers of the table different? -/
def rvB (l : List UInt8) (I O : List Int) (u : ByteArray) : Bool := gtOk l I O u && decide ((gtL l I O u).Nodup)
theorem gt_small (l : List UInt8) (I O : List Int) (u : ByteArray) {k : Nat} (hk : k < (gtL l I O u).length) : ∃ m : Nat, m < 8 ∧ gi (gtL l I O u) k = (m : Int) := by
  cases h : gtOk l I O u
  · rw [gtL_no h] at hk; exact absurd hk (Nat.not_lt_zero _)
  · rw [gtL_yes rfl h, tabL_length] at hk
    rw [gtL_yes rfl h]
    unfold gtOk at h
    simp only [Bool.and_eq_true] at h
    have h2 := h.1.2
    unfold mcIn at h2
    simp only [Bool.and_eq_true] at h2
    have h3 := (adB_len h2.1.1.2).2
    refine ⟨gtF (rdG l) I O u k, ?_, ?_⟩
    · have h4 := otN_lt (runG (wds u) ⟨(rdG l).w, (rdG l).h, mtTo (rdG l).c (cellOf I) I.length k I.length⟩).c O O.length
      have h5 : (2 : Nat) ^ O.length ≤ 2 ^ 3 := Nat.pow_le_pow_right (by decide) h3
      unfold gtF
      omega
    · unfold gi tabL
      rw [List.getD_eq_getElem?_getD, List.getElem?_map, List.getElem?_range hk]
      rfl
theorem wf_small {m : Nat} (h : m < 8) : (Lit.int .i64 (m : Int)).wf = true := by
  rcases (show m = 0 ∨ m = 1 ∨ m = 2 ∨ m = 3 ∨ m = 4 ∨ m = 5 ∨ m = 6 ∨ m = 7 by omega) with h | h | h | h | h | h | h | h <;> subst h <;> decide
set_option maxHeartbeats 1000000 in
set_option maxRecDepth 100000 in
theorem iIsReversible (s u : ByteArray) (I O : List Int) (bI bO : Nat) (slI slO : Value) (w : World) (hm : ML w) (hs : s.size ≤ 1048576) (hI : w.ownsRow bI 3 1 slI I.length (intsV I)) (hO : w.ownsRow bO 3 1 slO O.length (intsV O))
    (wI : ∀ k, k < I.length → (Lit.int .i64 (gi I k)).wf = true) (wO : ∀ k, k < O.length → (Lit.int .i64 (gi O k)).wf = true) :
    Calls Tryz.prog 15 #[.string s, slI, slO, .string u] w (Ret (.tuple #[.bool (rvB s.data.toList I O u), .bool (gtOk s.data.toList I O u)]) w) := by
  have gg := Gr.refl w
  have HG := hidI (iGateTable s u I O bI bO slI slO w hm hs hI hO wI wO)
  have hle := gtL_le s.data.toList I O u
  have hwf : ∀ k, k < (gtL s.data.toList I O u).length → (Lit.int .i64 (gi (gtL s.data.toList I O u) k)).wf = true := fun k hk => by
    obtain ⟨m, h1, h2⟩ := gt_small s.data.toList I O u hk
    rw [h2]; exact wf_small h1
  have HCD := hidI (fun (w0 : World) (v : Value) (h : w0.ownsRow w.heap.size 3 1 v (gtL s.data.toList I O u).length (intsV (gtL s.data.toList I O u))) => countDiff_any (gtL s.data.toList I O u) w.heap.size v w0 (by omega) h hwf)
  have hnd := cdT_nodup (gtL s.data.toList I O u) (gtL s.data.toList I O u).length (Nat.le_refl _)
  rw [List.take_of_length_le (Nat.le_refl _)] at hnd
  have HRV := hidI (show rvB s.data.toList I O u = (gtOk s.data.toList I O u && decide ((gtL s.data.toList I O u).Nodup)) from rfl)
  obtain ⟨L, hL⟩ : ∃ L, L = gtL s.data.toList I O u := ⟨_, rfl⟩
  rw [← hL] at HG HCD hnd HRV hle
  obtain ⟨ok, hok⟩ : ∃ ok, ok = gtOk s.data.toList I O u := ⟨_, rfl⟩
  rw [← hok] at HG HRV ⊢
  rw [HRV.out]
  obtain ⟨d, hd⟩ : ∃ d, d = cdT L L.length := ⟨_, rfl⟩
  rw [← hd] at HCD hnd
  have hd8 : d ≤ 8 := by have := cdT_le L L.length; omega
  obtain ⟨n, hn⟩ : ∃ n, n = L.length := ⟨_, rfl⟩
  have HN := hidI hn
  have hn8 : n ≤ 8 := by omega
  rw [← hn] at hnd
  obtain ⟨b, hb⟩ : ∃ b, b = decide L.Nodup := ⟨_, rfl⟩
  have e0 : ((d : Int) == (n : Int)) = b := by
    rw [hb, Bool.eq_iff_iff, beq_iff_eq, decide_eq_true_eq, ← hnd]
    omega
  rw [← hb]
  clear hb hnd hd hL hok hwf wI wO hle hI hO HRV hn
  go_enter Tryz.func15, Tryz.ntmps15
  cases ok
  · go_wp2_with fail
    refine (HG.out).mono ?_
    rintro e w1 ⟨g1, v1, rfl, own1⟩
    have gg := gg.trans g1
    go_wp2_with fail
    go_ret2
    exact ⟨rfl, gg⟩
  · go_wp2_with fail
    refine (HG.out).mono ?_
    rintro e w1 ⟨g1, v1, rfl, own1⟩
    have gg := gg.trans g1
    have HC1 := hidI (HCD.out w1 v1 own1)
    rw [← HN.out] at own1
    obtain ⟨p1, k1, rfl⟩ := own_sliceN own1
    go_wp2_with (go_at_call 28; refine (HC1.out).mono ?_; rintro e w2 ⟨rfl, g2⟩; have gg := gg.trans g2)
    go_ret2
    exact ⟨rfl, gg⟩
set_option maxHeartbeats 1000000 in
set_option maxRecDepth 100000 in
theorem sIsReversible (s u : ByteArray) (I O : List Int) (bI bO : Nat) (slI slO : Value) (w : World) (hs : s.size ≤ 1048576) (hI : w.ownsRow bI 3 1 slI I.length (intsV I)) (hO : w.ownsRow bO 3 1 slO O.length (intsV O)) :
    Calls Tryz.prog 14 #[.string s, slI, slO, .string u] w (Ret (.tuple #[.bool (rvB s.data.toList I O u), .bool (gtOk s.data.toList I O u)]) w) := by
  have gg := Gr.refl w
  have oneI := own_one hI
  have oneO := own_one hO
  go_enter Tryz.func14, Tryz.ntmps14
  go_wp2_with fail
  refine (mcGate_any s u I O bI bO slI slO _ hs hI hO).mono ?_
  rintro e w1 ⟨g1, ⟨hn, W0, H0, sl, hone, rfl⟩ | ⟨g, sl, hp, hin, hu, hy, rfl, hown⟩⟩
  · have HR := hidI (show rvB s.data.toList I O u = false from by unfold rvB; rw [hn]; rfl)
    have HC := hidI hn
    have z1 := g1.size
    have gg := gg.trans g1
    clear hn
    go_wp2_with (first | (refine r_alloc (dst := some 10) 36 _ Tryz.tzero rfl ?_; intro w2 B2 N2; have g2 := N2.gr; have b2 : Blk w2 B2 (tg 0 0 (.slice none 0 0)) 36 := N2.blk; have l2 := N2.lo; have t2 := N2.hi; have z2 := g2.size; have gg := gg.trans g2; clear N2; obtain ⟨b2_0, b2_1, b2_2⟩ := tcells b2) | (refine r_store_row 36 36 _ _ _ rfl (tg _ _ _) _ rfl b2 Tryz.tsize rfl (tg_one hone) rfl ?_; intro w3 u3 b2'; have z3 := u3.size; have gg := u3.gr gg (by omega); clear b2; have b2 := b2'; clear b2'; obtain ⟨b2_0, b2_1, b2_2⟩ := tcells b2))
    go_ret2
    exact ⟨by rw [HR.out, HC.out]; rfl, gg⟩
  · obtain ⟨hc, -, -, hl⟩ := cel_of hp
    have HC := hidI hy
    have HR := hidI (show rvB s.data.toList I O u = decide ((gtL s.data.toList I O u).Nodup) from by unfold rvB; rw [hy]; rfl)
    have HV := hidI (gtL_yes (rd_parse_some hp).1 hy)
    have hpos : 0 < (2 : Nat) ^ I.length := Nat.pow_pos (by decide)
    have hle := gtL_le s.data.toList I O u
    have hone := own_one hown
    have z1 := g1.size
    have hI := g1.row hI
    have hO := g1.row hO
    have gg := gg.trans g1
    obtain ⟨G0, cap, rfl, -, -⟩ := own_shape hown hl
    have HT := hidI (fun (w0 : World) (h1 : w0.ownsRow w.heap.size 5 1 (.slice (some ⟨G0, 0, none⟩) g.c.length cap) g.c.length (cellsV g.c)) (h2 : w0.ownsRow bI 3 1 slI I.length (intsV I)) (h3 : w0.ownsRow bO 3 1 slO O.length (intsV O)) => mcTable_any g I O u w.heap.size bI bO G0 cap slI slO w0 hc hl hu hin h1 h2 h3)
    clear hy hp hin hu hc hl
    go_wp2_with (first | ((refine r_alloc (dst := some 10) 36 _ Tryz.tzero rfl ?_; intro w2 B2 N2; have g2 := N2.gr; have b2 : Blk w2 B2 (tg 0 0 (.slice none 0 0)) 36 := N2.blk; have l2 := N2.lo; have t2 := N2.hi; have z2 := g2.size; have gg := gg.trans g2; clear N2; obtain ⟨b2_0, b2_1, b2_2⟩ := tcells b2); have hI := g2.row hI; have hO := g2.row hO; have hown := g2.row hown) | (have nI := own_ne hI b2 (by decide); have nO := own_ne hO b2 (by decide); have nW := own_ne hown b2 (by decide); (refine r_store_row 36 36 _ _ _ rfl (tg _ _ _) _ rfl b2 Tryz.tsize rfl (tg_one hone) rfl ?_; intro w3 u3 b2'; have z3 := u3.size; have gg := u3.gr gg (by omega); clear b2; have b2 := b2'; clear b2'; obtain ⟨b2_0, b2_1, b2_2⟩ := tcells b2); have hown := u3.row hown nW; have hI := u3.row hI nI; have hO := u3.row hO nO) | (refine r_load_row 36 _ _ rfl _ _ _ b2 Tryz.underlying36 rfl Tryz.tinfo rfl ?_))
    refine (HT.out _ hown hI hO).mono ?_
    rintro e w4 ⟨g4, v4, rfl, own4⟩
    have z3 := gg.size
    have gg := gg.trans g4
    obtain ⟨L, hL⟩ : ∃ L, L = gtL s.data.toList I O u := ⟨_, rfl⟩
    have hlen : (2 : Nat) ^ I.length = L.length := by rw [hL, HV.out, tabL_length]
    have own5 : w4.ownsRow w.heap.size 3 1 v4 L.length (intsV L) := by rw [← hlen, hL, HV.out]; exact own_up own4 z3
    rw [← hL] at HR hle
    obtain ⟨b, hb⟩ : ∃ b, b = decide L.Nodup := ⟨_, rfl⟩
    rw [← hb] at HR
    have HB := hidI hb
    clear hb
    have HND := hidI (nodup_hs L)
    obtain ⟨N, hN⟩ : ∃ N, N = L.length := ⟨_, rfl⟩
    have HN := hidI hN
    rw [← hN] at own5 hle
    have hN1 : 0 < N := by omega
    obtain ⟨G, k4, rfl, -, hk4⟩ := own_shape own5 hN1
    skip
    have HCUT := hidI (fun k (hk : k ≤ N) (w' : World) (o : w'.ownsRow w.heap.size 3 1 (.slice (some ⟨G, 0, none⟩) N k4) N (intsV L)) (x : Int) => show Calls Tryz.prog 27 #[.slice (some ⟨G, 0, none⟩) k k4, .int .i64 x] w' (Ret (.bool (hsIn (L.take k) x)) w') from by
      have hl : (L.take k).length = k := by rw [List.length_take]; omega
      have o2 := own_cutG o hk
      have o3 : w'.ownsRow w.heap.size 3 1 (.slice (some ⟨G, 0, none⟩) (L.take k).length k4) (L.take k).length (intsV (L.take k)) := by rw [hl]; exact o2
      have := hsHas_any _ (L.take k) x w.heap.size w' o3 (by omega)
      rwa [hl] at this)
    have HINT := hidI (fun k (hk : k < N) (w' : World) (o : w'.ownsRow w.heap.size 3 1 (.slice (some ⟨G, 0, none⟩) N k4) N (intsV L)) => own_int o k hk hN)
    clear hown hI hO own4 hN hL hlen HT hpos
    have gr := gg
    clear gg
    go_wp2
    go_loopw [32] (fun iv wr => ∃ k : Nat, k ≤ N ∧ iv = .int .i64 k ∧ wr.ownsRow w.heap.size 3 1 (.slice (some ⟨G, 0, none⟩) N k4) N (intsV L) ∧ Hid (∀ j, j < k → hsIn (L.take j) (gi L j) = false) ∧ Gr w wr) (fun iv _ => N - (intOf iv).toNat)
    case atStart => exact ⟨0, Nat.zero_le _, rfl, own5, hidI (fun j hj => absurd hj (Nat.not_lt_zero _)), gr⟩
    case round =>
      clear own5 gr
      obtain ⟨k, hk, rfl, own5, HA, gr⟩ := hrel
      by_cases hlt : k < N
      · have hcell := HINT.out k hlt _ own5
        have HH := hidI (HCUT.out k hk _ own5 (gi L k))
        have hics := Tryz.icutG G N k4 k (by omega)
        obtain ⟨x, hx⟩ : ∃ x, x = gi L k := ⟨_, rfl⟩
        rw [← hx] at hcell HH
        have HX := hidI hx
        clear hx
        cases hh : hsIn (L.take k) x
        · rw [hh] at HH
          have HHA := hidI (show ∀ j, j < k + 1 → hsIn (L.take j) (gi L j) = false from fun j hj => if h : j < k then HA.out j h else by rw [show j = k by omega, ← HX.out]; exact hh)
          clear hh
          go_wp2_with (first | (refine r_idx 22 _ _ (.slice (some ⟨G, 0, none⟩) N k4) (.int .i64 k) _ rfl rfl (Tryz.nsix G N k4 k hlt _) rfl ?_) | (refine r_ldc 3 _ ⟨G, k, none⟩ (.int .i64 x) rfl (Tryz.isAgg3 _) hcell rfl ?_) | (go_at_call 27; refine (HH.out).mono ?_; rintro e w5 ⟨rfl, g5⟩; have gr := gr.trans g5; have own5 := g5.row own5))
          go_roundw
          case rel => exact ⟨k + 1, by omega, by go_num, own5, HHA, gr⟩
          case measure => simp [intOf]; omega
        · rw [hh] at HH
          have HNO := hidI (show b = false from HB.out.trans <| decide_eq_false fun h => by
            have h2 := (HND.out N (by rw [HN.out]; exact Nat.le_refl _)).1 (by rw [HN.out, List.take_of_length_le (Nat.le_refl _)]; exact h) k hlt
            rw [← HX.out, hh] at h2
            cases h2)
          clear hh
          go_wp2_with (first | (refine r_idx 22 _ _ (.slice (some ⟨G, 0, none⟩) N k4) (.int .i64 k) _ rfl rfl (Tryz.nsix G N k4 k hlt _) rfl ?_) | (refine r_ldc 3 _ ⟨G, k, none⟩ (.int .i64 x) rfl (Tryz.isAgg3 _) hcell rfl ?_) | (go_at_call 27; refine (HH.out).mono ?_; rintro e w5 ⟨rfl, g5⟩; have gr := gr.trans g5; have own5 := g5.row own5))
          go_ret2
          exact ⟨by rw [HR.out, HC.out, HNO.out]; rfl, gr⟩
      · obtain rfl : k = N := by omega
        have HYES := hidI (show b = true from HB.out.trans <| decide_eq_true (by
          have h2 := (HND.out k (by rw [HN.out]; exact Nat.le_refl _)).2 HA.out
          rwa [HN.out, List.take_of_length_le (Nat.le_refl _)] at h2))
        clear hlt
        go_wp2
        go_ret2
        exact ⟨by rw [HR.out, HC.out, HYES.out]; rfl, gr⟩
set_option maxHeartbeats 2000000 in
set_option maxRecDepth 100000 in
theorem lawIsReversible (s : ByteArray) (z1 : Option Addr) (c1 : Nat) (I : List Int) (z2 : Option Addr) (c2 : Nat) (O : List Int) (u : ByteArray) (w : World)
    (hs1 : Rd w z1 I.length (intsV I)) (_hb1 : I.length ≤ 9223372036854775807) (hw1 : ∀ k, k < I.length → (Lit.int .i64 (gi I k)).wf = true)
    (hs2 : Rd w z2 O.length (intsV O)) (_hb2 : O.length ≤ 9223372036854775807) (hw2 : ∀ k, k < O.length → (Lit.int .i64 (gi O k)).wf = true) (hm : ML w) :
    Calls Tryz.prog 5 #[.string s, .slice z1 I.length c1, .slice z2 O.length c2, .string u] w (Ret (.bool true) w) := by
  have gg := Gr.refl w
  by_cases h1 : 1048576 < s.size
  · go_enter Tryz.func5, Tryz.ntmps5
    go_wp2
    go_ret
    exact ⟨rfl, gg⟩
  have hs : s.size ≤ 1048576 := by omega
  clear h1
  by_cases h2 : 1048576 < I.length
  · go_enter Tryz.func5, Tryz.ntmps5
    go_wp2
    go_ret
    exact ⟨rfl, gg⟩
  have hI : I.length ≤ 1048576 := by omega
  clear h2
  by_cases h3 : 1048576 < O.length
  · go_enter Tryz.func5, Tryz.ntmps5
    go_wp2
    go_ret
    exact ⟨rfl, gg⟩
  have hO : O.length ≤ 1048576 := by omega
  clear h3
  by_cases h4 : 1048576 < u.size
  · go_enter Tryz.func5, Tryz.ntmps5
    go_wp2
    go_ret
    exact ⟨rfl, gg⟩
  have hu : u.size ≤ 1048576 := by omega
  clear h4
  have HT1 := hidI (fun (w' : World) (g : Gr w w') => toInts_any z1 c1 I w' (hs1.gr g) hI)
  have HT2 := hidI (fun (w' : World) (g : Gr w w') => toInts_any z2 c2 O w' (hs2.gr g) hO)
  have HSP := hidI (fun (w' : World) (b1 b2 : Nat) (v1 v2 : Value) (h1 : w'.ownsRow b1 3 1 v1 I.length (intsV I)) (h2 : w'.ownsRow b2 3 1 v2 O.length (intsV O)) => sIsReversible s u I O b1 b2 v1 v2 w' hs h1 h2)
  have HIM := hidI (fun (w' : World) (g : Gr w w') (b1 b2 : Nat) (v1 v2 : Value) (h1 : w'.ownsRow b1 3 1 v1 I.length (intsV I)) (h2 : w'.ownsRow b2 3 1 v2 O.length (intsV O)) => iIsReversible s u I O b1 b2 v1 v2 w' (g.ml hm) hs h1 h2 hw1 hw2)
  obtain ⟨rv, hrv⟩ : ∃ rv, rv = rvB s.data.toList I O u := ⟨_, rfl⟩
  obtain ⟨ok, hok⟩ : ∃ ok, ok = gtOk s.data.toList I O u := ⟨_, rfl⟩
  rw [← hrv, ← hok] at HSP HIM
  clear hrv hok hw1 hw2 hs1 hs2 hm
  go_enter Tryz.func5, Tryz.ntmps5
  go_wp2_with fail
  refine (HT1.out _ gg).mono ?_
  rintro e wm ⟨ga, va, rfl, owa⟩
  obtain ⟨wn, rfl⟩ : ∃ wn : World, wn = wm := ⟨_, rfl⟩
  have gg := gg.trans ga
  go_wp2_with fail
  refine (HT2.out _ gg).mono ?_
  rintro e wm ⟨gb, vb, rfl, owb⟩
  obtain ⟨wn, rfl⟩ : ∃ wn : World, wn = wm := ⟨_, rfl⟩
  have owa := gb.row owa
  have gg := gg.trans gb
  go_wp2_with fail
  refine (HSP.out _ _ _ _ _ owa owb).mono ?_
  rintro e w2 ⟨rfl, g2⟩
  have gg := gg.trans g2
  go_wp2_with fail
  refine (HT1.out _ gg).mono ?_
  rintro e wm ⟨gd, vx, rfl, owx⟩
  obtain ⟨wn, rfl⟩ : ∃ wn : World, wn = wm := ⟨_, rfl⟩
  have gg := gg.trans gd
  go_wp2_with fail
  refine (HT2.out _ gg).mono ?_
  rintro e wm ⟨ge, vy, rfl, owy⟩
  obtain ⟨wn, rfl⟩ : ∃ wn : World, wn = wm := ⟨_, rfl⟩
  have owx := ge.row owx
  have gg := gg.trans ge
  go_wp2_with fail
  refine (HIM.out _ gg _ _ _ _ owx owy).mono ?_
  rintro e w3 ⟨rfl, g3⟩
  have owx := g3.row owx
  have owy := g3.row owy
  have gg := gg.trans g3
  go_wp2_with fail
  refine (HT1.out _ gg).mono ?_
  rintro e wm ⟨gh, vt, rfl, owt⟩
  obtain ⟨wn, rfl⟩ : ∃ wn : World, wn = wm := ⟨_, rfl⟩
  have owx := gh.row owx
  have owy := gh.row owy
  have gg := gg.trans gh
  go_wp2_with fail
  refine (eqIntS_any vx vt I I _ _ _ owx owt hI).mono ?_
  rintro e w4 ⟨rfl, g4⟩
  rw [decide_eq_true rfl]
  have owy := g4.row owy
  have gg := gg.trans g4
  go_wp2_with fail
  refine (HT2.out _ gg).mono ?_
  rintro e wm ⟨gk, vt2, rfl, owt2⟩
  obtain ⟨wn, rfl⟩ : ∃ wn : World, wn = wm := ⟨_, rfl⟩
  have owy := gk.row owy
  have gg := gg.trans gk
  go_wp2_with fail
  refine (eqIntS_any vy vt2 O O _ _ _ owy owt2 hO).mono ?_
  rintro e w5 ⟨rfl, g5⟩
  rw [decide_eq_true rfl]
  have gg := gg.trans g5
  go_wp2
  go_ret
  exact ⟨rfl, gg⟩
end Go.Proofs.YtcjmikafomlbiaaGreatDoor
