/-
  How many trays a move keeps: the program's and the model's answer, and the law.
-/
import Derived.Test.YtmjmjibokombiaaKepS
namespace Go.Proofs.Ytmjmjibokombiaa
open Go.RowKit
theorem mv_mem (W H : Nat) (z : Int) : ∀ n, z ∈ mvToC W H n ↔ ∃ k : Nat, z = k ∧ k < n ∧ fitB W H k = true
  | 0 => by
    constructor
    · intro h; cases h
    · rintro ⟨k, -, h, -⟩; omega
  | n + 1 => by
    have ih := mv_mem W H z n
    unfold mvToC
    by_cases hf : fitB W H n = true
    · rw [if_pos hf, List.mem_append, ih, List.mem_singleton]
      constructor
      · rintro (⟨k, e, h1, h2⟩ | e)
        · exact ⟨k, e, by omega, h2⟩
        · exact ⟨n, e, by omega, hf⟩
      · rintro ⟨k, e, h1, h2⟩
        by_cases hk : k = n
        · exact .inr (by rw [e, hk])
        · exact .inl ⟨k, e, by omega, h2⟩
    · rw [if_neg hf, ih]
      constructor
      · rintro ⟨k, e, h1, h2⟩
        exact ⟨k, e, by omega, h2⟩
      · rintro ⟨k, e, h1, h2⟩
        refine ⟨k, e, ?_, h2⟩
        by_cases hk : k = n
        · rw [hk] at h2; exact absurd h2 hf
        · omega
/-- Whether there is an answer, and which. -/
def kpMv (x y z : Int) : Bool := btw z 0 7 && fitB x.toNat y.toNat z.toNat
def kpOk (x y a b z : Int) : Bool := ctOk x y a b && kpMv x y z
def kpN (x y a b z : Int) : Int := if kpOk x y a b z then (dpK (szs (pmM x.toNat y.toNat z.toNat)) (szs (pmM x.toNat y.toNat z.toNat)).length a.toNat b.toNat : Nat) else 0
theorem kp_no {x y a b z : Int} (h : kpOk x y a b z = false) : 0 = kpN x y a b z ∧ false = kpOk x y a b z := by
  unfold kpN
  rw [h]
  exact ⟨rfl, rfl⟩
theorem kp_bad {x y a b z : Int} (h : ctOk x y a b = false) : kpOk x y a b z = false := by unfold kpOk; rw [h]; rfl
theorem kp_badm {x y a b z : Int} (h : kpMv x y z = false) : kpOk x y a b z = false := by unfold kpOk; rw [h, Bool.and_false]
theorem kp_yes {W H A B k : Nat} (h : ctOk W H A B = true) (hm : kpMv W H k = true) : ((dpK (szs (pmM W H k)) (szs (pmM W H k)).length A B : Nat) : Int) = kpN W H A B k ∧ true = kpOk W H A B k := by
  have ho : kpOk W H A B k = true := by unfold kpOk; rw [h, hm]; rfl
  unfold kpN
  rw [ho, if_pos rfl]
  exact ⟨rfl, rfl⟩
theorem kpMv_cases (W H : Nat) (z : Int) : (kpMv W H z = false ∧ (mvToC W H 8).contains z = false ∧ (btw z 0 7 = false ∨ ∃ k : Nat, z = k ∧ btw z 0 7 = true ∧ fitB W H k = false)) ∨ ∃ k : Nat, z = k ∧ k < 8 ∧ btw z 0 7 = true ∧ fitB W H k = true ∧ kpMv W H z = true ∧ (mvToC W H 8).contains z = true := by
  by_cases hb : btw z 0 7 = true
  · have h := hb
    unfold btw at h
    rw [Bool.and_eq_true, decide_eq_true_eq, decide_eq_true_eq] at h
    obtain ⟨k, rfl⟩ : ∃ k : Nat, z = k := ⟨z.toNat, by omega⟩
    by_cases hf : fitB W H k = true
    · refine .inr ⟨k, rfl, by omega, hb, hf, ?_, ?_⟩
      · unfold kpMv
        rw [hb, Int.toNat_natCast, Int.toNat_natCast, Int.toNat_natCast, hf]
        rfl
      · rw [List.contains_iff_mem]
        exact (mv_mem W H k 8).2 ⟨k, rfl, by omega, hf⟩
    · have hf' : fitB W H k = false := by simpa using hf
      refine .inl ⟨?_, ?_, .inr ⟨k, rfl, hb, hf'⟩⟩
      · unfold kpMv
        rw [Int.toNat_natCast, Int.toNat_natCast, Int.toNat_natCast, hf', Bool.and_false]
      · rw [← Bool.not_eq_true, List.contains_iff_mem, mv_mem]
        rintro ⟨q, e, -, h2⟩
        obtain rfl : k = q := by omega
        exact hf h2
  · have hb' : btw z 0 7 = false := by simpa using hb
    refine .inl ⟨by unfold kpMv; rw [hb']; rfl, ?_, .inl hb'⟩
    rw [← Bool.not_eq_true, List.contains_iff_mem, mv_mem]
    rintro ⟨q, e, h1, -⟩
    refine hb ?_
    unfold btw
    rw [Bool.and_eq_true, decide_eq_true_eq, decide_eq_true_eq]
    omega
theorem kp_good {W H N k : Nat} (hz : isSz W H = true) (hn : (W : Int) * (H : Int) = N) (hN : N ≤ 36) (hk : k < 8) (hf : fitB W H k = true) : 1 ≤ W ∧ 1 ≤ H ∧ W ≤ 7 ∧ H ≤ 7 ∧ nn W H ≤ 36 ∧ PmG W H k ∧ szs (pmP W H k) = szs (pmM W H k) := by
  obtain ⟨x1, x7, y1, y7, -⟩ := isSz_iff.1 hz
  have h36 : nn W H ≤ 36 := by have := nn_int W H; omega
  have hfk : fitK W H k = true := by
    unfold fitB at hf
    unfold fitK
    rw [hf, decide_eq_true (show 1 ≤ W by omega), decide_eq_true (show 1 ≤ H by omega), decide_eq_true h36]
    rfl
  exact ⟨by omega, by omega, by omega, by omega, h36, pm_ok hk (by omega) (by omega) hfk, sz_same hk (by omega) (by omega) hfk⟩
set_option maxHeartbeats 1000000 in
set_option maxRecDepth 100000 in
theorem sCountKept (x y a b z : Int) (w : World) : Calls Try.prog 4 #[.int .i64 x, .int .i64 y, .int .i64 a, .int .i64 b, .int .i64 z] w (Ret (.tuple #[.int .i64 (kpN x y a b z), .bool (kpOk x y a b z)]) w) := by
  have gg := Gr.refl w
  rcases fa_cases x y a b with ⟨ho, hv, -⟩ | ⟨W, H, N, A, B, M, rfl, rfl, rfl, rfl, hz, hn, hN, hA, hM, hB, ho, hv⟩
  · have HO := hidI ho
    have HV := hidI (kp_no (kp_bad (z := z) (ct_no ho).1))
    clear ho hv
    go_enter Try.func4, Try.ntmps4
    go_wp2_with (go_at_call 6; refine (cnAsked_any _ _ _ _ _).mono ?_; rintro e wSame ⟨rfl, rfl⟩; rw [HO.out])
    go_ret2
    exact ⟨fin_ibN HV.out.1 HV.out.2, gg⟩
  · have HO := hidI ho
    rcases kpMv_cases W H z with ⟨hm, -, hb | ⟨k, rfl, hb, hf⟩⟩ | ⟨k, rfl, hk, hb, hf, hm, -⟩
    · have HV := hidI (kp_no (kp_badm (a := A) (b := B) hm))
      have HB := hidI hb
      clear ho hv hm hb hz hn hM
      go_enter Try.func4, Try.ntmps4
      go_wp2_with (first | (go_at_call 6; refine (cnAsked_any _ _ _ _ _).mono ?_; rintro e wSame ⟨rfl, rfl⟩; rw [HO.out]) | (go_at_call 7; refine (l1In_any _ _ _ _).mono ?_; rintro e wSame ⟨rfl, rfl⟩; rw [HB.out]))
      go_ret2
      exact ⟨fin_ibN HV.out.1 HV.out.2, gg⟩
    · have HV := hidI (kp_no (kp_badm (a := A) (b := B) hm))
      have HB := hidI hb
      have HF := hidI hf
      clear ho hv hm hb hf hz hn hM
      go_enter Try.func4, Try.ntmps4
      go_wp2_with (first | (go_at_call 6; refine (cnAsked_any _ _ _ _ _).mono ?_; rintro e wSame ⟨rfl, rfl⟩; rw [HO.out]) | (go_at_call 7; refine (l1In_any _ _ _ _).mono ?_; rintro e wSame ⟨rfl, rfl⟩; rw [HB.out]) | (go_at_call 8; refine (cnFits_any _ _ _ _).mono ?_; rintro e wSame ⟨rfl, rfl⟩; rw [HF.out]))
      go_ret2
      exact ⟨fin_ibN HV.out.1 HV.out.2, gg⟩
    · have HB := hidI hb
      have HF := hidI hf
      obtain ⟨p, hp⟩ : ∃ p, chN N A * chN M B = p := ⟨_, rfl⟩
      have hpp := (ct_p (B := B) hn hM).trans hp
      have HCT := hidI (fun w => cnTrays_any W H N A B M p w hn hN hA hM hB hp)
      obtain ⟨g1, g2, g3, g4, g5, g6, -⟩ := kp_good hz hn hN hk hf
      have HCK := hidI (fun w => cnKept_any W H A B k w g6 g1 g3 g4 g5 hk (by omega) (by omega))
      by_cases hl : p ≤ 1000000000000000
      · have HV := hidI (kp_yes (ct_yes ho hpp hl).1 hm)
        obtain ⟨r, hr⟩ : ∃ r, r = dpK (szs (pmM W H k)) (szs (pmM W H k)).length A B := ⟨_, rfl⟩
        rw [← hr] at HCK HV
        rw [if_pos hl, decide_eq_true hl] at HCT
        clear ho hv hm hb hf hz hn hM hp hpp g1 g2 g3 g4 g5 g6 hr
        go_enter Try.func4, Try.ntmps4
        go_wp2_with (first | (go_at_call 6; refine (cnAsked_any _ _ _ _ _).mono ?_; rintro e wSame ⟨rfl, rfl⟩; rw [HO.out]) | (go_at_call 7; refine (l1In_any _ _ _ _).mono ?_; rintro e wSame ⟨rfl, rfl⟩; rw [HB.out]) | (go_at_call 8; refine (cnFits_any _ _ _ _).mono ?_; rintro e wSame ⟨rfl, rfl⟩; rw [HF.out]) | (go_at_call 9; refine (HCT.out _).mono ?_; rintro e w1 ⟨rfl, g1⟩; have z1 := g1.size; have gg := gg.trans g1) | (go_at_call 10; refine (HCK.out _).mono ?_; rintro e w2 ⟨rfl, g2⟩; have z2 := g2.size; have gg := gg.trans g2))
        go_ret2
        exact ⟨fin_ibN HV.out.1 HV.out.2, gg⟩
      · have HV := hidI (kp_no (kp_bad (z := (k : Int)) (ct_over ho hpp (by omega)).1))
        rw [if_neg hl, decide_eq_false hl] at HCT
        clear ho hv hm hb hf hz hn hM hp hpp g1 g2 g3 g4 g5 g6 HCK
        go_enter Try.func4, Try.ntmps4
        go_wp2_with (first | (go_at_call 6; refine (cnAsked_any _ _ _ _ _).mono ?_; rintro e wSame ⟨rfl, rfl⟩; rw [HO.out]) | (go_at_call 7; refine (l1In_any _ _ _ _).mono ?_; rintro e wSame ⟨rfl, rfl⟩; rw [HB.out]) | (go_at_call 8; refine (cnFits_any _ _ _ _).mono ?_; rintro e wSame ⟨rfl, rfl⟩; rw [HF.out]) | (go_at_call 9; refine (HCT.out _).mono ?_; rintro e w1 ⟨rfl, g1⟩; have z1 := g1.size; have gg := gg.trans g1))
        go_ret2
        exact ⟨fin_ibN HV.out.1 HV.out.2, gg⟩
theorem containsK_any (v : Value) (l : List Int) (base : Nat) (x : Int) (w : World) (h : w.ownsRow base 3 1 v l.length (intsV l)) (hl : l.length ≤ 1073741824) :
    Calls Try.prog 12 #[v, .int .i64 x] w fun e w' => e = .returned (.bool (l.contains x)) ∧ w' = w := by
  obtain ⟨p, m, k, rfl⟩ := own_slice h
  obtain rfl : m = l.length := own_len h
  rcases Nat.eq_zero_or_pos l.length with h0 | h0
  · have e : l = [] := List.eq_nil_of_length_eq_zero h0
    subst e
    exact Try.slices_Contains_int_empty p k x w
  · obtain ⟨g, c, e, -, -⟩ := own_shape h h0
    cases e
    have hc := Try.slices_Contains_int g 0 l.length k l x w (Nat.le_refl _) (by omega) (fun j hj => by
      rw [Nat.zero_add]
      exact own_int h j hj rfl)
    rw [List.take_length] at hc
    exact hc
set_option maxHeartbeats 1000000 in
set_option maxRecDepth 100000 in
theorem kept1_ok (W H A B k p r K1 K2 : Nat) (w : World) (hb : Blk w K1 (fv W H A B) 30) (hb2 : Blk w K2 #[.int .i64 k] 3) (hct : ∀ w, Calls Try.prog 17 #[.agg (fv W H A B)] w (Ret (.int .i64 p) w)) (hp : p ≤ 1000000000000000)
    (hck : ∀ w, Calls Try.prog 18 #[.agg (fv W H A B), .int .i64 k] w (Ret (.int .i64 r) w)) :
    Calls Try.prog 15 #[.pointer (some ⟨K1, 0, none⟩), .pointer (some ⟨K2, 0, none⟩)] w (Ret (.int .i64 r) w) := by
  have gg := Gr.refl w
  have hc2 := hb2.cell 0
  go_enter Try.func15, Try.ntmps15
  go_wp2_with (first | (refine r_load_row 30 _ _ rfl _ _ _ hb Try.underlying30 rfl (Try.finfo _ _ _ _) rfl ?_) | (go_at_call 17; refine (hct _).mono ?_; rintro e w1 ⟨rfl, g1⟩; have hb := g1.blk hb; have hc2 := g1.cell hc2; have gg := gg.trans g1) | (go_at_call 16; refine (raise_not 1000000000000000 p _ (by omega)).mono ?_; rintro e w2 ⟨rfl, g2⟩; have hb := g2.blk hb; have hc2 := g2.cell hc2; have gg := gg.trans g2) | (refine r_ldc 3 _ ⟨K2, 0, none⟩ (.int .i64 k) rfl (Try.isAgg3 _) hc2 rfl ?_) | (go_at_call 18; refine (hck _).mono ?_; rintro e w3 ⟨rfl, g3⟩; have z3 := g3.size; have gg := gg.trans g3))
  go_ret
  exact ⟨rfl, gg⟩
set_option maxHeartbeats 1000000 in
set_option maxRecDepth 100000 in
theorem kept1_no (W H A B p K1 : Nat) (q : Value) (w : World) (hb : Blk w K1 (fv W H A B) 30) (hct : ∀ w, Calls Try.prog 17 #[.agg (fv W H A B)] w (Ret (.int .i64 p) w)) (hp : 1000000000000000 < p) :
    Calls Try.prog 15 #[.pointer (some ⟨K1, 0, none⟩), q] w fun e w' => e = .panicked [tgE p false] ∧ Gr w w' := by
  have gg := Gr.refl w
  go_enter Try.func15, Try.ntmps15
  go_wp2_with (first | (refine r_load_row 30 _ _ rfl _ _ _ hb Try.underlying30 rfl (Try.finfo _ _ _ _) rfl ?_) | (go_at_call 17; refine (hct _).mono ?_; rintro e w1 ⟨rfl, g1⟩; have z1 := g1.size; have gg := gg.trans g1))
  refine (raise_yes 1000000000000000 p _ (by omega)).mono ?_
  rintro e w2 ⟨rfl, g2⟩
  exact ⟨rfl, rfl, gg.trans g2⟩
set_option maxHeartbeats 2000000 in
set_option maxRecDepth 100000 in
theorem iCountKept (x y a b z : Int) (w : World) : Calls Try.prog 5 #[.int .i64 x, .int .i64 y, .int .i64 a, .int .i64 b, .int .i64 z] w (Ret (.tuple #[.int .i64 (kpN x y a b z), .bool (kpOk x y a b z)]) w) := by
  have gg := Gr.refl w
  have hmf : ∀ (fn : Fn) (first cap : Array Value) (w : World), (Instr.makeFunc fn first cap).run Try.prog w = .ok (.func fn first cap) w := fun _ _ _ _ => rfl
  rcases fa_cases x y a b with ⟨ho, hv, -⟩ | ⟨W, H, N, A, B, M, rfl, rfl, rfl, rfl, hz, hn, hN, hA, hM, hB, ho, hv⟩
  · have HO := hidI ho
    have HV := hidI hv
    have HVV := hidI (kp_no (kp_bad (z := z) (ct_no ho).1))
    clear ho hv
    go_enter Try.func5, Try.ntmps5
    go_wp2_with (first | (refine r_box1 3 _ (.int .i64 z) rfl (fun _ => rfl) rfl ?_; intro w1 B9 N1; have g1 := N1.gr; have b9 : Blk w1 B9 #[.int .i64 z] 3 := N1.blk; have z1 := g1.size; have t9 := N1.hi; have l9 := N1.lo; have gg := gg.trans g1; clear N1) | ((go_at_call 11; refine (readFilling_any _ _ _ _ _).mono ?_; rintro e w2 ⟨rfl, g2⟩; rw [HO.out, HV.out]; have z2 := g2.size; have b9 := g2.blk b9; have gg := gg.trans g2)) | (refine r_alloc 30 _ Try.fzero rfl ?_; intro w3 B3 N3; have g3 := N3.gr; have b3 : Blk w3 B3 (fv 0 0 0 0) 30 := N3.blk; have l3 := N3.lo; have t3 := N3.hi; have z3 := g3.size; have b9 := g3.blk b9; have gg := gg.trans g3; clear N3) | (refine r_store_row 30 30 _ _ B3 rfl (fv 0 0 0 0) _ rfl b3 Try.fsize rfl (fv_one _ _ _ _) rfl ?_; intro w4 u4 b4; have b9 := u4.blk b9 (by omega); have z4 := u4.size; have gg := u4.gr gg (by omega)))
    have gd := (Gr.refl w4).drew
    have b4 := gd.blk b4
    have b9 := gd.blk b9
    have gg := gg.trans gd
    refine K_begin (fun w => Blk w B9 #[.int .i64 z] 3) 10 10 #[false, false, false, false, false, false, false, false, false, false] rfl (by kernel_rfl) (by kernel_rfl) ?_
    generalize w4.drew = wd at *
    refine K_take (v := .bool false) 0 #[true, false, false, false, false, false, false, false, false, false] rfl (by kernel_rfl) (fun _ _ _ h => h) rfl (fun _ _ => rfl) (b9) ?_; simp only [Act.put, List.setIfInBounds_toArray, List.set_cons_succ, List.set_cons_zero]
    refine K_take (v := .bool true) 1 #[true, true, false, false, false, false, false, false, false, false] rfl (by kernel_rfl) (fun _ _ _ h => h) rfl (fun w hF => by first | rfl | (unfold execOp; simp [go_sem, Act.eval])) (b9) ?_; simp only [Act.put, List.setIfInBounds_toArray, List.set_cons_succ, List.set_cons_zero]
    refine K_take (v := .bool true) 2 #[true, true, true, false, false, false, false, false, false, false] rfl (by kernel_rfl) (fun _ _ _ h => h) rfl (fun _ _ => rfl) (b9) ?_; simp only [Act.put, List.setIfInBounds_toArray, List.set_cons_succ, List.set_cons_zero]
    refine K_skip 3 #[true, true, true, true, false, false, false, false, false, false] rfl (by kernel_rfl) (fun _ _ _ h => h) rfl (b9) ?_; simp only [Act.put, List.setIfInBounds_toArray, List.set_cons_succ, List.set_cons_zero]
    refine K_skip 4 #[true, true, true, true, true, false, false, false, false, false] rfl (by kernel_rfl) (fun _ _ _ h => h) rfl (b9) ?_; simp only [Act.put, List.setIfInBounds_toArray, List.set_cons_succ, List.set_cons_zero]
    refine K_skip 6 #[true, true, true, true, true, false, true, false, false, false] rfl (by kernel_rfl) (fun _ _ _ h => h) rfl (b9) ?_; simp only [Act.put, List.setIfInBounds_toArray, List.set_cons_succ, List.set_cons_zero]
    refine K_skip 5 #[true, true, true, true, true, true, true, false, false, false] rfl (by kernel_rfl) (fun _ _ _ h => h) rfl (b9) ?_; simp only [Act.put, List.setIfInBounds_toArray, List.set_cons_succ, List.set_cons_zero]
    refine K_skip 7 #[true, true, true, true, true, true, true, true, false, false] rfl (by kernel_rfl) (fun _ _ _ h => h) rfl (b9) ?_; simp only [Act.put, List.setIfInBounds_toArray, List.set_cons_succ, List.set_cons_zero]
    refine K_skip 8 #[true, true, true, true, true, true, true, true, true, false] rfl (by kernel_rfl) (fun _ _ _ h => h) rfl (b9) ?_; simp only [Act.put, List.setIfInBounds_toArray, List.set_cons_succ, List.set_cons_zero]
    refine K_take (v := .bool true) 9 #[true, true, true, true, true, true, true, true, true, true] rfl (by kernel_rfl) (fun _ _ _ h => h) rfl (fun w hF => by first | rfl | (unfold execOp; simp [go_sem, Act.eval])) (b9) ?_; simp only [Act.put, List.setIfInBounds_toArray, List.set_cons_succ, List.set_cons_zero]
    refine K_done' (by kernel_rfl) ?_
    go_wp2
    go_ret2
    exact ⟨fin_ibN HVV.out.1 HVV.out.2, gg⟩
  · have HO := hidI ho
    have HV := hidI hv
    have HML := hidI (show (mvToC W H 8).length ≤ 1073741824 from Nat.le_trans (mvTo_leC W H 8) (by decide))
    rcases kpMv_cases W H z with ⟨hm, hcc, -⟩ | ⟨k, rfl, hk, -, hf, hm, hcc⟩
    · have HVV := hidI (kp_no (kp_badm (a := A) (b := B) hm))
      have HCC := hidI hcc
      clear ho hv hm hcc hz hn hM
      go_enter Try.func5, Try.ntmps5
      go_wp2_with (first | (refine r_box1 3 _ (.int .i64 z) rfl (fun _ => rfl) rfl ?_; intro w1 B9 N1; have g1 := N1.gr; have b9 : Blk w1 B9 #[.int .i64 z] 3 := N1.blk; have z1 := g1.size; have t9 := N1.hi; have l9 := N1.lo; have gg := gg.trans g1; clear N1) | ((go_at_call 11; refine (readFilling_any _ _ _ _ _).mono ?_; rintro e w2 ⟨rfl, g2⟩; rw [HO.out, HV.out]; have z2 := g2.size; have b9 := g2.blk b9; have gg := gg.trans g2)) | (refine r_alloc 30 _ Try.fzero rfl ?_; intro w3 B3 N3; have g3 := N3.gr; have b3 : Blk w3 B3 (fv 0 0 0 0) 30 := N3.blk; have l3 := N3.lo; have t3 := N3.hi; have z3 := g3.size; have b9 := g3.blk b9; have gg := gg.trans g3; clear N3) | (refine r_store_row 30 30 _ _ B3 rfl (fv W H A B) _ rfl b3 Try.fsize rfl (fv_one _ _ _ _) rfl ?_; intro w4 u4 b4; have b9 := u4.blk b9 (by omega); have z4 := u4.size; have gg := u4.gr gg (by omega)))
      have gd := (Gr.refl w4).drew
      have b4 := gd.blk b4
      have b9 := gd.blk b9
      have gg := gg.trans gd
      refine K_begin (fun w => Blk w B9 #[.int .i64 z] 3) 10 10 #[false, false, false, false, false, false, false, false, false, false] rfl (by kernel_rfl) (by kernel_rfl) ?_
      generalize w4.drew = wd at *
      refine K_take (v := .bool true) 0 #[true, false, false, false, false, false, false, false, false, false] rfl (by kernel_rfl) (fun _ _ _ h => h) rfl (fun _ _ => rfl) (b9) ?_; simp only [Act.put, List.setIfInBounds_toArray, List.set_cons_succ, List.set_cons_zero]
      refine K_take (v := .bool false) 1 #[true, true, false, false, false, false, false, false, false, false] rfl (by kernel_rfl) (fun _ _ _ h => h) rfl (fun w hF => by first | rfl | (unfold execOp; simp [go_sem, Act.eval])) (b9) ?_; simp only [Act.put, List.setIfInBounds_toArray, List.set_cons_succ, List.set_cons_zero]
      refine K_take (v := .bool false) 2 #[true, true, true, false, false, false, false, false, false, false] rfl (by kernel_rfl) (fun _ _ _ h => h) rfl (fun _ _ => rfl) (b9) ?_; simp only [Act.put, List.setIfInBounds_toArray, List.set_cons_succ, List.set_cons_zero]
      refine K_take (v := .int .i64 W) 3 #[true, true, true, true, false, false, false, false, false, false] rfl (by kernel_rfl) (fun _ _ _ h => h) rfl (fun _ _ => rfl) (b9) ?_; simp only [Act.put, List.setIfInBounds_toArray, List.set_cons_succ, List.set_cons_zero]
      refine K_take (v := .int .i64 H) 4 #[true, true, true, true, true, false, false, false, false, false] rfl (by kernel_rfl) (fun _ _ _ h => h) rfl (fun _ _ => rfl) (b9) ?_; simp only [Act.put, List.setIfInBounds_toArray, List.set_cons_succ, List.set_cons_zero]
      refine K_take 6 #[true, true, true, true, true, false, true, false, false, false] rfl (by kernel_rfl) (fun _ _ _ h => h) rfl (fun w hF => e_load 3 (.tmp 9) _ _ rfl (Try.isAgg3 _) (hF.cell 0)) (b9) ?_; simp only [Act.put, List.setIfInBounds_toArray, List.set_cons_succ, List.set_cons_zero]
      refine K_one 5 #[true, true, true, true, true, true, true, false, false, false] rfl (by kernel_rfl) ?_
      refine r_callx 13 [.tmp 25, .tmp 26] _ [.int .i64 W, .int .i64 H] (fun v w' => Gr wd w' ∧ w'.ownsRow wd.heap.size 3 1 v (mvToC W H 8).length (intsV (mvToC W H 8))) Try.call13 rfl rfl ((movesFor_any W H wd).mono fun e w' h => by obtain ⟨g, v, h1, h2⟩ := h; exact ⟨v, h1, g, h2⟩) ?_
      rintro v5 w5 ⟨g5, own5⟩
      have b4 := g5.blk b4
      have b9 := g5.blk b9
      have gg := gg.trans g5
      simp only [Act.put, List.setIfInBounds_toArray, List.set_cons_succ, List.set_cons_zero]
      refine ⟨fun _ => b9, ?_⟩
      refine K_one 7 #[true, true, true, true, true, true, true, true, false, false] rfl (by kernel_rfl) ?_
      refine r_call 12 [.tmp 27, .tmp 28] _ [v5, .int .i64 z] (.bool false) (fun w' => w' = w5) Try.call12 rfl rfl ((containsK_any v5 (mvToC W H 8) _ z w5 own5 HML.out).mono fun e w' h => by rw [HCC.out] at h; exact h) ?_
      rintro _ rfl
      simp only [Act.put, List.setIfInBounds_toArray, List.set_cons_succ, List.set_cons_zero]
      refine ⟨fun _ => b9, ?_⟩
      refine K_take (v := .bool true) 8 #[true, true, true, true, true, true, true, true, true, false] rfl (by kernel_rfl) (fun _ _ _ h => h) rfl (fun w hF => by first | rfl | (unfold execOp; simp [go_sem, Act.eval])) (b9) ?_; simp only [Act.put, List.setIfInBounds_toArray, List.set_cons_succ, List.set_cons_zero]
      refine K_take (v := .bool true) 9 #[true, true, true, true, true, true, true, true, true, true] rfl (by kernel_rfl) (fun _ _ _ h => h) rfl (fun w hF => by first | rfl | (unfold execOp; simp [go_sem, Act.eval])) (b9) ?_; simp only [Act.put, List.setIfInBounds_toArray, List.set_cons_succ, List.set_cons_zero]
      refine K_done' (by kernel_rfl) ?_
      go_wp2
      go_ret2
      exact ⟨fin_ibN HVV.out.1 HVV.out.2, gg⟩
    · obtain ⟨z, hzk⟩ : ∃ z : Int, z = (k : Int) := ⟨_, rfl⟩
      rw [← hzk] at hcc ⊢
      have HCC := hidI hcc
      obtain ⟨p, hp⟩ : ∃ p, chN N A * chN M B = p := ⟨_, rfl⟩
      have hpp := (ct_p (B := B) hn hM).trans hp
      have HCT := hidI (fun w => countTrays_any W H N A B M p w hn hN hA hM hB hp)
      obtain ⟨g1, g2, g3, g4, g5, g6, g7⟩ := kp_good hz hn hN hk hf
      have HCK := hidI (fun w => countKept_any W H A B k w g6 g1 g2 g3 g4 g5 hk g7 (by omega) (by omega))
      have HZK := hidI hzk
      by_cases hl : p ≤ 1000000000000000
      · have HVV := hidI (kp_yes (ct_yes ho hpp hl).1 hm)
        obtain ⟨r, hr⟩ : ∃ r, r = dpK (szs (pmM W H k)) (szs (pmM W H k)).length A B := ⟨_, rfl⟩
        rw [← hr, ← hzk] at HVV
        rw [← hr] at HCK
        have hk1 := fun B3 B9 (w' : World) (h1 : Blk w' B3 (fv W H A B) 30) (h2 : Blk w' B9 #[.int .i64 k] 3) => kept1_ok W H A B k p r B3 B9 w' h1 h2 HCT.out hl HCK.out
        rw [← hzk] at hk1
        have HK1 := hidI hk1
        clear ho hv hm hcc hz hn hM hp hpp g1 g2 g3 g4 g5 g6 g7 hr hk1 hzk
        go_enter Try.func5, Try.ntmps5
        go_wp2_with (first | (refine r_box1 3 _ (.int .i64 z) rfl (fun _ => rfl) rfl ?_; intro w1 B9 N1; have g1 := N1.gr; have b9 : Blk w1 B9 #[.int .i64 z] 3 := N1.blk; have z1 := g1.size; have t9 := N1.hi; have l9 := N1.lo; have gg := gg.trans g1; clear N1) | ((go_at_call 11; refine (readFilling_any _ _ _ _ _).mono ?_; rintro e w2 ⟨rfl, g2⟩; rw [HO.out, HV.out]; have z2 := g2.size; have b9 := g2.blk b9; have gg := gg.trans g2)) | (refine r_alloc 30 _ Try.fzero rfl ?_; intro w3 B3 N3; have g3 := N3.gr; have b3 : Blk w3 B3 (fv 0 0 0 0) 30 := N3.blk; have l3 := N3.lo; have t3 := N3.hi; have z3 := g3.size; have b9 := g3.blk b9; have gg := gg.trans g3; clear N3) | (refine r_store_row 30 30 _ _ B3 rfl (fv W H A B) _ rfl b3 Try.fsize rfl (fv_one _ _ _ _) rfl ?_; intro w4 u4 b4; have b9 := u4.blk b9 (by omega); have z4 := u4.size; have gg := u4.gr gg (by omega)))
        have gd := (Gr.refl w4).drew
        have b4 := gd.blk b4
        have b9 := gd.blk b9
        have gg := gg.trans gd
        refine K_begin (fun w => Blk w B9 #[.int .i64 z] 3) 10 10 #[false, false, false, false, false, false, false, false, false, false] rfl (by kernel_rfl) (by kernel_rfl) ?_
        generalize w4.drew = wd at *
        refine K_take (v := .bool true) 0 #[true, false, false, false, false, false, false, false, false, false] rfl (by kernel_rfl) (fun _ _ _ h => h) rfl (fun _ _ => rfl) (b9) ?_; simp only [Act.put, List.setIfInBounds_toArray, List.set_cons_succ, List.set_cons_zero]
        refine K_take (v := .bool false) 1 #[true, true, false, false, false, false, false, false, false, false] rfl (by kernel_rfl) (fun _ _ _ h => h) rfl (fun w hF => by first | rfl | (unfold execOp; simp [go_sem, Act.eval])) (b9) ?_; simp only [Act.put, List.setIfInBounds_toArray, List.set_cons_succ, List.set_cons_zero]
        refine K_take (v := .bool false) 2 #[true, true, true, false, false, false, false, false, false, false] rfl (by kernel_rfl) (fun _ _ _ h => h) rfl (fun _ _ => rfl) (b9) ?_; simp only [Act.put, List.setIfInBounds_toArray, List.set_cons_succ, List.set_cons_zero]
        refine K_take (v := .int .i64 W) 3 #[true, true, true, true, false, false, false, false, false, false] rfl (by kernel_rfl) (fun _ _ _ h => h) rfl (fun _ _ => rfl) (b9) ?_; simp only [Act.put, List.setIfInBounds_toArray, List.set_cons_succ, List.set_cons_zero]
        refine K_take (v := .int .i64 H) 4 #[true, true, true, true, true, false, false, false, false, false] rfl (by kernel_rfl) (fun _ _ _ h => h) rfl (fun _ _ => rfl) (b9) ?_; simp only [Act.put, List.setIfInBounds_toArray, List.set_cons_succ, List.set_cons_zero]
        refine K_take 6 #[true, true, true, true, true, false, true, false, false, false] rfl (by kernel_rfl) (fun _ _ _ h => h) rfl (fun w hF => e_load 3 (.tmp 9) _ _ rfl (Try.isAgg3 _) (hF.cell 0)) (b9) ?_; simp only [Act.put, List.setIfInBounds_toArray, List.set_cons_succ, List.set_cons_zero]
        refine K_one 5 #[true, true, true, true, true, true, true, false, false, false] rfl (by kernel_rfl) ?_
        refine r_callx 13 [.tmp 25, .tmp 26] _ [.int .i64 W, .int .i64 H] (fun v w' => Gr wd w' ∧ w'.ownsRow wd.heap.size 3 1 v (mvToC W H 8).length (intsV (mvToC W H 8))) Try.call13 rfl rfl ((movesFor_any W H wd).mono fun e w' h => by obtain ⟨g, v, h1, h2⟩ := h; exact ⟨v, h1, g, h2⟩) ?_
        rintro v5 w5 ⟨g5, own5⟩
        have b4 := g5.blk b4
        have b9 := g5.blk b9
        have gg := gg.trans g5
        simp only [Act.put, List.setIfInBounds_toArray, List.set_cons_succ, List.set_cons_zero]
        refine ⟨fun _ => b9, ?_⟩
        refine K_one 7 #[true, true, true, true, true, true, true, true, false, false] rfl (by kernel_rfl) ?_
        refine r_call 12 [.tmp 27, .tmp 28] _ [v5, .int .i64 z] (.bool true) (fun w' => w' = w5) Try.call12 rfl rfl ((containsK_any v5 (mvToC W H 8) _ z w5 own5 HML.out).mono fun e w' h => by rw [HCC.out] at h; exact h) ?_
        rintro _ rfl
        simp only [Act.put, List.setIfInBounds_toArray, List.set_cons_succ, List.set_cons_zero]
        refine ⟨fun _ => b9, ?_⟩
        refine K_take (v := .bool false) 8 #[true, true, true, true, true, true, true, true, true, false] rfl (by kernel_rfl) (fun _ _ _ h => h) rfl (fun w hF => by first | rfl | (unfold execOp; simp [go_sem, Act.eval])) (b9) ?_; simp only [Act.put, List.setIfInBounds_toArray, List.set_cons_succ, List.set_cons_zero]
        refine K_take (v := .bool false) 9 #[true, true, true, true, true, true, true, true, true, true] rfl (by kernel_rfl) (fun _ _ _ h => h) rfl (fun w hF => by first | rfl | (unfold execOp; simp [go_sem, Act.eval])) (b9) ?_; simp only [Act.put, List.setIfInBounds_toArray, List.set_cons_succ, List.set_cons_zero]
        refine K_done' (by kernel_rfl) ?_
        go_wp2_with ((go_at_call 14; refine (door_okC 15 [.pointer (some ⟨B3, 0, none⟩), .pointer (some ⟨B9, 0, none⟩)] r _ Try.call15 (fun w' g' => HK1.out B3 B9 w' (g'.blk b4) (g'.blk b9))).mono ?_; rintro e w6 ⟨rfl, g6⟩; have z6 := g6.size; have gg := gg.trans g6))
        go_ret2
        exact ⟨fin_ibN HVV.out.1 HVV.out.2, gg⟩
      · have HVV := hidI (kp_no (kp_bad (z := (k : Int)) (ct_over ho hpp (by omega)).1))
        rw [← hzk] at HVV
        have hl2 : 1000000000000000 < p := by omega
        clear ho hv hm hcc hz hn hM hp hpp g1 g2 g3 g4 g5 g6 g7 HCK hzk
        go_enter Try.func5, Try.ntmps5
        go_wp2_with (first | (refine r_box1 3 _ (.int .i64 z) rfl (fun _ => rfl) rfl ?_; intro w1 B9 N1; have g1 := N1.gr; have b9 : Blk w1 B9 #[.int .i64 z] 3 := N1.blk; have z1 := g1.size; have t9 := N1.hi; have l9 := N1.lo; have gg := gg.trans g1; clear N1) | ((go_at_call 11; refine (readFilling_any _ _ _ _ _).mono ?_; rintro e w2 ⟨rfl, g2⟩; rw [HO.out, HV.out]; have z2 := g2.size; have b9 := g2.blk b9; have gg := gg.trans g2)) | (refine r_alloc 30 _ Try.fzero rfl ?_; intro w3 B3 N3; have g3 := N3.gr; have b3 : Blk w3 B3 (fv 0 0 0 0) 30 := N3.blk; have l3 := N3.lo; have t3 := N3.hi; have z3 := g3.size; have b9 := g3.blk b9; have gg := gg.trans g3; clear N3) | (refine r_store_row 30 30 _ _ B3 rfl (fv W H A B) _ rfl b3 Try.fsize rfl (fv_one _ _ _ _) rfl ?_; intro w4 u4 b4; have b9 := u4.blk b9 (by omega); have z4 := u4.size; have gg := u4.gr gg (by omega)))
        have gd := (Gr.refl w4).drew
        have b4 := gd.blk b4
        have b9 := gd.blk b9
        have gg := gg.trans gd
        refine K_begin (fun w => Blk w B9 #[.int .i64 z] 3) 10 10 #[false, false, false, false, false, false, false, false, false, false] rfl (by kernel_rfl) (by kernel_rfl) ?_
        generalize w4.drew = wd at *
        refine K_take (v := .bool true) 0 #[true, false, false, false, false, false, false, false, false, false] rfl (by kernel_rfl) (fun _ _ _ h => h) rfl (fun _ _ => rfl) (b9) ?_; simp only [Act.put, List.setIfInBounds_toArray, List.set_cons_succ, List.set_cons_zero]
        refine K_take (v := .bool false) 1 #[true, true, false, false, false, false, false, false, false, false] rfl (by kernel_rfl) (fun _ _ _ h => h) rfl (fun w hF => by first | rfl | (unfold execOp; simp [go_sem, Act.eval])) (b9) ?_; simp only [Act.put, List.setIfInBounds_toArray, List.set_cons_succ, List.set_cons_zero]
        refine K_take (v := .bool false) 2 #[true, true, true, false, false, false, false, false, false, false] rfl (by kernel_rfl) (fun _ _ _ h => h) rfl (fun _ _ => rfl) (b9) ?_; simp only [Act.put, List.setIfInBounds_toArray, List.set_cons_succ, List.set_cons_zero]
        refine K_take (v := .int .i64 W) 3 #[true, true, true, true, false, false, false, false, false, false] rfl (by kernel_rfl) (fun _ _ _ h => h) rfl (fun _ _ => rfl) (b9) ?_; simp only [Act.put, List.setIfInBounds_toArray, List.set_cons_succ, List.set_cons_zero]
        refine K_take (v := .int .i64 H) 4 #[true, true, true, true, true, false, false, false, false, false] rfl (by kernel_rfl) (fun _ _ _ h => h) rfl (fun _ _ => rfl) (b9) ?_; simp only [Act.put, List.setIfInBounds_toArray, List.set_cons_succ, List.set_cons_zero]
        refine K_take 6 #[true, true, true, true, true, false, true, false, false, false] rfl (by kernel_rfl) (fun _ _ _ h => h) rfl (fun w hF => e_load 3 (.tmp 9) _ _ rfl (Try.isAgg3 _) (hF.cell 0)) (b9) ?_; simp only [Act.put, List.setIfInBounds_toArray, List.set_cons_succ, List.set_cons_zero]
        refine K_one 5 #[true, true, true, true, true, true, true, false, false, false] rfl (by kernel_rfl) ?_
        refine r_callx 13 [.tmp 25, .tmp 26] _ [.int .i64 W, .int .i64 H] (fun v w' => Gr wd w' ∧ w'.ownsRow wd.heap.size 3 1 v (mvToC W H 8).length (intsV (mvToC W H 8))) Try.call13 rfl rfl ((movesFor_any W H wd).mono fun e w' h => by obtain ⟨g, v, h1, h2⟩ := h; exact ⟨v, h1, g, h2⟩) ?_
        rintro v5 w5 ⟨g5, own5⟩
        have b4 := g5.blk b4
        have b9 := g5.blk b9
        have gg := gg.trans g5
        simp only [Act.put, List.setIfInBounds_toArray, List.set_cons_succ, List.set_cons_zero]
        refine ⟨fun _ => b9, ?_⟩
        refine K_one 7 #[true, true, true, true, true, true, true, true, false, false] rfl (by kernel_rfl) ?_
        refine r_call 12 [.tmp 27, .tmp 28] _ [v5, .int .i64 z] (.bool true) (fun w' => w' = w5) Try.call12 rfl rfl ((containsK_any v5 (mvToC W H 8) _ z w5 own5 HML.out).mono fun e w' h => by rw [HCC.out] at h; exact h) ?_
        rintro _ rfl
        simp only [Act.put, List.setIfInBounds_toArray, List.set_cons_succ, List.set_cons_zero]
        refine ⟨fun _ => b9, ?_⟩
        refine K_take (v := .bool false) 8 #[true, true, true, true, true, true, true, true, true, false] rfl (by kernel_rfl) (fun _ _ _ h => h) rfl (fun w hF => by first | rfl | (unfold execOp; simp [go_sem, Act.eval])) (b9) ?_; simp only [Act.put, List.setIfInBounds_toArray, List.set_cons_succ, List.set_cons_zero]
        refine K_take (v := .bool false) 9 #[true, true, true, true, true, true, true, true, true, true] rfl (by kernel_rfl) (fun _ _ _ h => h) rfl (fun w hF => by first | rfl | (unfold execOp; simp [go_sem, Act.eval])) (b9) ?_; simp only [Act.put, List.setIfInBounds_toArray, List.set_cons_succ, List.set_cons_zero]
        refine K_done' (by kernel_rfl) ?_
        go_wp2_with ((go_at_call 14; refine (door_noC 15 [.pointer (some ⟨B3, 0, none⟩), .pointer (some ⟨B9, 0, none⟩)] p _ Try.call15 (fun w' g' => kept1_no W H A B p B3 _ w' (g'.blk b4) HCT.out hl2)).mono ?_; rintro e w6 ⟨rfl, g6⟩; have z6 := g6.size; have gg := gg.trans g6))
        go_ret2
        exact ⟨fin_ibN HVV.out.1 HVV.out.2, gg⟩
theorem lawCountKept (x y a b z : Int) (w : World) : Calls Try.prog 3 #[.int .i64 x, .int .i64 y, .int .i64 a, .int .i64 b, .int .i64 z] w (Ret (.bool true) w) := by
  have gg := Gr.refl w
  go_enter Try.func3, Try.ntmps3
  go_wp2_with (first | (go_at_call 4; refine (sCountKept x y a b z _).mono ?_; rintro e w1 ⟨rfl, g1⟩; have z1 := g1.size; have gg := gg.trans g1) | (go_at_call 5; refine (iCountKept x y a b z _).mono ?_; rintro e w2 ⟨rfl, g2⟩; have z2 := g2.size; have gg := gg.trans g2))
  go_ret
  exact ⟨rfl, gg⟩
end Go.Proofs.Ytmjmjibokombiaa
