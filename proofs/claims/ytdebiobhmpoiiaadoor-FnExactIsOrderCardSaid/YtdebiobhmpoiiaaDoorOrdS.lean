/-
  Orders in the model: the list that is asked, and whether it is an order.
-/
import Derived.Test.YtdebiobhmpoiiaaDoorOrdJ
import Derived.Test.YtdebiobhmpoiiaaDoorFormM
import Derived.Test.YtdebiobhmpoiiaaDoorFormY
namespace Go.Proofs.YtdebiobhmpoiiaaDoor
open Go.RowKit
theorem wy_head {W H : Nat} {c : List UInt8} {i : Nat} : ∀ {k : Nat}, 0 ≤ wyN W H c i k → (wyL W H c i k).headD 0 = dB (wyN W H c i k).toNat ∧ wyL W H c i k ≠ []
  | 0, h => absurd h (by show ¬ (0 : Int) ≤ -1; decide)
  | k + 1, h => by
    by_cases h0 : 0 ≤ wyN W H c i k
    · obtain ⟨h1, h2⟩ := wy_head h0
      have e : wyN W H c i (k + 1) = wyN W H c i k := by rw [wyN, if_pos h0]
      rw [e, ← h1, wyL]
      split
      · cases hl : wyL W H c i k with
        | nil => exact absurd hl h2
        | cons b r => exact ⟨rfl, by simp⟩
      · exact ⟨rfl, h2⟩
    · have hl : wyL W H c i k = [] := wyL_nil.2 (wyN_neg.1 (by omega))
      rw [wyN, if_neg h0] at h ⊢
      by_cases hf : frB W H c k i = true
      · rw [if_pos hf, wyL, if_pos hf, hl]
        exact ⟨rfl, by simp⟩
      · rw [if_neg hf] at h
        exact absurd h (by decide)
theorem e_leqO {P : Program} {w : World} {a : Act} {dst : Option Tmp} {ty T yt : TypeId} {pos : String} {aft : Array Edge} {gd : Option (Nat × Bool)} {k : IntKind} (x y : Operand) (m n : Int) (v : Bool) (hx : a.eval x = .int k m) (hy : a.eval y = .int k n) (hv : decide (m ≤ n) = v) :
    (execOp a.eval ⟨dst, .binOp .leq T x y yt, ty, pos, aft, gd⟩).run P w = .ok (.value (.bool v)) w := by
  subst hv
  unfold execOp
  simp [hx, hy, eqGuard, binOp, Op.intCmp]
def cbInX (L : List Int) (x : Int) : Bool := L.contains x
theorem cbIn_iffX {L : List Int} {x : Int} : cbInX L x = true ↔ x ∈ L := by unfold cbInX; rw [List.contains_iff_mem]
theorem cb_gi_memX {L : List Int} {i : Nat} (h : i < L.length) : gi L i ∈ L := by
  unfold gi
  rw [List.getD_eq_getElem?_getD, List.getElem?_eq_getElem h]
  exact List.getElem_mem h
theorem cb_mem_giX {L : List Int} {x : Int} (h : x ∈ L) : ∃ j, j < L.length ∧ gi L j = x := by
  obtain ⟨j, hj, rfl⟩ := List.getElem_of_mem h
  exact ⟨j, hj, by unfold gi; rw [List.getD_eq_getElem?_getD, List.getElem?_eq_getElem hj]; rfl⟩
set_option maxHeartbeats 400000 in
theorem cbHas_anyX (v : Value) (L : List Int) (x : Int) (base : Nat) (w : World) (h1 : w.ownsRow base 3 1 v L.length (intsV L)) (hl : L.length ≤ 1048576) : Calls Tryd.prog 75 #[v, .int .i64 x] w (Ret (.bool (cbInX L x)) w) := by
  have gg := Gr.refl w
  have H1 := hidI h1
  obtain ⟨p1, m1, q1, rfl⟩ := own_slice h1
  obtain rfl := own_len h1
  clear h1
  go_enter Tryd.func75, Tryd.ntmps75
  go_wp2
  go_loop [6, 9] (fun _ i => ∃ k : Nat, k ≤ L.length ∧ i = .int .i64 k ∧ Hid (∀ j, j < k → gi L j ≠ x)) (fun _ i => L.length - (intOf i).toNat)
  case atStart => exact ⟨0, Nat.zero_le _, rfl, fun j hj => by omega⟩
  case round =>
    obtain ⟨k, hk, rfl, HA⟩ := hrel
    by_cases hlt : k < L.length
    · obtain ⟨g, c, e, -, -⟩ := own_shape H1.out (by omega)
      cases e
      have hc := own_int H1.out k hlt rfl
      by_cases hb : gi L k = x
      · have e1 : (gi L k == x) = true := by rw [hb]; simp
        have HV := hidI (show cbInX L x = true from by exact cbIn_iffX.2 (hb ▸ cb_gi_memX hlt))
        clear hb
        go_wp2
        go_ret
        exact ⟨ret_bool HV.out.symm, gg⟩
      · have e1 : (gi L k == x) = false := by rw [beq_eq_false_iff_ne]; exact hb
        have HB := hidI hb
        clear hb
        go_wp2
        go_round
        case rel => exact ⟨k + 1, by omega, by go_num, fun j hj => if h : j < k then HA.out j h else by rw [show j = k by omega]; exact HB.out⟩
        case measure => simp [intOf]; omega
    · obtain rfl : k = L.length := by omega
      have HV := hidI (show cbInX L x = false from by
        rw [← Bool.not_eq_true, cbIn_iffX]
        intro hm
        obtain ⟨j, hj, e⟩ := cb_mem_giX hm
        exact HA.out j hj e)
      clear hlt
      go_wp2
      go_ret
      exact ⟨ret_bool HV.out.symm, gg⟩
set_option maxHeartbeats 1000000 in
set_option maxRecDepth 100000 in
theorem l1All_any (sl : Value) (L : List Int) (base : Nat) (lo h : Int) (w : World) (hown : w.ownsRow base 3 1 sl L.length (intsV L)) (hl : L.length ≤ 1048576) :
    Calls Tryd.prog 72 #[sl, .int .i64 lo, .int .i64 h] w (Ret (.bool (L.all fun x => btw x lo h)) w) := by
  have gg := Gr.refl w
  obtain ⟨p, q, rfl⟩ := own_slO hown
  obtain ⟨n, hn⟩ : ∃ n, n = L.length := ⟨_, rfl⟩
  rw [← hn] at hown hl
  rw [← hn]
  have HN := hidI hn
  have HROW := hidI hown
  have HSH := hidI (fun (h0 : 0 < n) => own_shape hown h0)
  have HNO := hidI (fun k (hk : k < n) (hb : btw (gi L k) lo h = false) => show (L.all fun x => btw x lo h) = false from by
    rw [← Bool.not_eq_true, List.all_eq_true]
    intro ha
    have := ha (gi L k) (cb_gi_memX (by rw [← hn]; exact hk))
    rw [hb] at this
    cases this)
  have HYE := hidI (fun (ha : ∀ k, k < n → btw (gi L k) lo h = true) => show (L.all fun x => btw x lo h) = true from by
    rw [List.all_eq_true]
    intro x hx
    obtain ⟨j, hj, e⟩ := List.getElem_of_mem hx
    have := ha j (by rw [hn]; exact hj)
    unfold gi at this
    rw [List.getD_eq_getElem?_getD, List.getElem?_eq_getElem hj] at this
    rw [← e]
    exact this)
  obtain ⟨R, hR⟩ : ∃ R, R = L.all fun x => btw x lo h := ⟨_, rfl⟩
  rw [← hR] at HNO HYE ⊢
  clear hn hR hown
  go_enter Tryd.func72, Tryd.ntmps72
  go_wp2
  go_loopw [11] (fun iv wr => ∃ k : Nat, k ≤ n ∧ iv = .int .i64 k ∧ Hid (∀ j, j < k → btw (gi L j) lo h = true) ∧ wr = w) (fun iv _ => n - (intOf iv).toNat)
  case atStart => exact ⟨0, Nat.zero_le _, rfl, hidI (fun j hj => absurd hj (Nat.not_lt_zero _)), rfl⟩
  case round =>
    obtain ⟨k, hk, rfl, HA, hww⟩ := hrel
    subst hww
    by_cases hlt : k < n
    · obtain ⟨G, cap, eG, -, -⟩ := HSH.out (by omega)
      obtain ⟨rfl, rfl⟩ : p = some ⟨G, 0, none⟩ ∧ q = cap := by
        simp only [Value.slice.injEq] at eG
        exact ⟨eG.1, eG.2.2⟩
      clear eG
      have hck : wr.cell? ⟨G, k, none⟩ = some (.int .i64 (gi L k)) := (HROW.out.cellAt k (by omega)).trans (intsV_getO L k (by rw [← HN.out]; exact hlt))
      have HL1 := hidI (fun w' => l1In_any (gi L k) lo h w')
      have HN2 := hidI (HNO.out k hlt)
      have HA2 := hidI (fun (hb : btw (gi L k) lo h = true) => show ∀ j, j < k + 1 → btw (gi L j) lo h = true from fun j hj => if h1 : j < k then HA.out j h1 else by rw [show j = k by omega]; exact hb)
      obtain ⟨x, hx⟩ : ∃ x, x = gi L k := ⟨_, rfl⟩
      rw [← hx] at hck HL1 HN2 HA2
      clear hx
      cases hb : btw x lo h with
      | false =>
        rw [hb] at HL1
        have HV := hidI (HN2.out hb)
        clear hb
        go_wp2_with (first | (refine r_idx 34 _ _ (.slice (some ⟨G, 0, none⟩) n q) (.int .i64 k) _ rfl rfl (Tryd.nixO G n q k hlt _) rfl ?_) | (refine r_ldc 3 _ ⟨G, k, none⟩ (.int .i64 x) rfl (Tryd.isAgg3 _) hck rfl ?_) | (go_at_call 84; refine (HL1.out _).mono ?_; rintro e wSame ⟨rfl, rfl⟩))
        go_ret
        exact ⟨ret_bool HV.out.symm, gg⟩
      | true =>
        rw [hb] at HL1
        have HA3 := hidI (HA2.out hb)
        clear hb HA2
        go_wp2_with (first | (refine r_idx 34 _ _ (.slice (some ⟨G, 0, none⟩) n q) (.int .i64 k) _ rfl rfl (Tryd.nixO G n q k hlt _) rfl ?_) | (refine r_ldc 3 _ ⟨G, k, none⟩ (.int .i64 x) rfl (Tryd.isAgg3 _) hck rfl ?_) | (go_at_call 84; refine (HL1.out _).mono ?_; rintro e wSame ⟨rfl, rfl⟩))
        go_roundw
        case rel => exact ⟨k + 1, by omega, by go_num, HA3, trivial⟩
        case measure => simp [intOf]; omega
    · obtain rfl : k = n := by omega
      have HV := hidI (HYE.out HA.out)
      clear hlt
      go_wp2
      go_ret
      exact ⟨ret_bool HV.out.symm, gg⟩
def RetOl (T : TypeId) (l : List UInt8) (L : List Int) (w : World) (e : Ending) (w' : World) : Prop :=
  Gr w w' ∧ ((odIn l L = false ∧ ∃ (x y : Int) (sl : Value), sl.oneCell' = true ∧ e = .returned (.tuple #[.agg (tg x y sl), .bool false])) ∨
    ∃ (g : Grid) (G cap : Nat), rdG l = g ∧ fmOk l = true ∧ FormG g ∧ odIn l L = true ∧ e = .returned (.tuple #[.agg (tg g.w g.h (.slice (some ⟨G, 0, none⟩) (nn g.w g.h) cap)), .bool true]) ∧ w'.ownsRow w.heap.size T 1 (.slice (some ⟨G, 0, none⟩) (nn g.w g.h) cap) (nn g.w g.h) (cellsV g.c))
theorem all_btw (L : List Int) (N : Nat) : (L.all fun x => btw x 0 ((N : Int) - 1)) = L.all fun x => inB x N := by
  induction L with
  | nil => rfl
  | cons x r ih => rw [List.all_cons, List.all_cons, ih, btw_inB]
set_option maxHeartbeats 4000000 in
set_option maxRecDepth 100000 in
theorem buList_any (s : ByteArray) (L : List Int) (sl0 : Value) (bL : Nat) (w : World) (hs : s.size ≤ 1048576) (hL : L.length ≤ 1048576) (hown : w.ownsRow bL 3 1 sl0 L.length (intsV L)) : Calls Tryd.prog 41 #[.string s, sl0] w (RetOl 5 s.data.toList L w) := by
  have gg := Gr.refl w
  obtain ⟨pL, qL, rfl⟩ := own_slO hown
  obtain ⟨n, hn⟩ : ∃ n, n = L.length := ⟨_, rfl⟩
  have HROW := hidI hown
  have HNL := hidI hn
  rw [← hn] at hL
  rw [← hn]
  clear hown hn
  go_enter Tryd.func41, Tryd.ntmps41
  go_wp2_with (refine r_alloc (dst := some 4) 55 _ Tryd.tzero rfl ?_; intro w1 B1 N1; have g1 := N1.gr; have b1 : Blk w1 B1 (tg 0 0 (.slice none 0 0)) 55 := N1.blk; have l1 := N1.lo; have t1 := N1.hi; have z1 := g1.size; have gg := gg.trans g1; clear N1; obtain ⟨b1_0, b1_1, b1_2⟩ := tcells b1)
  refine (buRead_any s _ hs).mono ?_
  rintro e w2 ⟨g2, ⟨hf, xa, xb, sl, hone, rfl⟩ | ⟨g, G, cap, hp, hg, hf, hfg, F, rfl, own⟩⟩
  · have HN := hidI (show odIn s.data.toList L = false from by unfold odIn; rw [hf]; rfl)
    have z2 := g2.size
    have b1 := g2.blk b1
    have gg := gg.trans g2
    clear hf
    go_wp2_with (first | (refine r_alloc (dst := some 6) 55 _ Tryd.tzero rfl ?_; intro w6 B6 N6; have g6 := N6.gr; have b6 : Blk w6 B6 (tg 0 0 (.slice none 0 0)) 55 := N6.blk; have l6 := N6.lo; have t6 := N6.hi; have z6 := g6.size; have b1 := g6.blk b1; obtain ⟨b1_0, b1_1, b1_2⟩ := tcells b1; have gg := gg.trans g6; clear N6; obtain ⟨b6_0, b6_1, b6_2⟩ := tcells b6) | (refine r_store_row 55 55 _ _ _ rfl (tg _ _ _) _ rfl b6 Tryd.tsize rfl (tg_one hone) rfl ?_; intro w3 u3 b6'; have z3 := u3.size; have gg := u3.gr gg (by omega); have b1 := u3.blk b1 (by omega); obtain ⟨b1_0, b1_1, b1_2⟩ := tcells b1; clear b6; have b6 := b6'; clear b6'; obtain ⟨b6_0, b6_1, b6_2⟩ := tcells b6))
    have gd := (Gr.refl w3).drew
    have b1 := gd.blk b1
    have b6 := gd.blk b6
    have gg := gg.trans gd
    have zd := gd.size
    refine K_begin (fun w => Blk w B6 (tg xa xb sl) 55) 17 17 #[false, false, false, false, false, false, false, false, false, false, false, false, false, false, false, false, false] rfl (by kernel_rfl) (by kernel_rfl) ?_
    generalize w3.drew = wd at *
    refine K_take 0 #[true, false, false, false, false, false, false, false, false, false, false, false, false, false, false, false, false] rfl (by kernel_rfl) (fun _ _ _ h => h) rfl (fun w hF => e_load_row 55 (.tmp 6) B6 _ _ _ rfl hF Tryd.underlying55 rfl Tryd.tinfo) (b6) ?_; simp only [Act.put, List.setIfInBounds_toArray, List.set_cons_succ, List.set_cons_zero]
    refine K_take (v := .bool false) 1 #[true, true, false, false, false, false, false, false, false, false, false, false, false, false, false, false, false] rfl (by kernel_rfl) (fun _ _ _ h => h) rfl (fun _ _ => rfl) (b6) ?_; simp only [Act.put, List.setIfInBounds_toArray, List.set_cons_succ, List.set_cons_zero]
    refine K_take (v := .bool false) 2 #[true, true, true, false, false, false, false, false, false, false, false, false, false, false, false, false, false] rfl (by kernel_rfl) (fun _ _ _ h => h) rfl (fun _ _ => rfl) (b6) ?_; simp only [Act.put, List.setIfInBounds_toArray, List.set_cons_succ, List.set_cons_zero]
    refine K_skip 3 #[true, true, true, true, false, false, false, false, false, false, false, false, false, false, false, false, false] rfl (by kernel_rfl) (fun _ _ _ h => h) rfl (b6) ?_; simp only [Act.put, List.setIfInBounds_toArray, List.set_cons_succ, List.set_cons_zero]
    refine K_skip 4 #[true, true, true, true, true, false, false, false, false, false, false, false, false, false, false, false, false] rfl (by kernel_rfl) (fun _ _ _ h => h) rfl (b6) ?_; simp only [Act.put, List.setIfInBounds_toArray, List.set_cons_succ, List.set_cons_zero]
    refine K_skip 5 #[true, true, true, true, true, true, false, false, false, false, false, false, false, false, false, false, false] rfl (by kernel_rfl) (fun _ _ _ h => h) rfl (b6) ?_; simp only [Act.put, List.setIfInBounds_toArray, List.set_cons_succ, List.set_cons_zero]
    refine K_take (v := .bool false) 6 #[true, true, true, true, true, true, true, false, false, false, false, false, false, false, false, false, false] rfl (by kernel_rfl) (fun _ _ _ h => h) rfl (fun w hF => by first | rfl | (unfold execOp; simp [go_sem, Act.eval])) (b6) ?_; simp only [Act.put, List.setIfInBounds_toArray, List.set_cons_succ, List.set_cons_zero]
    refine K_take (v := .bool false) 7 #[true, true, true, true, true, true, true, true, false, false, false, false, false, false, false, false, false] rfl (by kernel_rfl) (fun _ _ _ h => h) rfl (fun _ _ => rfl) (b6) ?_; simp only [Act.put, List.setIfInBounds_toArray, List.set_cons_succ, List.set_cons_zero]
    refine K_skip 8 #[true, true, true, true, true, true, true, true, true, false, false, false, false, false, false, false, false] rfl (by kernel_rfl) (fun _ _ _ h => h) rfl (b6) ?_; simp only [Act.put, List.setIfInBounds_toArray, List.set_cons_succ, List.set_cons_zero]
    refine K_skip 9 #[true, true, true, true, true, true, true, true, true, true, false, false, false, false, false, false, false] rfl (by kernel_rfl) (fun _ _ _ h => h) rfl (b6) ?_; simp only [Act.put, List.setIfInBounds_toArray, List.set_cons_succ, List.set_cons_zero]
    refine K_skip 10 #[true, true, true, true, true, true, true, true, true, true, true, false, false, false, false, false, false] rfl (by kernel_rfl) (fun _ _ _ h => h) rfl (b6) ?_; simp only [Act.put, List.setIfInBounds_toArray, List.set_cons_succ, List.set_cons_zero]
    refine K_skip 11 #[true, true, true, true, true, true, true, true, true, true, true, true, false, false, false, false, false] rfl (by kernel_rfl) (fun _ _ _ h => h) rfl (b6) ?_; simp only [Act.put, List.setIfInBounds_toArray, List.set_cons_succ, List.set_cons_zero]
    refine K_skip 12 #[true, true, true, true, true, true, true, true, true, true, true, true, true, false, false, false, false] rfl (by kernel_rfl) (fun _ _ _ h => h) rfl (b6) ?_; simp only [Act.put, List.setIfInBounds_toArray, List.set_cons_succ, List.set_cons_zero]
    refine K_skip 13 #[true, true, true, true, true, true, true, true, true, true, true, true, true, true, false, false, false] rfl (by kernel_rfl) (fun _ _ _ h => h) rfl (b6) ?_; simp only [Act.put, List.setIfInBounds_toArray, List.set_cons_succ, List.set_cons_zero]
    refine K_take (v := .bool false) 14 #[true, true, true, true, true, true, true, true, true, true, true, true, true, true, true, false, false] rfl (by kernel_rfl) (fun _ _ _ h => h) rfl (fun w hF => by first | rfl | (unfold execOp; simp [go_sem, Act.eval])) (b6) ?_; simp only [Act.put, List.setIfInBounds_toArray, List.set_cons_succ, List.set_cons_zero]
    refine K_one 15 #[true, true, true, true, true, true, true, true, true, true, true, true, true, true, true, true, false] rfl (by kernel_rfl) ?_
    refine r_store_row 55 55 _ _ B1 rfl (tg xa xb sl) _ rfl b1 Tryd.tsize rfl (tg_one hone) rfl ?_
    intro w6 u6 b1'
    simp only [Act.put]
    have b6 := u6.blk b6 (by omega)
    have gg := u6.gr gg (by omega)
    refine ⟨fun _ => b6, ?_⟩
    refine K_one 16 #[true, true, true, true, true, true, true, true, true, true, true, true, true, true, true, true, true] rfl (by kernel_rfl) ?_
    refine r_val (.bool false) rfl rfl ?_
    simp only [Act.put, List.setIfInBounds_toArray, List.set_cons_succ, List.set_cons_zero]
    refine ⟨fun _ => b6, ?_⟩
    refine K_done' (by kernel_rfl) ?_
    go_wp2
    refine bodyPost_ret (results_row_bool rfl _ _ _ _ _ _ rfl b1' Tryd.underlying55 rfl Tryd.tinfo) rfl ?_
    exact ⟨gg, .inl ⟨HN.out, _, _, _, hone, rfl⟩⟩
  · obtain ⟨N, hN⟩ : ∃ N, N = nn g.w g.h := ⟨_, rfl⟩
    have hN36 : N ≤ 36 := by rw [hN]; exact F.t.n36
    have HI := hidI (show odIn s.data.toList L = (decide (n ≤ 10) && L.all fun x => inB x N) from by unfold odIn; rw [hf, hg, hN, HNL.out]; rfl)
    have HEN := hidI hN
    have HEG := hidI hg
    have HEF := hidI hf
    rw [← hN] at own
    rw [← hN]
    have z2 := g2.size
    have b1 := g2.blk b1
    have gg := gg.trans g2
    have hone := own_one own
    clear hp hg hf hfg hN
    by_cases h10 : n ≤ 10
    · obtain ⟨B, hB⟩ : ∃ B, B = L.all fun x => inB x N := ⟨_, rfl⟩
      have HC := hidI (show odIn s.data.toList L = B from by rw [HI.out, decide_eq_true h10, Bool.true_and, hB])
      have HL1 := hidI (fun w' (ho : w'.ownsRow bL 3 1 (.slice pL L.length qL) L.length (intsV L)) => show Calls Tryd.prog 72 #[.slice pL n qL, .int .i64 0, .int .i64 ((N : Int) - 1)] w' (Ret (.bool B) w') from by
        have := l1All_any _ L bL 0 ((N : Int) - 1) w' ho (by rw [← HNL.out]; exact hL)
        rw [all_btw, ← hB, ← HNL.out] at this
        exact this)
      have hle : decide ((n : Int) ≤ 10) = true := decide_eq_true (by omega)
      clear hB h10
      go_wp2_with (first | (refine r_alloc (dst := some 6) 55 _ Tryd.tzero rfl ?_; intro w6 B6 N6; have g6 := N6.gr; have b6 : Blk w6 B6 (tg 0 0 (.slice none 0 0)) 55 := N6.blk; have l6 := N6.lo; have t6 := N6.hi; have z6 := g6.size; have b1 := g6.blk b1; obtain ⟨b1_0, b1_1, b1_2⟩ := tcells b1; have gg := gg.trans g6; clear N6; obtain ⟨b6_0, b6_1, b6_2⟩ := tcells b6) | (refine r_store_row 55 55 _ _ _ rfl (tg _ _ _) _ rfl b6 Tryd.tsize rfl (tg_one hone) rfl ?_; intro w3 u3 b6'; have z3 := u3.size; have gg := u3.gr gg (by omega); have b1 := u3.blk b1 (by omega); obtain ⟨b1_0, b1_1, b1_2⟩ := tcells b1; clear b6; have b6 := b6'; clear b6'; obtain ⟨b6_0, b6_1, b6_2⟩ := tcells b6))
      have own := u3.row (g6.row own) (own_new own l6)
      have gd := (Gr.refl w3).drew
      have b1 := gd.blk b1
      have b6 := gd.blk b6
      have own := gd.row own
      have gg := gg.trans gd
      have zd := gd.size
      refine K_begin (fun w => Blk w B6 (tg g.w g.h (.slice (some ⟨G, 0, none⟩) N cap)) 55) 17 17 #[false, false, false, false, false, false, false, false, false, false, false, false, false, false, false, false, false] rfl (by kernel_rfl) (by kernel_rfl) ?_
      generalize w3.drew = wd at *
      refine K_take 0 #[true, false, false, false, false, false, false, false, false, false, false, false, false, false, false, false, false] rfl (by kernel_rfl) (fun _ _ _ h => h) rfl (fun w hF => e_load_row 55 (.tmp 6) B6 _ _ _ rfl hF Tryd.underlying55 rfl Tryd.tinfo) (b6) ?_; simp only [Act.put, List.setIfInBounds_toArray, List.set_cons_succ, List.set_cons_zero]
      refine K_take (v := .bool true) 1 #[true, true, false, false, false, false, false, false, false, false, false, false, false, false, false, false, false] rfl (by kernel_rfl) (fun _ _ _ h => h) rfl (fun _ _ => rfl) (b6) ?_; simp only [Act.put, List.setIfInBounds_toArray, List.set_cons_succ, List.set_cons_zero]
      refine K_take (v := .bool true) 2 #[true, true, true, false, false, false, false, false, false, false, false, false, false, false, false, false, false] rfl (by kernel_rfl) (fun _ _ _ h => h) rfl (fun _ _ => rfl) (b6) ?_; simp only [Act.put, List.setIfInBounds_toArray, List.set_cons_succ, List.set_cons_zero]
      refine K_take (v := .slice pL n qL) 3 #[true, true, true, true, false, false, false, false, false, false, false, false, false, false, false, false, false] rfl (by kernel_rfl) (fun _ _ _ h => h) rfl (fun _ _ => rfl) (b6) ?_; simp only [Act.put, List.setIfInBounds_toArray, List.set_cons_succ, List.set_cons_zero]
      refine K_take (v := .int .i64 n) 4 #[true, true, true, true, true, false, false, false, false, false, false, false, false, false, false, false, false] rfl (by kernel_rfl) (fun _ _ _ h => h) rfl (fun w hF => by first | rfl | (unfold execOp; simp [go_sem, Act.eval])) (b6) ?_; simp only [Act.put, List.setIfInBounds_toArray, List.set_cons_succ, List.set_cons_zero]
      refine K_take (v := .bool true) 5 #[true, true, true, true, true, true, false, false, false, false, false, false, false, false, false, false, false] rfl (by kernel_rfl) (fun _ _ _ h => h) rfl (fun w hF => e_leqO _ _ (n : Int) 10 true rfl rfl hle) (b6) ?_; simp only [Act.put, List.setIfInBounds_toArray, List.set_cons_succ, List.set_cons_zero]
      refine K_take (v := .bool true) 6 #[true, true, true, true, true, true, true, false, false, false, false, false, false, false, false, false, false] rfl (by kernel_rfl) (fun _ _ _ h => h) rfl (fun w hF => by first | rfl | (unfold execOp; simp [go_sem, Act.eval])) (b6) ?_; simp only [Act.put, List.setIfInBounds_toArray, List.set_cons_succ, List.set_cons_zero]
      refine K_take (v := .bool true) 7 #[true, true, true, true, true, true, true, true, false, false, false, false, false, false, false, false, false] rfl (by kernel_rfl) (fun _ _ _ h => h) rfl (fun _ _ => rfl) (b6) ?_; simp only [Act.put, List.setIfInBounds_toArray, List.set_cons_succ, List.set_cons_zero]
      refine K_take (v := .slice pL n qL) 8 #[true, true, true, true, true, true, true, true, true, false, false, false, false, false, false, false, false] rfl (by kernel_rfl) (fun _ _ _ h => h) rfl (fun _ _ => rfl) (b6) ?_; simp only [Act.put, List.setIfInBounds_toArray, List.set_cons_succ, List.set_cons_zero]
      refine K_take 9 #[true, true, true, true, true, true, true, true, true, true, false, false, false, false, false, false, false] rfl (by kernel_rfl) (fun _ _ _ h => h) rfl (fun w hF => e_val _ _ (Tryd.tf2 B6 _)) (b6) ?_; simp only [Act.put, List.setIfInBounds_toArray, List.set_cons_succ, List.set_cons_zero]
      refine K_take 10 #[true, true, true, true, true, true, true, true, true, true, true, false, false, false, false, false, false] rfl (by kernel_rfl) (fun _ _ _ h => h) rfl (fun w hF => e_load 53 (.tmp 22) ⟨B6, 2, none⟩ (.slice (some ⟨G, 0, none⟩) N cap) rfl (Tryd.isAgg53 _) (tcells hF).2.2) (b6) ?_; simp only [Act.put, List.setIfInBounds_toArray, List.set_cons_succ, List.set_cons_zero]
      refine K_take (v := .int .i64 N) 11 #[true, true, true, true, true, true, true, true, true, true, true, true, false, false, false, false, false] rfl (by kernel_rfl) (fun _ _ _ h => h) rfl (fun w hF => by first | rfl | (unfold execOp; simp [go_sem, Act.eval])) (b6) ?_; simp only [Act.put, List.setIfInBounds_toArray, List.set_cons_succ, List.set_cons_zero]
      refine K_take (v := .int .i64 ((N : Int) - 1)) 12 #[true, true, true, true, true, true, true, true, true, true, true, true, true, false, false, false, false] rfl (by kernel_rfl) (fun _ _ _ h => h) rfl (fun w hF => e_subF _ _ (N : Int) 1 ((N : Int) - 1) rfl rfl rfl (by omega)) (b6) ?_; simp only [Act.put, List.setIfInBounds_toArray, List.set_cons_succ, List.set_cons_zero]
      refine K_one 13 #[true, true, true, true, true, true, true, true, true, true, true, true, true, true, false, false, false] rfl (by kernel_rfl) ?_
      refine r_call 72 [.tmp 21, .const (.int .i64 0), .tmp 25] _ [.slice pL n qL, .int .i64 0, .int .i64 ((N : Int) - 1)] (.bool B) (fun w' => Gr wd w') Tryd.call72 rfl rfl (HL1.out wd (gg.row HROW.out)) ?_
      intro w7 g7
      have b1 := g7.blk b1
      have b6 := g7.blk b6
      have own := g7.row own
      have gg := gg.trans g7
      have z7 := g7.size
      simp only [Act.put, List.setIfInBounds_toArray, List.set_cons_succ, List.set_cons_zero]
      refine ⟨fun _ => b6, ?_⟩
      refine K_take (v := .bool B) 14 #[true, true, true, true, true, true, true, true, true, true, true, true, true, true, true, false, false] rfl (by kernel_rfl) (fun _ _ _ h => h) rfl (fun w hF => by first | rfl | (unfold execOp; simp [go_sem, Act.eval])) (b6) ?_; simp only [Act.put, List.setIfInBounds_toArray, List.set_cons_succ, List.set_cons_zero]
      refine K_one 15 #[true, true, true, true, true, true, true, true, true, true, true, true, true, true, true, true, false] rfl (by kernel_rfl) ?_
      refine r_store_row 55 55 _ _ B1 rfl (tg g.w g.h (.slice (some ⟨G, 0, none⟩) N cap)) _ rfl b1 Tryd.tsize rfl (tg_one hone) rfl ?_
      intro w8 u8 b1'
      simp only [Act.put]
      have own := u8.row own (own_ne own b1 (by decide))
      have b6 := u8.blk b6 (by omega)
      have gg := u8.gr gg (by omega)
      refine ⟨fun _ => b6, ?_⟩
      refine K_one 16 #[true, true, true, true, true, true, true, true, true, true, true, true, true, true, true, true, true] rfl (by kernel_rfl) ?_
      refine r_val (.bool B) rfl rfl ?_
      simp only [Act.put, List.setIfInBounds_toArray, List.set_cons_succ, List.set_cons_zero]
      refine ⟨fun _ => b6, ?_⟩
      refine K_done' (by kernel_rfl) ?_
      go_wp2
      refine bodyPost_ret (results_row_bool rfl _ _ _ _ _ _ rfl b1' Tryd.underlying55 rfl Tryd.tinfo) rfl ?_
      refine ⟨gg, ?_⟩
      cases B with
      | false => exact .inl ⟨HC.out, _, _, _, hone, rfl⟩
      | true =>
        have hEN := HEN.out
        refine .inr ⟨g, G, cap, HEG.out, HEF.out, F, HC.out, ?_, ?_⟩
        · rw [← hEN]
          rfl
        · rw [← hEN]
          exact own_up own (by omega)
    · have HN := hidI (show odIn s.data.toList L = false from by rw [HI.out, decide_eq_false h10]; rfl)
      have hle : decide ((n : Int) ≤ 10) = false := decide_eq_false (by omega)
      clear h10
      go_wp2_with (first | (refine r_alloc (dst := some 6) 55 _ Tryd.tzero rfl ?_; intro w6 B6 N6; have g6 := N6.gr; have b6 : Blk w6 B6 (tg 0 0 (.slice none 0 0)) 55 := N6.blk; have l6 := N6.lo; have t6 := N6.hi; have z6 := g6.size; have b1 := g6.blk b1; obtain ⟨b1_0, b1_1, b1_2⟩ := tcells b1; have gg := gg.trans g6; clear N6; obtain ⟨b6_0, b6_1, b6_2⟩ := tcells b6) | (refine r_store_row 55 55 _ _ _ rfl (tg _ _ _) _ rfl b6 Tryd.tsize rfl (tg_one hone) rfl ?_; intro w3 u3 b6'; have z3 := u3.size; have gg := u3.gr gg (by omega); have b1 := u3.blk b1 (by omega); obtain ⟨b1_0, b1_1, b1_2⟩ := tcells b1; clear b6; have b6 := b6'; clear b6'; obtain ⟨b6_0, b6_1, b6_2⟩ := tcells b6))
      have gd := (Gr.refl w3).drew
      have b1 := gd.blk b1
      have b6 := gd.blk b6
      have gg := gg.trans gd
      have zd := gd.size
      refine K_begin (fun w => Blk w B6 (tg g.w g.h (.slice (some ⟨G, 0, none⟩) N cap)) 55) 17 17 #[false, false, false, false, false, false, false, false, false, false, false, false, false, false, false, false, false] rfl (by kernel_rfl) (by kernel_rfl) ?_
      generalize w3.drew = wd at *
      refine K_take 0 #[true, false, false, false, false, false, false, false, false, false, false, false, false, false, false, false, false] rfl (by kernel_rfl) (fun _ _ _ h => h) rfl (fun w hF => e_load_row 55 (.tmp 6) B6 _ _ _ rfl hF Tryd.underlying55 rfl Tryd.tinfo) (b6) ?_; simp only [Act.put, List.setIfInBounds_toArray, List.set_cons_succ, List.set_cons_zero]
      refine K_take (v := .bool true) 1 #[true, true, false, false, false, false, false, false, false, false, false, false, false, false, false, false, false] rfl (by kernel_rfl) (fun _ _ _ h => h) rfl (fun _ _ => rfl) (b6) ?_; simp only [Act.put, List.setIfInBounds_toArray, List.set_cons_succ, List.set_cons_zero]
      refine K_take (v := .bool true) 2 #[true, true, true, false, false, false, false, false, false, false, false, false, false, false, false, false, false] rfl (by kernel_rfl) (fun _ _ _ h => h) rfl (fun _ _ => rfl) (b6) ?_; simp only [Act.put, List.setIfInBounds_toArray, List.set_cons_succ, List.set_cons_zero]
      refine K_take (v := .slice pL n qL) 3 #[true, true, true, true, false, false, false, false, false, false, false, false, false, false, false, false, false] rfl (by kernel_rfl) (fun _ _ _ h => h) rfl (fun _ _ => rfl) (b6) ?_; simp only [Act.put, List.setIfInBounds_toArray, List.set_cons_succ, List.set_cons_zero]
      refine K_take (v := .int .i64 n) 4 #[true, true, true, true, true, false, false, false, false, false, false, false, false, false, false, false, false] rfl (by kernel_rfl) (fun _ _ _ h => h) rfl (fun w hF => by first | rfl | (unfold execOp; simp [go_sem, Act.eval])) (b6) ?_; simp only [Act.put, List.setIfInBounds_toArray, List.set_cons_succ, List.set_cons_zero]
      refine K_take (v := .bool false) 5 #[true, true, true, true, true, true, false, false, false, false, false, false, false, false, false, false, false] rfl (by kernel_rfl) (fun _ _ _ h => h) rfl (fun w hF => e_leqO _ _ (n : Int) 10 false rfl rfl hle) (b6) ?_; simp only [Act.put, List.setIfInBounds_toArray, List.set_cons_succ, List.set_cons_zero]
      refine K_take (v := .bool false) 6 #[true, true, true, true, true, true, true, false, false, false, false, false, false, false, false, false, false] rfl (by kernel_rfl) (fun _ _ _ h => h) rfl (fun w hF => by first | rfl | (unfold execOp; simp [go_sem, Act.eval])) (b6) ?_; simp only [Act.put, List.setIfInBounds_toArray, List.set_cons_succ, List.set_cons_zero]
      refine K_take (v := .bool false) 7 #[true, true, true, true, true, true, true, true, false, false, false, false, false, false, false, false, false] rfl (by kernel_rfl) (fun _ _ _ h => h) rfl (fun _ _ => rfl) (b6) ?_; simp only [Act.put, List.setIfInBounds_toArray, List.set_cons_succ, List.set_cons_zero]
      refine K_skip 8 #[true, true, true, true, true, true, true, true, true, false, false, false, false, false, false, false, false] rfl (by kernel_rfl) (fun _ _ _ h => h) rfl (b6) ?_; simp only [Act.put, List.setIfInBounds_toArray, List.set_cons_succ, List.set_cons_zero]
      refine K_skip 9 #[true, true, true, true, true, true, true, true, true, true, false, false, false, false, false, false, false] rfl (by kernel_rfl) (fun _ _ _ h => h) rfl (b6) ?_; simp only [Act.put, List.setIfInBounds_toArray, List.set_cons_succ, List.set_cons_zero]
      refine K_skip 10 #[true, true, true, true, true, true, true, true, true, true, true, false, false, false, false, false, false] rfl (by kernel_rfl) (fun _ _ _ h => h) rfl (b6) ?_; simp only [Act.put, List.setIfInBounds_toArray, List.set_cons_succ, List.set_cons_zero]
      refine K_skip 11 #[true, true, true, true, true, true, true, true, true, true, true, true, false, false, false, false, false] rfl (by kernel_rfl) (fun _ _ _ h => h) rfl (b6) ?_; simp only [Act.put, List.setIfInBounds_toArray, List.set_cons_succ, List.set_cons_zero]
      refine K_skip 12 #[true, true, true, true, true, true, true, true, true, true, true, true, true, false, false, false, false] rfl (by kernel_rfl) (fun _ _ _ h => h) rfl (b6) ?_; simp only [Act.put, List.setIfInBounds_toArray, List.set_cons_succ, List.set_cons_zero]
      refine K_skip 13 #[true, true, true, true, true, true, true, true, true, true, true, true, true, true, false, false, false] rfl (by kernel_rfl) (fun _ _ _ h => h) rfl (b6) ?_; simp only [Act.put, List.setIfInBounds_toArray, List.set_cons_succ, List.set_cons_zero]
      refine K_take (v := .bool false) 14 #[true, true, true, true, true, true, true, true, true, true, true, true, true, true, true, false, false] rfl (by kernel_rfl) (fun _ _ _ h => h) rfl (fun w hF => by first | rfl | (unfold execOp; simp [go_sem, Act.eval])) (b6) ?_; simp only [Act.put, List.setIfInBounds_toArray, List.set_cons_succ, List.set_cons_zero]
      refine K_one 15 #[true, true, true, true, true, true, true, true, true, true, true, true, true, true, true, true, false] rfl (by kernel_rfl) ?_
      refine r_store_row 55 55 _ _ B1 rfl (tg g.w g.h (.slice (some ⟨G, 0, none⟩) N cap)) _ rfl b1 Tryd.tsize rfl (tg_one hone) rfl ?_
      intro w6 u6 b1'
      simp only [Act.put]
      have b6 := u6.blk b6 (by omega)
      have gg := u6.gr gg (by omega)
      refine ⟨fun _ => b6, ?_⟩
      refine K_one 16 #[true, true, true, true, true, true, true, true, true, true, true, true, true, true, true, true, true] rfl (by kernel_rfl) ?_
      refine r_val (.bool false) rfl rfl ?_
      simp only [Act.put, List.setIfInBounds_toArray, List.set_cons_succ, List.set_cons_zero]
      refine ⟨fun _ => b6, ?_⟩
      refine K_done' (by kernel_rfl) ?_
      go_wp2
      refine bodyPost_ret (results_row_bool rfl _ _ _ _ _ _ rfl b1' Tryd.underlying55 rfl Tryd.tinfo) rfl ?_
      exact ⟨gg, .inl ⟨HN.out, _, _, _, hone, rfl⟩⟩
end Go.Proofs.YtdebiobhmpoiiaaDoor
