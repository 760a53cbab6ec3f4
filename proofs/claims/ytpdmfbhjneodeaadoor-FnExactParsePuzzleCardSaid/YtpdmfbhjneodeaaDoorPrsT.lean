/-
  A text read as a puzzle by the model.
-/
import Derived.Test.YtpdmfbhjneodeaaDoorPrsR
namespace Go.Proofs.YtpdmfbhjneodeaaDoor
open Go.RowKit
def ppA (l : List UInt8) : Array Value := match ppL l with
  | none => pv ByteArray.empty ByteArray.empty 0
  | some (p, n, k) => pv ⟨p.toArray⟩ ⟨n.toArray⟩ k
theorem ppA_no {l : List UInt8} (h : ppL l = none) : pv ByteArray.empty ByteArray.empty 0 = ppA l ∧ false = (ppL l).isSome := by unfold ppA; rw [h]; exact ⟨rfl, rfl⟩
theorem ppA_yes {l p n : List UInt8} {k : Nat} (h : ppL l = some (p, n, k)) : pv ⟨p.toArray⟩ ⟨n.toArray⟩ k = ppA l ∧ true = (ppL l).isSome := by unfold ppA; rw [h]; exact ⟨rfl, rfl⟩
theorem ppA_mod {l p n d : List UInt8} (h : piB 58 l = [p, n, d]) (b : Bool) (hb : (pzS p ⟨n.toArray⟩ (rdZ d)).isSome = b) : (if b = true then pv ⟨p.toArray⟩ ⟨n.toArray⟩ (rdZ d) else pv ByteArray.empty ByteArray.empty 0) = ppA l ∧ b = (ppL l).isSome := by
  have hm := ppL_model h
  cases b with
  | false =>
    rw [hb] at hm
    exact ppA_no hm
  | true =>
    obtain ⟨k, hk, -⟩ := pz_lt hb
    rw [hb, hk] at hm
    rw [hk]
    exact ppA_yes hm
theorem piB3 {l : List (List UInt8)} (h : l.length = 3) : ∃ p n d, l = [p, n, d] := by
  match l, h with
  | [p, n, d], _ => exact ⟨p, n, d, rfl⟩
theorem txt_l (s : ByteArray) : (⟨s.data.toList.toArray⟩ : ByteArray) = s := by
  apply ByteArray.ext
  simp
theorem own_three {w : World} {base : Nat} {e : TypeId} {v : Value} {p n d : List UInt8} (h : w.ownsRow base e 1 v 3 (strV [p, n, d])) : ∃ G cap, v = .slice (some ⟨G, 0, none⟩) 3 cap ∧ base ≤ G ∧ w.cell? ⟨G, 0, none⟩ = some (tx p) ∧ w.cell? ⟨G, 1, none⟩ = some (tx n) ∧ w.cell? ⟨G, 2, none⟩ = some (tx d) := by
  obtain ⟨G, cap, rfl, hb, -⟩ := own_shape h (by decide)
  exact ⟨G, cap, rfl, hb, own_val h 0 _ (by decide) rfl, own_val h 1 _ (by decide) rfl, own_val h 2 _ (by decide) rfl⟩
theorem own_slS {w : World} {base n : Nat} {e : TypeId} {v : Value} {xs : List Value} (h : w.ownsRow base e 1 v n xs) : ∃ p k, v = .slice p n k := by
  obtain ⟨p, m, k, rfl⟩ := own_slice h
  obtain rfl : m = n := own_len h
  exact ⟨p, k, rfl⟩
theorem e_idxS {P : Program} {w : World} {a : Act} {dst : Option Tmp} {ty T : TypeId} {pos : String} {aft : Array Edge} {gd : Option (Nat × Bool)} (x y : Operand) (v i u : Value) (hx : a.eval x = v) (hy : a.eval y = i) (hr : (Instr.indexAt T v i).run P w = .ok u w) :
    (execOp a.eval ⟨dst, .indexAddr T x y, ty, pos, aft, gd⟩).run P w = .ok (.value u) w := by
  unfold execOp
  simp only [hx, hy, Sem.run_bind, hr, Result.andThen_ok, Sem.run_pure]
theorem Tryd.stxS (B n cap x : Nat) (hx : x < n) (w : World) : (Instr.indexAt 35 (.slice (some ⟨B, 0, none⟩) n cap) (.int .i64 x)).run Tryd.prog w = .ok (.pointer (some ⟨B, x, none⟩)) w := by
  have hu : Tryd.prog.underlying 35 = some (.slice (Tryd.prog.elem 35)) := by kernel_rfl
  have he : Tryd.prog.elem 35 = 9 := by kernel_rfl
  rw [run_indexAt_slice w 35 ⟨B, 0, none⟩ n cap .i64 x hu, if_pos (by omega), he]
  simp [Tryd.sizeOf9, Result.andThen, Addr.add]
  exact fun h => h.symm
theorem ret_hp {a a' : Array Value} {b b' : Bool} (h : a = a') (h2 : b = b') : Ending.returned (.tuple #[.agg a, .bool b]) = .returned (.tuple #[.agg a', .bool b']) := by rw [h, h2]
set_option maxHeartbeats 2000000 in
set_option maxRecDepth 100000 in
theorem puParse_any (s : ByteArray) (w : World) : Calls Tryd.prog 13 #[.string s] w (Ret (.tuple #[.agg (ppA s.data.toList), .bool (ppL s.data.toList).isSome]) w) := by
  have gg := Gr.refl w
  obtain ⟨l, hl⟩ : ∃ l, l = s.data.toList := ⟨_, rfl⟩
  have hsz : s.size = l.length := by rw [hl]; simp
  have hst : (⟨l.toArray⟩ : ByteArray) = s := hl ▸ txt_l s
  rw [← hl]
  by_cases h60 : 60 < s.size
  · have HV := hidI (ppA_no (ppL_long (by rw [← hsz]; exact h60)))
    clear hst hsz hl
    go_enter Tryd.func13, Tryd.ntmps13
    go_wp2_with (first | (refine r_alloc (dst := some 2) 23 _ Tryd.ipzero rfl ?_; intro w1 B1 N1; have g1 := N1.gr; have b1 : Blk w1 B1 (pv ByteArray.empty ByteArray.empty 0) 23 := N1.blk; have l1 := N1.lo; have t1 := N1.hi; have z1 := g1.size; have gg := gg.trans g1; clear N1; obtain ⟨b1_0, b1_1, b1_2⟩ := pcells b1) | (refine r_build 23 [] [] _ (Tryd.ipbuild0 _) rfl rfl ?_) | (refine r_store_row 23 23 _ _ _ rfl (pv (_) (_) (_)) _ rfl b1 Tryd.ipsize rfl (pv_one _ _ _) rfl ?_; intro w2 u2 b1'; have z2 := u2.size; have gg := u2.gr gg (by omega); clear b1; have b1 := b1'; clear b1'; obtain ⟨b1_0, b1_1, b1_2⟩ := pcells b1))
    refine bodyPost_ret (results_row_bool rfl _ _ _ _ _ _ rfl b1 Tryd.underlying23 rfl Tryd.ipinfo) rfl ?_
    exact ⟨ret_hp HV.out.1 HV.out.2, gg⟩
  · have HS := hidI (fun w' => show Calls Tryd.prog 19 #[.string s, .int .u8 58] w' _ from hst ▸ l1Split_any l 58 w' (by omega))
    have h60' : s.size ≤ 60 := by omega
    by_cases h3 : (piB 58 l).length = 3
    · obtain ⟨p, n, d, h⟩ := piB3 h3
      have hpl : p.length ≤ 60 := by have := piB_len 58 l p (by rw [h]; simp); omega
      have hdl : d.length ≤ 60 := by have := piB_len 58 l d (by rw [h]; simp); omega
      obtain ⟨OK, hOK⟩ : ∃ OK, (pzS p ⟨n.toArray⟩ (rdZ d)).isSome = OK := ⟨_, rfl⟩
      have HV := hidI (ppA_mod h OK hOK)
      have HRD := hidI (fun w' => l1Read_any d w' hdl)
      have HG := hidI (fun w' => show Calls Tryd.prog 27 #[.agg (pv ⟨p.toArray⟩ ⟨n.toArray⟩ (rdZ d))] w' (Ret (.bool OK) w') from hOK ▸ puGood_any ⟨p.toArray⟩ ⟨n.toArray⟩ (rdZ d) w' (by show p.toArray.size ≤ _; rw [List.size_toArray]; omega))
      have HO3 := hidI (fun (w' : World) (b : Nat) (v : Value) (ho : w'.ownsRow b 9 1 v (piB 58 l).length (strV (piB 58 l))) => own_three (w := w') (base := b) (v := v) (p := p) (n := n) (d := d) (e := 9) (by rw [h] at ho; exact ho))
      obtain ⟨z, hz⟩ : ∃ z, z = rdZ d := ⟨_, rfl⟩
      obtain ⟨P, hP⟩ : ∃ P : ByteArray, P = ⟨p.toArray⟩ := ⟨_, rfl⟩
      obtain ⟨N, hN⟩ : ∃ N : ByteArray, N = ⟨n.toArray⟩ := ⟨_, rfl⟩
      obtain ⟨D, hD⟩ : ∃ D : ByteArray, D = ⟨d.toArray⟩ := ⟨_, rfl⟩
      unfold tx at HO3
      rw [← hP, ← hN, ← hD] at HO3
      rw [← hz, ← hP, ← hN] at HV HG
      rw [← hz, ← hD] at HRD
      clear hst hsz hl h3 h hOK hz hP hN hD h60 hpl hdl
      go_enter Tryd.func13, Tryd.ntmps13
      go_wp2_with (first | (refine r_alloc (dst := some 2) 23 _ Tryd.ipzero rfl ?_; intro w1 B1 N1; have g1 := N1.gr; have b1 : Blk w1 B1 (pv ByteArray.empty ByteArray.empty 0) 23 := N1.blk; have l1 := N1.lo; have t1 := N1.hi; have z1 := g1.size; have gg := gg.trans g1; clear N1; obtain ⟨b1_0, b1_1, b1_2⟩ := pcells b1) | (go_at_call 19; refine (HS.out _).mono ?_; rintro e w2 ⟨g2, v, rfl, hown⟩; have b1 := g2.blk b1; have z2 := g2.size; have gg := gg.trans g2; obtain ⟨G, cap, rfl, hbG, c0, c1, c2⟩ := HO3.out _ _ _ hown))
      have gd := (Gr.refl w2).drew
      have zd := gd.size
      have b1 := gd.blk b1
      have c0 := gd.cell c0
      have c1 := gd.cell c1
      have c2 := gd.cell c2
      have gg := gg.trans gd
      refine F_begin (fun w => (w.cell? ⟨G, 0, none⟩ = some (.string P) ∧ w.cell? ⟨G, 1, none⟩ = some (.string N) ∧ w.cell? ⟨G, 2, none⟩ = some (.string D))) 12 13 #[false, false, false, false, false, false, false, false, false, false, false, false, false] rfl (by kernel_rfl) (by kernel_rfl) ?_
      generalize w2.drew = wd at *
      refine F_free (v := .slice (some ⟨G, 0, Option.none⟩) 3 cap) 0 #[true, false, false, false, false, false, false, false, false, false, false, false, false] rfl (by kernel_rfl) (fun _ _ _ h => h) rfl (fun _ => rfl) (⟨c0, c1, c2⟩) ?_; simp only [Act.put, List.setIfInBounds_toArray, List.set_cons_succ, List.set_cons_zero]
      refine F_free (v := .pointer (some ⟨G, 0, Option.none⟩)) 1 #[true, true, false, false, false, false, false, false, false, false, false, false, false] rfl (by kernel_rfl) (fun _ _ _ h => h) rfl (fun _ => e_idxS _ _ _ _ _ rfl rfl (Tryd.stxS G 3 cap 0 (by decide) _)) (⟨c0, c1, c2⟩) ?_; simp only [Act.put, List.setIfInBounds_toArray, List.set_cons_succ, List.set_cons_zero]
      refine F_take (v := .string P) 2 #[true, true, true, false, false, false, false, false, false, false, false, false, false] rfl (by kernel_rfl) (fun _ _ _ h => h) rfl (fun w hF => e_load 9 (.tmp 17) _ _ rfl (Tryd.isAgg9 _) hF.1) (⟨c0, c1, c2⟩) ?_; simp only [Act.put, List.setIfInBounds_toArray, List.set_cons_succ, List.set_cons_zero]
      refine F_free (v := .slice (some ⟨G, 0, Option.none⟩) 3 cap) 3 #[true, true, true, true, false, false, false, false, false, false, false, false, false] rfl (by kernel_rfl) (fun _ _ _ h => h) rfl (fun _ => rfl) (⟨c0, c1, c2⟩) ?_; simp only [Act.put, List.setIfInBounds_toArray, List.set_cons_succ, List.set_cons_zero]
      refine F_free (v := .pointer (some ⟨G, 1, Option.none⟩)) 4 #[true, true, true, true, true, false, false, false, false, false, false, false, false] rfl (by kernel_rfl) (fun _ _ _ h => h) rfl (fun _ => e_idxS _ _ _ _ _ rfl rfl (Tryd.stxS G 3 cap 1 (by decide) _)) (⟨c0, c1, c2⟩) ?_; simp only [Act.put, List.setIfInBounds_toArray, List.set_cons_succ, List.set_cons_zero]
      refine F_take (v := .string N) 5 #[true, true, true, true, true, true, false, false, false, false, false, false, false] rfl (by kernel_rfl) (fun _ _ _ h => h) rfl (fun w hF => e_load 9 (.tmp 20) _ _ rfl (Tryd.isAgg9 _) hF.2.1) (⟨c0, c1, c2⟩) ?_; simp only [Act.put, List.setIfInBounds_toArray, List.set_cons_succ, List.set_cons_zero]
      refine F_free (v := .slice (some ⟨G, 0, Option.none⟩) 3 cap) 6 #[true, true, true, true, true, true, true, false, false, false, false, false, false] rfl (by kernel_rfl) (fun _ _ _ h => h) rfl (fun _ => rfl) (⟨c0, c1, c2⟩) ?_; simp only [Act.put, List.setIfInBounds_toArray, List.set_cons_succ, List.set_cons_zero]
      refine F_free (v := .pointer (some ⟨G, 2, Option.none⟩)) 7 #[true, true, true, true, true, true, true, true, false, false, false, false, false] rfl (by kernel_rfl) (fun _ _ _ h => h) rfl (fun _ => e_idxS _ _ _ _ _ rfl rfl (Tryd.stxS G 3 cap 2 (by decide) _)) (⟨c0, c1, c2⟩) ?_; simp only [Act.put, List.setIfInBounds_toArray, List.set_cons_succ, List.set_cons_zero]
      refine F_take (v := .string D) 8 #[true, true, true, true, true, true, true, true, true, false, false, false, false] rfl (by kernel_rfl) (fun _ _ _ h => h) rfl (fun w hF => e_load 9 (.tmp 23) _ _ rfl (Tryd.isAgg9 _) hF.2.2) (⟨c0, c1, c2⟩) ?_; simp only [Act.put, List.setIfInBounds_toArray, List.set_cons_succ, List.set_cons_zero]
      refine F_two 9 11 #[true, true, true, true, true, true, true, true, true, true, false, false, false] #[true, true, true, true, true, true, true, true, true, false, false, true, false] rfl rfl (by kernel_rfl) ?_ ?_
      · skip
        refine r_call 20 [.tmp 24] _ [.string D] (.int .i64 z) (fun w' => Gr wd w') Tryd.call20 rfl rfl (HRD.out wd) ?_
        intro wc gc
        have b1 := gc.blk b1
        have c0 := gc.cell c0
        have c1 := gc.cell c1
        have c2 := gc.cell c2
        have gg := gg.trans gc
        have zc := gc.size
        refine ⟨fun _ => ⟨c0, c1, c2⟩, ?_⟩
        simp only [Act.put, List.setIfInBounds_toArray, List.set_cons_succ, List.set_cons_zero]
        refine F_free (v := .agg (pv P N z)) 10 #[true, true, true, true, true, true, true, true, true, true, true, false, false] rfl (by kernel_rfl) (fun _ _ _ h => h) rfl (fun _ => e_buildP 23 [(0, .tmp 18), (1, .tmp 21), (2, .tmp 25)] [(0, .string P), (1, .string N), (2, .int .i64 z)] _ (Tryd.ipbuild _ _ _ _) rfl) (⟨c0, c1, c2⟩) ?_
        simp only [Act.put, List.setIfInBounds_toArray, List.set_cons_succ, List.set_cons_zero]
        refine F_one 11 #[true, true, true, true, true, true, true, true, true, true, true, true, false] rfl (by kernel_rfl) ?_
        (refine r_alloc (dst := some 5) 23 _ Tryd.ipzero rfl ?_; intro w5 B5 N5; have g5 := N5.gr; have b5 : Blk w5 B5 (pv ByteArray.empty ByteArray.empty 0) 23 := N5.blk; have l5 := N5.lo; have t5 := N5.hi; have z5 := g5.size; have b1 := g5.blk b1; have gg := gg.trans g5; clear N5; obtain ⟨b5_0, b5_1, b5_2⟩ := pcells b5)
        have c0 := g5.cell c0
        have c1 := g5.cell c1
        have c2 := g5.cell c2
        refine ⟨fun _ => ⟨c0, c1, c2⟩, ?_⟩
        simp only [Act.put, List.setIfInBounds_toArray, List.set_cons_succ, List.set_cons_zero]
        refine F_one 12 #[true, true, true, true, true, true, true, true, true, true, true, true, true] rfl (by kernel_rfl) ?_
        (refine r_store_row 23 23 _ _ _ rfl (pv (P) (N) (z)) _ rfl b5 Tryd.ipsize rfl (pv_one _ _ _) rfl ?_; intro w6 u6 b5'; have z6 := u6.size; have gg := u6.gr gg (by omega); have b1 := u6.blk b1 (by omega); clear b5; have b5 := b5'; clear b5'; obtain ⟨b5_0, b5_1, b5_2⟩ := pcells b5)
        refine ⟨fun h => (by cases h), ?_⟩
        simp only [Act.put]
        refine F_done (by kernel_rfl) ?_
        cases OK with
        | false =>
          go_wp2_with (first | (refine r_load_row 23 _ _ rfl _ _ _ b5 Tryd.underlying23 rfl Tryd.ipinfo rfl ?_) | (go_at_call 27; refine (HG.out _).mono ?_; rintro e w7 ⟨rfl, g7⟩; have z7 := g7.size; have b1 := g7.blk b1; have gg := gg.trans g7) | (refine r_build 23 [] [] _ (Tryd.ipbuild0 _) rfl rfl ?_) | (refine r_store_row 23 23 _ _ _ rfl (pv (_) (_) (_)) _ rfl b1 Tryd.ipsize rfl (pv_one _ _ _) rfl ?_; intro w8 u8 b1'; have z8 := u8.size; have gg := u8.gr gg (by omega); clear b1; have b1 := b1'; clear b1'; obtain ⟨b1_0, b1_1, b1_2⟩ := pcells b1))
          refine bodyPost_ret (results_row_bool rfl _ _ _ _ _ _ rfl b1 Tryd.underlying23 rfl Tryd.ipinfo) rfl ?_
          exact ⟨ret_hp HV.out.1 HV.out.2, gg⟩
        | true =>
          go_wp2_with (first | (refine r_load_row 23 _ _ rfl _ _ _ b5 Tryd.underlying23 rfl Tryd.ipinfo rfl ?_) | (go_at_call 27; refine (HG.out _).mono ?_; rintro e w7 ⟨rfl, g7⟩; have z7 := g7.size; have b1 := g7.blk b1; have b5 := g7.blk b5; have gg := gg.trans g7) | (refine r_store_row 23 23 _ _ _ rfl (pv (P) (N) (z)) _ rfl b1 Tryd.ipsize rfl (pv_one _ _ _) rfl ?_; intro w8 u8 b1'; have z8 := u8.size; have gg := u8.gr gg (by omega); clear b1; have b1 := b1'; clear b1'; obtain ⟨b1_0, b1_1, b1_2⟩ := pcells b1))
          refine bodyPost_ret (results_row_bool rfl _ _ _ _ _ _ rfl b1 Tryd.underlying23 rfl Tryd.ipinfo) rfl ?_
          exact ⟨ret_hp HV.out.1 HV.out.2, gg⟩
      · skip
        (refine r_alloc (dst := some 5) 23 _ Tryd.ipzero rfl ?_; intro w5 B5 N5; have g5 := N5.gr; have b5 : Blk w5 B5 (pv ByteArray.empty ByteArray.empty 0) 23 := N5.blk; have l5 := N5.lo; have t5 := N5.hi; have z5 := g5.size; have b1 := g5.blk b1; have gg := gg.trans g5; clear N5; obtain ⟨b5_0, b5_1, b5_2⟩ := pcells b5)
        have c0 := g5.cell c0
        have c1 := g5.cell c1
        have c2 := g5.cell c2
        refine ⟨fun _ => ⟨c0, c1, c2⟩, ?_⟩
        simp only [Act.put, List.setIfInBounds_toArray, List.set_cons_succ, List.set_cons_zero]
        refine F_one 9 #[true, true, true, true, true, true, true, true, true, true, false, true, false] rfl (by kernel_rfl) ?_
        refine r_call 20 [.tmp 24] _ [.string D] (.int .i64 z) (fun w' => Gr w5 w') Tryd.call20 rfl rfl (HRD.out w5) ?_
        intro wc gc
        have b1 := gc.blk b1
        have c0 := gc.cell c0
        have c1 := gc.cell c1
        have c2 := gc.cell c2
        have gg := gg.trans gc
        have zc := gc.size
        refine ⟨fun _ => ⟨c0, c1, c2⟩, ?_⟩
        simp only [Act.put, List.setIfInBounds_toArray, List.set_cons_succ, List.set_cons_zero]
        have b5 := gc.blk b5
        refine F_free (v := .agg (pv P N z)) 10 #[true, true, true, true, true, true, true, true, true, true, true, true, false] rfl (by kernel_rfl) (fun _ _ _ h => h) rfl (fun _ => e_buildP 23 [(0, .tmp 18), (1, .tmp 21), (2, .tmp 25)] [(0, .string P), (1, .string N), (2, .int .i64 z)] _ (Tryd.ipbuild _ _ _ _) rfl) (⟨c0, c1, c2⟩) ?_
        simp only [Act.put, List.setIfInBounds_toArray, List.set_cons_succ, List.set_cons_zero]
        refine F_one 12 #[true, true, true, true, true, true, true, true, true, true, true, true, true] rfl (by kernel_rfl) ?_
        (refine r_store_row 23 23 _ _ _ rfl (pv (P) (N) (z)) _ rfl b5 Tryd.ipsize rfl (pv_one _ _ _) rfl ?_; intro w6 u6 b5'; have z6 := u6.size; have gg := u6.gr gg (by omega); have b1 := u6.blk b1 (by omega); clear b5; have b5 := b5'; clear b5'; obtain ⟨b5_0, b5_1, b5_2⟩ := pcells b5)
        refine ⟨fun h => (by cases h), ?_⟩
        simp only [Act.put]
        refine F_done (by kernel_rfl) ?_
        cases OK with
        | false =>
          go_wp2_with (first | (refine r_load_row 23 _ _ rfl _ _ _ b5 Tryd.underlying23 rfl Tryd.ipinfo rfl ?_) | (go_at_call 27; refine (HG.out _).mono ?_; rintro e w7 ⟨rfl, g7⟩; have z7 := g7.size; have b1 := g7.blk b1; have gg := gg.trans g7) | (refine r_build 23 [] [] _ (Tryd.ipbuild0 _) rfl rfl ?_) | (refine r_store_row 23 23 _ _ _ rfl (pv (_) (_) (_)) _ rfl b1 Tryd.ipsize rfl (pv_one _ _ _) rfl ?_; intro w8 u8 b1'; have z8 := u8.size; have gg := u8.gr gg (by omega); clear b1; have b1 := b1'; clear b1'; obtain ⟨b1_0, b1_1, b1_2⟩ := pcells b1))
          refine bodyPost_ret (results_row_bool rfl _ _ _ _ _ _ rfl b1 Tryd.underlying23 rfl Tryd.ipinfo) rfl ?_
          exact ⟨ret_hp HV.out.1 HV.out.2, gg⟩
        | true =>
          go_wp2_with (first | (refine r_load_row 23 _ _ rfl _ _ _ b5 Tryd.underlying23 rfl Tryd.ipinfo rfl ?_) | (go_at_call 27; refine (HG.out _).mono ?_; rintro e w7 ⟨rfl, g7⟩; have z7 := g7.size; have b1 := g7.blk b1; have b5 := g7.blk b5; have gg := gg.trans g7) | (refine r_store_row 23 23 _ _ _ rfl (pv (P) (N) (z)) _ rfl b1 Tryd.ipsize rfl (pv_one _ _ _) rfl ?_; intro w8 u8 b1'; have z8 := u8.size; have gg := u8.gr gg (by omega); clear b1; have b1 := b1'; clear b1'; obtain ⟨b1_0, b1_1, b1_2⟩ := pcells b1))
          refine bodyPost_ret (results_row_bool rfl _ _ _ _ _ _ rfl b1 Tryd.underlying23 rfl Tryd.ipinfo) rfl ?_
          exact ⟨ret_hp HV.out.1 HV.out.2, gg⟩
    · have HV := hidI (ppA_no (ppL_len h3))
      obtain ⟨m, hm⟩ : ∃ m, m = (piB 58 l).length := ⟨_, rfl⟩
      rw [← hm] at HS h3
      clear hst hsz hl hm
      go_enter Tryd.func13, Tryd.ntmps13
      go_wp2_with (first | (refine r_alloc (dst := some 2) 23 _ Tryd.ipzero rfl ?_; intro w1 B1 N1; have g1 := N1.gr; have b1 : Blk w1 B1 (pv ByteArray.empty ByteArray.empty 0) 23 := N1.blk; have l1 := N1.lo; have t1 := N1.hi; have z1 := g1.size; have gg := gg.trans g1; clear N1; obtain ⟨b1_0, b1_1, b1_2⟩ := pcells b1) | (go_at_call 19; refine (HS.out _).mono ?_; rintro e w2 ⟨g2, v, rfl, hown⟩; have b1 := g2.blk b1; have z2 := g2.size; have gg := gg.trans g2; obtain ⟨p5, k5, rfl⟩ := own_slS hown) | (refine r_build 23 [] [] _ (Tryd.ipbuild0 _) rfl rfl ?_) | (refine r_store_row 23 23 _ _ _ rfl (pv (_) (_) (_)) _ rfl b1 Tryd.ipsize rfl (pv_one _ _ _) rfl ?_; intro w3 u3 b1'; have z3 := u3.size; have gg := u3.gr gg (by omega); clear b1; have b1 := b1'; clear b1'; obtain ⟨b1_0, b1_1, b1_2⟩ := pcells b1))
      refine bodyPost_ret (results_row_bool rfl _ _ _ _ _ _ rfl b1 Tryd.underlying23 rfl Tryd.ipinfo) rfl ?_
      exact ⟨ret_hp HV.out.1 HV.out.2, gg⟩
end Go.Proofs.YtpdmfbhjneodeaaDoor
