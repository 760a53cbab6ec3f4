/-
  A text read as a puzzle by the program.
-/
import Derived.Test.YtpdmfbhjneodeaaDoorPrsT
import Derived.Test.YtpdmfbhjneodeaaDoorPuzT
namespace Go.Proofs.YtpdmfbhjneodeaaDoor
open Go.RowKit
theorem rows3 {rows : List ByteArray} {p n d : List UInt8} (h : rows.map (·.data.toList) = [p, n, d]) : rows = [⟨p.toArray⟩, ⟨n.toArray⟩, ⟨d.toArray⟩] := by
  match rows, h with
  | [a, b, c], h =>
    simp only [List.map_cons, List.map_nil, List.cons.injEq, and_true] at h
    obtain ⟨rfl, rfl, rfl⟩ := h
    rw [txt_l, txt_l, txt_l]
theorem ppA_prog {l p n d : List UInt8} {x : Int} (h : piB 58 l = [p, n, d]) (hx : ∀ v, Lib.atoiAll d = .ok v → x = v) (g : Grid) (b : UInt8) (k : Nat) (hp : pzS p ⟨n.toArray⟩ x = some (g, b, k)) (v : Bool) (hv : (!decide (ptB ⟨p.toArray⟩ ⟨n.toArray⟩ k = ⟨l.toArray⟩)) = v) :
    (if v = true then pv ByteArray.empty ByteArray.empty 0 else pv ⟨p.toArray⟩ ⟨n.toArray⟩ k) = ppA l ∧ (!v) = (ppL l).isSome := by
  have hm := ppL_prog h hx
  have hk : x = k := (pz_some hp).ze
  subst hk
  rw [hp, Int.toNat_natCast] at hm
  cases v with
  | true =>
    have : ¬ (ptB ⟨p.toArray⟩ ⟨n.toArray⟩ k = ⟨l.toArray⟩) := by simpa using hv
    rw [if_neg (fun hh => this hh.2)] at hm
    exact ppA_no hm
  | false =>
    have : ptB ⟨p.toArray⟩ ⟨n.toArray⟩ k = ⟨l.toArray⟩ := by simpa using hv
    rw [if_pos ⟨rfl, this⟩] at hm
    exact ppA_yes hm
theorem ppA_bad {l p n d : List UInt8} {x : Int} (h : piB 58 l = [p, n, d]) (hx : ∀ v, Lib.atoiAll d = .ok v → x = v) (hp : pzS p ⟨n.toArray⟩ x = none) : pv ByteArray.empty ByteArray.empty 0 = ppA l ∧ false = (ppL l).isSome := by
  have hm := ppL_prog h hx
  rw [hp, if_neg (fun hh => by cases hh.1)] at hm
  exact ppA_no hm
theorem e_neqU {P : Program} {w : World} {a : Act} {dst : Option Tmp} {ty T yt : TypeId} {pos : String} {aft : Array Edge} {gd : Option (Nat × Bool)} (x y : Operand) (s t : ByteArray) (hx : a.eval x = .string s) (hy : a.eval y = .string t) (b : Bool) (hb : (!decide (s = t)) = b) :
    (execOp a.eval ⟨dst, .binOp .neq T x y yt, ty, pos, aft, gd⟩).run P w = .ok (.value (.bool b)) w := by
  subst hb
  unfold execOp
  simp [hx, hy, eqGuard, binOp_string_neq, ← eql_bool]
/-- The two variables of errors that strconv reads hold some error. -/
def EV (w : World) : Prop := ∃ u v, (u = .nilIface ∨ ∃ te pe, u = .iface te pe) ∧ (v = .nilIface ∨ ∃ te pe, v = .iface te pe) ∧ w.cell? ⟨0, 0, none⟩ = some u ∧ w.cell? ⟨1, 0, none⟩ = some v
theorem Gr.ev {w w' : World} (h : Gr w w') (he : EV w) : EV w' := by
  obtain ⟨u, v, hu, hv, c0, c1⟩ := he
  exact ⟨u, v, hu, hv, h.cell c0, h.cell c1⟩
theorem atoi_any (s : ByteArray) (w : World) (hs : s.size ≤ 1048576) (he : EV w) : Calls Tryd.prog 15 #[.string s] w fun e w' => Gr w w' ∧ ∃ x u, e = .returned (.tuple #[.int .i64 x, u]) ∧ ∀ v, Lib.atoiAll s.data.toList = .ok v → x = v := by
  obtain ⟨u, v, hu, hv, c0, c1⟩ := he
  cases ha : Lib.atoiAll s.data.toList with
  | ok n =>
    refine (Tryd.strconv_Atoi_ok s (by omega) n ha w).mono ?_
    rintro e w' ⟨rfl, h⟩
    refine ⟨?_, n, _, rfl, fun v hv => by injection hv⟩
    rcases h with rfl | ⟨t, rfl⟩
    · exact Gr.refl _
    · exact bytesWorld_gr _ _ _
  | «syntax» =>
    refine (Tryd.strconv_Atoi_syntax s (by omega) ha u w c0 hu).mono ?_
    rintro e w' ⟨N, rfl, -, -, h⟩
    exact ⟨h, 0, _, rfl, fun v hv => by cases hv⟩
  | range =>
    refine (Tryd.strconv_Atoi_range s (by omega) ha v w c1 hv).mono ?_
    rintro e w' ⟨N, rfl, -, -, h⟩
    exact ⟨h, _, _, rfl, fun v hv => by cases hv⟩
/-- The pieces of a text. -/
theorem splitC_any (s : ByteArray) (w : World) (hs : s.size ≤ 1048576) (hm : ML w) : Calls Tryd.prog 14 #[.string s, .string ⟨#[58]⟩] w fun e w' => Gr w w' ∧ ∃ B, e = .returned (.slice (some ⟨B, 0, none⟩) (piB 58 s.data.toList).length (piB 58 s.data.toList).length) ∧ w.heap.size ≤ B ∧
    ∀ p n d, piB 58 s.data.toList = [p, n, d] → w'.cell? ⟨B, 0, none⟩ = some (.string ⟨p.toArray⟩) ∧ w'.cell? ⟨B, 1, none⟩ = some (.string ⟨n.toArray⟩) ∧ w'.cell? ⟨B, 2, none⟩ = some (.string ⟨d.toArray⟩) := by
  obtain ⟨m, hm⟩ := hm
  refine (Tryd.strings_Split s ⟨#[58]⟩ m w (by omega) hm (by decide)).mono ?_
  rintro e w' ⟨rfl, rfl⟩
  have h := Lib.splitB_data ⟨#[58]⟩ 0 (Lib.countB s ⟨#[58]⟩) s
  have h2 : (Lib.splitB ⟨#[58]⟩ 0 (Lib.countB s ⟨#[58]⟩) s).map (·.data.toList) = piB 58 s.data.toList := h.trans (splitK_piB _ _)
  refine ⟨(Gr.refl w).alloc _, w.heap.size, by rw [piB_count], Nat.le_refl _, fun p n d hp => ?_⟩
  have h3 := rows3 (h2.trans hp)
  rw [h3]
  have hb : Blk (w.alloc (.cells #[.string ⟨p.toArray⟩, .string ⟨n.toArray⟩, .string ⟨d.toArray⟩] 9)) w.heap.size #[.string ⟨p.toArray⟩, .string ⟨n.toArray⟩, .string ⟨d.toArray⟩] 9 := Own.new w _
  exact ⟨hb.cell 0, hb.cell 1, hb.cell 2⟩
set_option maxHeartbeats 2000000 in
set_option maxRecDepth 100000 in
theorem iParsePuzzle (s : ByteArray) (w : World) (hm : ML w) (he : EV w) (hs : s.size ≤ 1048576) : Calls Tryd.prog 6 #[.string s] w (Ret (.tuple #[.agg (ppA s.data.toList), .bool (ppL s.data.toList).isSome]) w) := by
  have gg := Gr.refl w
  obtain ⟨l, hl⟩ : ∃ l, l = s.data.toList := ⟨_, rfl⟩
  have hsz : s.size = l.length := by rw [hl]; simp
  have hst : (⟨l.toArray⟩ : ByteArray) = s := hl ▸ txt_l s
  have HS := hidI (fun w' (hm : ML w') => hl ▸ splitC_any s w' hs hm)
  rw [← hl]
  by_cases h3 : (piB 58 l).length = 3
  · obtain ⟨p, n, d, h⟩ := piB3 h3
    have hpl : p.length ≤ 1048576 := by have := piB_len 58 l p (by rw [h]; simp); omega
    have hdl : d.length ≤ 1048576 := by have := piB_len 58 l d (by rw [h]; simp); omega
    have HSP := hidI (fun w' (hm : ML w') => show Calls Tryd.prog 14 #[.string s, .string ⟨#[58]⟩] w' fun e w'' => Gr w' w'' ∧ ∃ B, e = .returned (.slice (some ⟨B, 0, none⟩) 3 3) ∧ w'.heap.size ≤ B ∧ (w''.cell? ⟨B, 0, none⟩ = some (.string ⟨p.toArray⟩) ∧ w''.cell? ⟨B, 1, none⟩ = some (.string ⟨n.toArray⟩) ∧ w''.cell? ⟨B, 2, none⟩ = some (.string ⟨d.toArray⟩)) from (HS.out w' hm).mono (by
      rintro e w'' ⟨g1, B, rfl, hb, hc⟩
      exact ⟨g1, B, by rw [h3], hb, hc p n d h⟩))
    clear HS
    have HAT := hidI (fun w' (he : EV w') => atoi_any ⟨d.toArray⟩ w' (by show d.toArray.size ≤ _; rw [List.size_toArray]; exact hdl) he)
    obtain ⟨D, hD⟩ : ∃ D : ByteArray, D = ⟨d.toArray⟩ := ⟨_, rfl⟩
    have HDD := hidI (show D.data.toList = d from by rw [hD])
    rw [← hD] at HSP HAT
    have HP1 := hidI (fun (x : Int) (hx : ∀ v, Lib.atoiAll D.data.toList = .ok v → x = v) => ppA_bad (x := x) h (by rw [HDD.out] at hx; exact hx))
    have HP2 := hidI (fun (x : Int) (hx : ∀ v, Lib.atoiAll D.data.toList = .ok v → x = v) => ppA_prog (x := x) h (by rw [HDD.out] at hx; exact hx))
    have HRP := hidI (fun (x : Int) w' (hm : ML w') => readPuzzle_any ⟨p.toArray⟩ ⟨n.toArray⟩ x w' hm (by show p.toArray.size ≤ _; rw [List.size_toArray]; exact hpl))
    obtain ⟨P, hP⟩ : ∃ P : ByteArray, P = ⟨p.toArray⟩ := ⟨_, rfl⟩
    obtain ⟨N, hN⟩ : ∃ N : ByteArray, N = ⟨n.toArray⟩ := ⟨_, rfl⟩
    have HPL := hidI (show P.data.toList = p from by rw [hP])
    rw [← hP, ← hN] at HSP HRP
    rw [← hP, ← hN, hst] at HP2
    rw [← hN] at HP1
    rw [← HPL.out] at HP1 HP2
    clear hst hsz hl h3 h hP hN hD hpl hdl HDD
    go_enter Tryd.func6, Tryd.ntmps6
    go_wp2_with (first | (refine r_alloc (dst := some 2) 23 _ Tryd.ipzero rfl ?_; intro w1 B1 N1; have g1 := N1.gr; have b1 : Blk w1 B1 (pv ByteArray.empty ByteArray.empty 0) 23 := N1.blk; have l1 := N1.lo; have t1 := N1.hi; have z1 := g1.size; have gg := gg.trans g1; clear N1; obtain ⟨b1_0, b1_1, b1_2⟩ := pcells b1) | (go_at_call 14; refine (HSP.out _ (gg.ml hm)).mono ?_; rintro e w2 ⟨g2, G, rfl, hbG, c0, c1, c2⟩; have b1 := g2.blk b1; have z2 := g2.size; have gg := gg.trans g2) | (refine r_idx 35 _ _ (.slice (some ⟨G, 0, none⟩) 3 3) (.int .i64 2) _ rfl rfl (Tryd.stxS G 3 3 2 (by decide) _) rfl ?_) | (refine r_ldc 9 _ ⟨G, 2, none⟩ (.string D) rfl (Tryd.isAgg9 _) c2 rfl ?_) | (go_at_call 15; refine (HAT.out _ (gg.ev he)).mono ?_; rintro e w4 ⟨g4, x, u, rfl, hx⟩; have HX := hidI hx; clear hx; have b1 := g4.blk b1; have z4 := g4.size; have c0 := g4.cell c0; have c1 := g4.cell c1; have gg := gg.trans g4))
    cases hp : pzS P.data.toList N x with
    | none =>
      have HV := hidI (HP1.out x HX.out hp)
      have HRP := hidI (fun w' hm => show Calls Tryd.prog 16 #[.agg (pv P N x)] w' (Ret (.tuple #[.agg (qv g00 0 0), .bool false]) w') from by have := HRP.out x w' hm; rw [hp] at this; exact this)
      clear hp
      obtain ⟨g, hg⟩ : ∃ g : Grid, g = g00 := ⟨_, rfl⟩
      obtain ⟨b, hb⟩ : ∃ b : UInt8, b = 0 := ⟨_, rfl⟩
      obtain ⟨k, hk⟩ : ∃ k : Nat, k = 0 := ⟨_, rfl⟩
      obtain ⟨OK, hOK⟩ : ∃ OK, OK = false := ⟨_, rfl⟩
      have HRP := hidI (fun w' hm => show Calls Tryd.prog 16 #[.agg (pv P N x)] w' (Ret (.tuple #[.agg (qv g b k), .bool OK]) w') from by rw [hg, hb, hk, hOK]; exact HRP.out w' hm)
      have HO := hidI hOK
      clear hg hb hk hOK
      have gd := (Gr.refl w4).drew
      have zd := gd.size
      have b1 := gd.blk b1
      have c0 := gd.cell c0
      have c1 := gd.cell c1
      have gg := gg.trans gd
      refine F_begin (fun w => (w.cell? ⟨G, 0, none⟩ = some (.string P) ∧ w.cell? ⟨G, 1, none⟩ = some (.string N))) 13 15 #[false, false, false, false, false, false, false, false, false, false, false, false, false, false, false] rfl (by kernel_rfl) (by kernel_rfl) ?_
      generalize w4.drew = wd at *
      refine F_free (v := .slice (some ⟨G, 0, Option.none⟩) 3 3) 0 #[true, false, false, false, false, false, false, false, false, false, false, false, false, false, false] rfl (by kernel_rfl) (fun _ _ _ h => h) rfl (fun _ => rfl) (⟨c0, c1⟩) ?_; simp only [Act.put, List.setIfInBounds_toArray, List.set_cons_succ, List.set_cons_zero]
      refine F_free (v := .pointer (some ⟨G, 0, Option.none⟩)) 1 #[true, true, false, false, false, false, false, false, false, false, false, false, false, false, false] rfl (by kernel_rfl) (fun _ _ _ h => h) rfl (fun _ => e_idxS _ _ _ _ _ rfl rfl (Tryd.stxS G 3 3 0 (by decide) _)) (⟨c0, c1⟩) ?_; simp only [Act.put, List.setIfInBounds_toArray, List.set_cons_succ, List.set_cons_zero]
      refine F_take (v := .string P) 2 #[true, true, true, false, false, false, false, false, false, false, false, false, false, false, false] rfl (by kernel_rfl) (fun _ _ _ h => h) rfl (fun w hF => e_load 9 (.tmp 24) _ _ rfl (Tryd.isAgg9 _) hF.1) (⟨c0, c1⟩) ?_; simp only [Act.put, List.setIfInBounds_toArray, List.set_cons_succ, List.set_cons_zero]
      refine F_free (v := .slice (some ⟨G, 0, Option.none⟩) 3 3) 3 #[true, true, true, true, false, false, false, false, false, false, false, false, false, false, false] rfl (by kernel_rfl) (fun _ _ _ h => h) rfl (fun _ => rfl) (⟨c0, c1⟩) ?_; simp only [Act.put, List.setIfInBounds_toArray, List.set_cons_succ, List.set_cons_zero]
      refine F_free (v := .pointer (some ⟨G, 1, Option.none⟩)) 4 #[true, true, true, true, true, false, false, false, false, false, false, false, false, false, false] rfl (by kernel_rfl) (fun _ _ _ h => h) rfl (fun _ => e_idxS _ _ _ _ _ rfl rfl (Tryd.stxS G 3 3 1 (by decide) _)) (⟨c0, c1⟩) ?_; simp only [Act.put, List.setIfInBounds_toArray, List.set_cons_succ, List.set_cons_zero]
      refine F_take (v := .string N) 5 #[true, true, true, true, true, true, false, false, false, false, false, false, false, false, false] rfl (by kernel_rfl) (fun _ _ _ h => h) rfl (fun w hF => e_load 9 (.tmp 27) _ _ rfl (Tryd.isAgg9 _) hF.2) (⟨c0, c1⟩) ?_; simp only [Act.put, List.setIfInBounds_toArray, List.set_cons_succ, List.set_cons_zero]
      refine F_free (v := .int .i64 x) 6 #[true, true, true, true, true, true, true, false, false, false, false, false, false, false, false] rfl (by kernel_rfl) (fun _ _ _ h => h) rfl (fun _ => rfl) (⟨c0, c1⟩) ?_; simp only [Act.put, List.setIfInBounds_toArray, List.set_cons_succ, List.set_cons_zero]
      refine F_free (v := .agg (pv P N x)) 7 #[true, true, true, true, true, true, true, true, false, false, false, false, false, false, false] rfl (by kernel_rfl) (fun _ _ _ h => h) rfl (fun _ => e_buildP 23 [(0, .tmp 25), (1, .tmp 28), (2, .tmp 29)] [(0, .string P), (1, .string N), (2, .int .i64 x)] _ (Tryd.ipbuild _ _ _ _) rfl) (⟨c0, c1⟩) ?_; simp only [Act.put, List.setIfInBounds_toArray, List.set_cons_succ, List.set_cons_zero]
      refine F_two 8 12 #[true, true, true, true, true, true, true, true, true, false, false, false, false, false, false] #[true, true, true, true, true, true, true, true, false, false, false, false, true, false, false] rfl rfl (by kernel_rfl) ?_ ?_
      · skip
        refine r_call 16 [.tmp 30] _ [.agg (pv P N x)] (.tuple #[.agg (qv g b k), .bool OK]) (fun w' => Gr wd w') Tryd.call16 rfl rfl (HRP.out wd (gg.ml hm)) ?_
        intro wc gc
        have b1 := gc.blk b1
        have c0 := gc.cell c0
        have c1 := gc.cell c1
        have gg := gg.trans gc
        have zc := gc.size
        refine ⟨fun _ => ⟨c0, c1⟩, ?_⟩
        simp only [Act.put, List.setIfInBounds_toArray, List.set_cons_succ, List.set_cons_zero]
        refine F_free (v := .tuple #[.agg (qv g b k), .bool OK]) 9 #[true, true, true, true, true, true, true, true, true, true, false, false, false, false, false] rfl (by kernel_rfl) (fun _ _ _ h => h) rfl (fun _ => by first | rfl | (unfold execOp; simp [go_sem, Act.eval])) (⟨c0, c1⟩) ?_; simp only [Act.put, List.setIfInBounds_toArray, List.set_cons_succ, List.set_cons_zero]
        refine F_free (v := .agg (qv g b k)) 10 #[true, true, true, true, true, true, true, true, true, true, true, false, false, false, false] rfl (by kernel_rfl) (fun _ _ _ h => h) rfl (fun _ => by first | rfl | (unfold execOp; simp [go_sem, Act.eval])) (⟨c0, c1⟩) ?_; simp only [Act.put, List.setIfInBounds_toArray, List.set_cons_succ, List.set_cons_zero]
        refine F_free (v := .bool OK) 11 #[true, true, true, true, true, true, true, true, true, true, true, true, false, false, false] rfl (by kernel_rfl) (fun _ _ _ h => h) rfl (fun _ => by first | rfl | (unfold execOp; simp [go_sem, Act.eval])) (⟨c0, c1⟩) ?_; simp only [Act.put, List.setIfInBounds_toArray, List.set_cons_succ, List.set_cons_zero]
        refine F_one 12 #[true, true, true, true, true, true, true, true, true, true, true, true, true, false, false] rfl (by kernel_rfl) ?_
        (refine r_alloc (dst := some 7) 45 _ Tryd.qzero rfl ?_; intro w7 B7 N7; have g7 := N7.gr; have b7 : Blk w7 B7 (qv g00 0 0) 45 := N7.blk; have l7 := N7.lo; have t7 := N7.hi; have z7 := g7.size; have b1 := g7.blk b1; have gg := gg.trans g7; clear N7)
        have c0 := g7.cell c0
        have c1 := g7.cell c1
        refine ⟨fun _ => ⟨c0, c1⟩, ?_⟩
        simp only [Act.put, List.setIfInBounds_toArray, List.set_cons_succ, List.set_cons_zero]
        refine F_one 13 #[true, true, true, true, true, true, true, true, true, true, true, true, true, true, false] rfl (by kernel_rfl) ?_
        (refine r_store_row 45 45 _ _ _ rfl (qv (g) (b) (k)) _ rfl b7 (Tryd.qsize _ _ _) (by simp only [qv_size]) (qv_one _ _ _) rfl ?_; intro w8 u8 b7'; have z8 := u8.size; have gg := u8.gr gg (by omega); have b1 := u8.blk b1 (by omega); clear b7; have b7 := b7'; clear b7')
        refine ⟨fun h => (by cases h), ?_⟩
        simp only [Act.put]
        refine F_one 14 #[true, true, true, true, true, true, true, true, true, true, true, true, true, true, true] rfl (by kernel_rfl) ?_
        refine r_val (.bool OK) rfl rfl ?_
        refine ⟨fun h => (by cases h), ?_⟩
        simp only [Act.put, List.setIfInBounds_toArray, List.set_cons_succ, List.set_cons_zero]
        refine F_done (by kernel_rfl) ?_
        obtain rfl := HO.out
        go_wp2_with (first | (refine r_build 23 [] [] _ (Tryd.ipbuild0 _) rfl rfl ?_) | (refine r_store_row 23 23 _ _ _ rfl (pv (_) (_) (_)) _ rfl b1 Tryd.ipsize rfl (pv_one _ _ _) rfl ?_; intro w9 u9 b1'; have z9 := u9.size; have gg := u9.gr gg (by omega); clear b1; have b1 := b1'; clear b1'; obtain ⟨b1_0, b1_1, b1_2⟩ := pcells b1))
        refine bodyPost_ret (results_row_bool rfl _ _ _ _ _ _ rfl b1 Tryd.underlying23 rfl Tryd.ipinfo) rfl ?_
        exact ⟨ret_hp HV.out.1 HV.out.2, gg⟩
      · skip
        (refine r_alloc (dst := some 7) 45 _ Tryd.qzero rfl ?_; intro w7 B7 N7; have g7 := N7.gr; have b7 : Blk w7 B7 (qv g00 0 0) 45 := N7.blk; have l7 := N7.lo; have t7 := N7.hi; have z7 := g7.size; have b1 := g7.blk b1; have gg := gg.trans g7; clear N7)
        have c0 := g7.cell c0
        have c1 := g7.cell c1
        refine ⟨fun _ => ⟨c0, c1⟩, ?_⟩
        simp only [Act.put, List.setIfInBounds_toArray, List.set_cons_succ, List.set_cons_zero]
        refine F_one 8 #[true, true, true, true, true, true, true, true, true, false, false, false, true, false, false] rfl (by kernel_rfl) ?_
        refine r_call 16 [.tmp 30] _ [.agg (pv P N x)] (.tuple #[.agg (qv g b k), .bool OK]) (fun w' => Gr w7 w') Tryd.call16 rfl rfl (HRP.out w7 (gg.ml hm)) ?_
        intro wc gc
        have b1 := gc.blk b1
        have c0 := gc.cell c0
        have c1 := gc.cell c1
        have gg := gg.trans gc
        have zc := gc.size
        refine ⟨fun _ => ⟨c0, c1⟩, ?_⟩
        simp only [Act.put, List.setIfInBounds_toArray, List.set_cons_succ, List.set_cons_zero]
        have b7 := gc.blk b7
        refine F_free (v := .tuple #[.agg (qv g b k), .bool OK]) 9 #[true, true, true, true, true, true, true, true, true, true, false, false, true, false, false] rfl (by kernel_rfl) (fun _ _ _ h => h) rfl (fun _ => by first | rfl | (unfold execOp; simp [go_sem, Act.eval])) (⟨c0, c1⟩) ?_; simp only [Act.put, List.setIfInBounds_toArray, List.set_cons_succ, List.set_cons_zero]
        refine F_free (v := .agg (qv g b k)) 10 #[true, true, true, true, true, true, true, true, true, true, true, false, true, false, false] rfl (by kernel_rfl) (fun _ _ _ h => h) rfl (fun _ => by first | rfl | (unfold execOp; simp [go_sem, Act.eval])) (⟨c0, c1⟩) ?_; simp only [Act.put, List.setIfInBounds_toArray, List.set_cons_succ, List.set_cons_zero]
        refine F_free (v := .bool OK) 11 #[true, true, true, true, true, true, true, true, true, true, true, true, true, false, false] rfl (by kernel_rfl) (fun _ _ _ h => h) rfl (fun _ => by first | rfl | (unfold execOp; simp [go_sem, Act.eval])) (⟨c0, c1⟩) ?_; simp only [Act.put, List.setIfInBounds_toArray, List.set_cons_succ, List.set_cons_zero]
        refine F_one 13 #[true, true, true, true, true, true, true, true, true, true, true, true, true, true, false] rfl (by kernel_rfl) ?_
        (refine r_store_row 45 45 _ _ _ rfl (qv (g) (b) (k)) _ rfl b7 (Tryd.qsize _ _ _) (by simp only [qv_size]) (qv_one _ _ _) rfl ?_; intro w8 u8 b7'; have z8 := u8.size; have gg := u8.gr gg (by omega); have b1 := u8.blk b1 (by omega); clear b7; have b7 := b7'; clear b7')
        refine ⟨fun h => (by cases h), ?_⟩
        simp only [Act.put]
        refine F_one 14 #[true, true, true, true, true, true, true, true, true, true, true, true, true, true, true] rfl (by kernel_rfl) ?_
        refine r_val (.bool OK) rfl rfl ?_
        refine ⟨fun h => (by cases h), ?_⟩
        simp only [Act.put, List.setIfInBounds_toArray, List.set_cons_succ, List.set_cons_zero]
        refine F_done (by kernel_rfl) ?_
        obtain rfl := HO.out
        go_wp2_with (first | (refine r_build 23 [] [] _ (Tryd.ipbuild0 _) rfl rfl ?_) | (refine r_store_row 23 23 _ _ _ rfl (pv (_) (_) (_)) _ rfl b1 Tryd.ipsize rfl (pv_one _ _ _) rfl ?_; intro w9 u9 b1'; have z9 := u9.size; have gg := u9.gr gg (by omega); clear b1; have b1 := b1'; clear b1'; obtain ⟨b1_0, b1_1, b1_2⟩ := pcells b1))
        refine bodyPost_ret (results_row_bool rfl _ _ _ _ _ _ rfl b1 Tryd.underlying23 rfl Tryd.ipinfo) rfl ?_
        exact ⟨ret_hp HV.out.1 HV.out.2, gg⟩
    | some y =>
      obtain ⟨g, b, k⟩ := y
      have hz := pz_some hp
      obtain ⟨hc, hw1, hh1, hl⟩ := pz_tray hz
      have w7 := hc.w7
      have h7 := hc.h7
      have n36 := hc.n36
      have hlen := hc.len
      have hk := hz.kl
      have et := txt_of hz.pr
      have h42 := parse_len hz.pr
      have hN1 := hz.n1
      obtain ⟨TX, hTX⟩ : ∃ TX, TX = ptB P N k := ⟨_, rfl⟩
      have HT := hidI (fun w' => show Calls Tryd.prog 17 #[.agg (qv g b k)] w' (Ret (.string TX) w') from by
        have := text_any g b k w' hz.isN (.inl hw1) w7 h7 n36 (by omega) (by rw [← et]; have : P.size = P.data.toList.length := by simp
                                                                             omega)
        rwa [← et, ← hN1, ← hTX] at this)
      have HU := hidI (fun w' => show Calls Tryd.prog 18 #[.agg (qv g b k)] w' (Ret (.agg (pv P N k)) w') from by
        have := puzzle_any g b k w' hz.isN (.inl hw1) w7 h7 n36
        rwa [← et, ← hN1] at this)
      obtain ⟨v, hd⟩ : ∃ v, (!decide (TX = s)) = v := ⟨_, rfl⟩
      have HV := hidI (HP2.out x HX.out g b k hp v (by rw [← hTX]; exact hd))
      obtain ⟨OK, hOK⟩ : ∃ OK, OK = true := ⟨_, rfl⟩
      have HRP := hidI (fun w' hm => show Calls Tryd.prog 16 #[.agg (pv P N x)] w' (Ret (.tuple #[.agg (qv g b k), .bool OK]) w') from by have := HRP.out x w' hm; rw [hp] at this; rw [hOK]; exact this)
      have HO := hidI hOK
      clear hp hz hc hw1 hh1 hl w7 h7 n36 hlen hk et h42 hN1 hTX hOK
      have gd := (Gr.refl w4).drew
      have zd := gd.size
      have b1 := gd.blk b1
      have c0 := gd.cell c0
      have c1 := gd.cell c1
      have gg := gg.trans gd
      refine F_begin (fun w => (w.cell? ⟨G, 0, none⟩ = some (.string P) ∧ w.cell? ⟨G, 1, none⟩ = some (.string N))) 13 15 #[false, false, false, false, false, false, false, false, false, false, false, false, false, false, false] rfl (by kernel_rfl) (by kernel_rfl) ?_
      generalize w4.drew = wd at *
      refine F_free (v := .slice (some ⟨G, 0, Option.none⟩) 3 3) 0 #[true, false, false, false, false, false, false, false, false, false, false, false, false, false, false] rfl (by kernel_rfl) (fun _ _ _ h => h) rfl (fun _ => rfl) (⟨c0, c1⟩) ?_; simp only [Act.put, List.setIfInBounds_toArray, List.set_cons_succ, List.set_cons_zero]
      refine F_free (v := .pointer (some ⟨G, 0, Option.none⟩)) 1 #[true, true, false, false, false, false, false, false, false, false, false, false, false, false, false] rfl (by kernel_rfl) (fun _ _ _ h => h) rfl (fun _ => e_idxS _ _ _ _ _ rfl rfl (Tryd.stxS G 3 3 0 (by decide) _)) (⟨c0, c1⟩) ?_; simp only [Act.put, List.setIfInBounds_toArray, List.set_cons_succ, List.set_cons_zero]
      refine F_take (v := .string P) 2 #[true, true, true, false, false, false, false, false, false, false, false, false, false, false, false] rfl (by kernel_rfl) (fun _ _ _ h => h) rfl (fun w hF => e_load 9 (.tmp 24) _ _ rfl (Tryd.isAgg9 _) hF.1) (⟨c0, c1⟩) ?_; simp only [Act.put, List.setIfInBounds_toArray, List.set_cons_succ, List.set_cons_zero]
      refine F_free (v := .slice (some ⟨G, 0, Option.none⟩) 3 3) 3 #[true, true, true, true, false, false, false, false, false, false, false, false, false, false, false] rfl (by kernel_rfl) (fun _ _ _ h => h) rfl (fun _ => rfl) (⟨c0, c1⟩) ?_; simp only [Act.put, List.setIfInBounds_toArray, List.set_cons_succ, List.set_cons_zero]
      refine F_free (v := .pointer (some ⟨G, 1, Option.none⟩)) 4 #[true, true, true, true, true, false, false, false, false, false, false, false, false, false, false] rfl (by kernel_rfl) (fun _ _ _ h => h) rfl (fun _ => e_idxS _ _ _ _ _ rfl rfl (Tryd.stxS G 3 3 1 (by decide) _)) (⟨c0, c1⟩) ?_; simp only [Act.put, List.setIfInBounds_toArray, List.set_cons_succ, List.set_cons_zero]
      refine F_take (v := .string N) 5 #[true, true, true, true, true, true, false, false, false, false, false, false, false, false, false] rfl (by kernel_rfl) (fun _ _ _ h => h) rfl (fun w hF => e_load 9 (.tmp 27) _ _ rfl (Tryd.isAgg9 _) hF.2) (⟨c0, c1⟩) ?_; simp only [Act.put, List.setIfInBounds_toArray, List.set_cons_succ, List.set_cons_zero]
      refine F_free (v := .int .i64 x) 6 #[true, true, true, true, true, true, true, false, false, false, false, false, false, false, false] rfl (by kernel_rfl) (fun _ _ _ h => h) rfl (fun _ => rfl) (⟨c0, c1⟩) ?_; simp only [Act.put, List.setIfInBounds_toArray, List.set_cons_succ, List.set_cons_zero]
      refine F_free (v := .agg (pv P N x)) 7 #[true, true, true, true, true, true, true, true, false, false, false, false, false, false, false] rfl (by kernel_rfl) (fun _ _ _ h => h) rfl (fun _ => e_buildP 23 [(0, .tmp 25), (1, .tmp 28), (2, .tmp 29)] [(0, .string P), (1, .string N), (2, .int .i64 x)] _ (Tryd.ipbuild _ _ _ _) rfl) (⟨c0, c1⟩) ?_; simp only [Act.put, List.setIfInBounds_toArray, List.set_cons_succ, List.set_cons_zero]
      refine F_two 8 12 #[true, true, true, true, true, true, true, true, true, false, false, false, false, false, false] #[true, true, true, true, true, true, true, true, false, false, false, false, true, false, false] rfl rfl (by kernel_rfl) ?_ ?_
      · skip
        refine r_call 16 [.tmp 30] _ [.agg (pv P N x)] (.tuple #[.agg (qv g b k), .bool OK]) (fun w' => Gr wd w') Tryd.call16 rfl rfl (HRP.out wd (gg.ml hm)) ?_
        intro wc gc
        have b1 := gc.blk b1
        have c0 := gc.cell c0
        have c1 := gc.cell c1
        have gg := gg.trans gc
        have zc := gc.size
        refine ⟨fun _ => ⟨c0, c1⟩, ?_⟩
        simp only [Act.put, List.setIfInBounds_toArray, List.set_cons_succ, List.set_cons_zero]
        refine F_free (v := .tuple #[.agg (qv g b k), .bool OK]) 9 #[true, true, true, true, true, true, true, true, true, true, false, false, false, false, false] rfl (by kernel_rfl) (fun _ _ _ h => h) rfl (fun _ => by first | rfl | (unfold execOp; simp [go_sem, Act.eval])) (⟨c0, c1⟩) ?_; simp only [Act.put, List.setIfInBounds_toArray, List.set_cons_succ, List.set_cons_zero]
        refine F_free (v := .agg (qv g b k)) 10 #[true, true, true, true, true, true, true, true, true, true, true, false, false, false, false] rfl (by kernel_rfl) (fun _ _ _ h => h) rfl (fun _ => by first | rfl | (unfold execOp; simp [go_sem, Act.eval])) (⟨c0, c1⟩) ?_; simp only [Act.put, List.setIfInBounds_toArray, List.set_cons_succ, List.set_cons_zero]
        refine F_free (v := .bool OK) 11 #[true, true, true, true, true, true, true, true, true, true, true, true, false, false, false] rfl (by kernel_rfl) (fun _ _ _ h => h) rfl (fun _ => by first | rfl | (unfold execOp; simp [go_sem, Act.eval])) (⟨c0, c1⟩) ?_; simp only [Act.put, List.setIfInBounds_toArray, List.set_cons_succ, List.set_cons_zero]
        refine F_one 12 #[true, true, true, true, true, true, true, true, true, true, true, true, true, false, false] rfl (by kernel_rfl) ?_
        (refine r_alloc (dst := some 7) 45 _ Tryd.qzero rfl ?_; intro w7 B7 N7; have g7 := N7.gr; have b7 : Blk w7 B7 (qv g00 0 0) 45 := N7.blk; have l7 := N7.lo; have t7 := N7.hi; have z7 := g7.size; have b1 := g7.blk b1; have gg := gg.trans g7; clear N7)
        have c0 := g7.cell c0
        have c1 := g7.cell c1
        refine ⟨fun _ => ⟨c0, c1⟩, ?_⟩
        simp only [Act.put, List.setIfInBounds_toArray, List.set_cons_succ, List.set_cons_zero]
        refine F_one 13 #[true, true, true, true, true, true, true, true, true, true, true, true, true, true, false] rfl (by kernel_rfl) ?_
        (refine r_store_row 45 45 _ _ _ rfl (qv (g) (b) (k)) _ rfl b7 (Tryd.qsize _ _ _) (by simp only [qv_size]) (qv_one _ _ _) rfl ?_; intro w8 u8 b7'; have z8 := u8.size; have gg := u8.gr gg (by omega); have b1 := u8.blk b1 (by omega); clear b7; have b7 := b7'; clear b7')
        refine ⟨fun h => (by cases h), ?_⟩
        simp only [Act.put]
        refine F_one 14 #[true, true, true, true, true, true, true, true, true, true, true, true, true, true, true] rfl (by kernel_rfl) ?_
        refine r_val (.bool OK) rfl rfl ?_
        refine ⟨fun h => (by cases h), ?_⟩
        simp only [Act.put, List.setIfInBounds_toArray, List.set_cons_succ, List.set_cons_zero]
        refine F_done (by kernel_rfl) ?_
        obtain rfl := HO.out
        go_upto_region 6 with (fail)
        go_step
        refine r_val (.bool true) rfl rfl ?_
        simp only [Act.put, List.setIfInBounds_toArray, List.set_cons_succ, List.set_cons_zero]
        refine r_val (.bool false) rfl rfl ?_
        simp only [Act.put, List.setIfInBounds_toArray, List.set_cons_succ, List.set_cons_zero]
        refine r_val (.bool false) rfl rfl ?_
        simp only [Act.put, List.setIfInBounds_toArray, List.set_cons_succ, List.set_cons_zero]
        (refine r_load_row 45 _ _ rfl _ _ _ b7 Tryd.underlying45 rfl (Tryd.qinfo _ _ _) rfl ?_)
        simp only [Act.put, List.setIfInBounds_toArray, List.set_cons_succ, List.set_cons_zero]
        refine r_call 17 [.tmp 37] _ [.agg (qv g b k)] (.string TX) (fun w' => Gr w8 w') Tryd.call17 rfl rfl (HT.out w8) ?_
        intro w9 g9
        have b1 := g9.blk b1
        have b7 := g9.blk b7
        have gg := gg.trans g9
        have z9 := g9.size
        simp only [Act.put, List.setIfInBounds_toArray, List.set_cons_succ, List.set_cons_zero]
        refine r_val (.string s) rfl rfl ?_
        simp only [Act.put, List.setIfInBounds_toArray, List.set_cons_succ, List.set_cons_zero]
        refine r_val (.bool v) (e_neqU _ _ TX s rfl rfl v hd) rfl ?_
        simp only [Act.put, List.setIfInBounds_toArray, List.set_cons_succ, List.set_cons_zero]
        refine r_val (.bool v) rfl rfl ?_
        simp only [Act.put, List.setIfInBounds_toArray, List.set_cons_succ, List.set_cons_zero]
        cases v with
        | true =>
          go_wp2_with (first | (refine r_build 23 [] [] _ (Tryd.ipbuild0 _) rfl rfl ?_) | (refine r_store_row 23 23 _ _ _ rfl (pv (_) (_) (_)) _ rfl b1 Tryd.ipsize rfl (pv_one _ _ _) rfl ?_; intro w10 u10 b1'; have z10 := u10.size; have gg := u10.gr gg (by omega); clear b1; have b1 := b1'; clear b1'; obtain ⟨b1_0, b1_1, b1_2⟩ := pcells b1))
          refine bodyPost_ret (results_row_bool rfl _ _ _ _ _ _ rfl b1 Tryd.underlying23 rfl Tryd.ipinfo) rfl ?_
          exact ⟨ret_hp HV.out.1 HV.out.2, gg⟩
        | false =>
          go_wp2_with (first | (refine r_load_row 45 _ _ rfl _ _ _ b7 Tryd.underlying45 rfl (Tryd.qinfo _ _ _) rfl ?_) | (go_at_call 18; refine (HU.out _).mono ?_; rintro e w10 ⟨rfl, g10⟩; have z10 := g10.size; have b1 := g10.blk b1; have gg := gg.trans g10) | (refine r_store_row 23 23 _ _ _ rfl (pv (P) (N) (k)) _ rfl b1 Tryd.ipsize rfl (pv_one _ _ _) rfl ?_; intro w11 u11 b1'; have z11 := u11.size; have gg := u11.gr gg (by omega); clear b1; have b1 := b1'; clear b1'; obtain ⟨b1_0, b1_1, b1_2⟩ := pcells b1))
          refine bodyPost_ret (results_row_bool rfl _ _ _ _ _ _ rfl b1 Tryd.underlying23 rfl Tryd.ipinfo) rfl ?_
          exact ⟨ret_hp HV.out.1 HV.out.2, gg⟩
      · skip
        (refine r_alloc (dst := some 7) 45 _ Tryd.qzero rfl ?_; intro w7 B7 N7; have g7 := N7.gr; have b7 : Blk w7 B7 (qv g00 0 0) 45 := N7.blk; have l7 := N7.lo; have t7 := N7.hi; have z7 := g7.size; have b1 := g7.blk b1; have gg := gg.trans g7; clear N7)
        have c0 := g7.cell c0
        have c1 := g7.cell c1
        refine ⟨fun _ => ⟨c0, c1⟩, ?_⟩
        simp only [Act.put, List.setIfInBounds_toArray, List.set_cons_succ, List.set_cons_zero]
        refine F_one 8 #[true, true, true, true, true, true, true, true, true, false, false, false, true, false, false] rfl (by kernel_rfl) ?_
        refine r_call 16 [.tmp 30] _ [.agg (pv P N x)] (.tuple #[.agg (qv g b k), .bool OK]) (fun w' => Gr w7 w') Tryd.call16 rfl rfl (HRP.out w7 (gg.ml hm)) ?_
        intro wc gc
        have b1 := gc.blk b1
        have c0 := gc.cell c0
        have c1 := gc.cell c1
        have gg := gg.trans gc
        have zc := gc.size
        refine ⟨fun _ => ⟨c0, c1⟩, ?_⟩
        simp only [Act.put, List.setIfInBounds_toArray, List.set_cons_succ, List.set_cons_zero]
        have b7 := gc.blk b7
        refine F_free (v := .tuple #[.agg (qv g b k), .bool OK]) 9 #[true, true, true, true, true, true, true, true, true, true, false, false, true, false, false] rfl (by kernel_rfl) (fun _ _ _ h => h) rfl (fun _ => by first | rfl | (unfold execOp; simp [go_sem, Act.eval])) (⟨c0, c1⟩) ?_; simp only [Act.put, List.setIfInBounds_toArray, List.set_cons_succ, List.set_cons_zero]
        refine F_free (v := .agg (qv g b k)) 10 #[true, true, true, true, true, true, true, true, true, true, true, false, true, false, false] rfl (by kernel_rfl) (fun _ _ _ h => h) rfl (fun _ => by first | rfl | (unfold execOp; simp [go_sem, Act.eval])) (⟨c0, c1⟩) ?_; simp only [Act.put, List.setIfInBounds_toArray, List.set_cons_succ, List.set_cons_zero]
        refine F_free (v := .bool OK) 11 #[true, true, true, true, true, true, true, true, true, true, true, true, true, false, false] rfl (by kernel_rfl) (fun _ _ _ h => h) rfl (fun _ => by first | rfl | (unfold execOp; simp [go_sem, Act.eval])) (⟨c0, c1⟩) ?_; simp only [Act.put, List.setIfInBounds_toArray, List.set_cons_succ, List.set_cons_zero]
        refine F_one 13 #[true, true, true, true, true, true, true, true, true, true, true, true, true, true, false] rfl (by kernel_rfl) ?_
        (refine r_store_row 45 45 _ _ _ rfl (qv (g) (b) (k)) _ rfl b7 (Tryd.qsize _ _ _) (by simp only [qv_size]) (qv_one _ _ _) rfl ?_; intro w8 u8 b7'; have z8 := u8.size; have gg := u8.gr gg (by omega); have b1 := u8.blk b1 (by omega); clear b7; have b7 := b7'; clear b7')
        refine ⟨fun h => (by cases h), ?_⟩
        simp only [Act.put]
        refine F_one 14 #[true, true, true, true, true, true, true, true, true, true, true, true, true, true, true] rfl (by kernel_rfl) ?_
        refine r_val (.bool OK) rfl rfl ?_
        refine ⟨fun h => (by cases h), ?_⟩
        simp only [Act.put, List.setIfInBounds_toArray, List.set_cons_succ, List.set_cons_zero]
        refine F_done (by kernel_rfl) ?_
        obtain rfl := HO.out
        go_upto_region 6 with (fail)
        go_step
        refine r_val (.bool true) rfl rfl ?_
        simp only [Act.put, List.setIfInBounds_toArray, List.set_cons_succ, List.set_cons_zero]
        refine r_val (.bool false) rfl rfl ?_
        simp only [Act.put, List.setIfInBounds_toArray, List.set_cons_succ, List.set_cons_zero]
        refine r_val (.bool false) rfl rfl ?_
        simp only [Act.put, List.setIfInBounds_toArray, List.set_cons_succ, List.set_cons_zero]
        (refine r_load_row 45 _ _ rfl _ _ _ b7 Tryd.underlying45 rfl (Tryd.qinfo _ _ _) rfl ?_)
        simp only [Act.put, List.setIfInBounds_toArray, List.set_cons_succ, List.set_cons_zero]
        refine r_call 17 [.tmp 37] _ [.agg (qv g b k)] (.string TX) (fun w' => Gr w8 w') Tryd.call17 rfl rfl (HT.out w8) ?_
        intro w9 g9
        have b1 := g9.blk b1
        have b7 := g9.blk b7
        have gg := gg.trans g9
        have z9 := g9.size
        simp only [Act.put, List.setIfInBounds_toArray, List.set_cons_succ, List.set_cons_zero]
        refine r_val (.string s) rfl rfl ?_
        simp only [Act.put, List.setIfInBounds_toArray, List.set_cons_succ, List.set_cons_zero]
        refine r_val (.bool v) (e_neqU _ _ TX s rfl rfl v hd) rfl ?_
        simp only [Act.put, List.setIfInBounds_toArray, List.set_cons_succ, List.set_cons_zero]
        refine r_val (.bool v) rfl rfl ?_
        simp only [Act.put, List.setIfInBounds_toArray, List.set_cons_succ, List.set_cons_zero]
        cases v with
        | true =>
          go_wp2_with (first | (refine r_build 23 [] [] _ (Tryd.ipbuild0 _) rfl rfl ?_) | (refine r_store_row 23 23 _ _ _ rfl (pv (_) (_) (_)) _ rfl b1 Tryd.ipsize rfl (pv_one _ _ _) rfl ?_; intro w10 u10 b1'; have z10 := u10.size; have gg := u10.gr gg (by omega); clear b1; have b1 := b1'; clear b1'; obtain ⟨b1_0, b1_1, b1_2⟩ := pcells b1))
          refine bodyPost_ret (results_row_bool rfl _ _ _ _ _ _ rfl b1 Tryd.underlying23 rfl Tryd.ipinfo) rfl ?_
          exact ⟨ret_hp HV.out.1 HV.out.2, gg⟩
        | false =>
          go_wp2_with (first | (refine r_load_row 45 _ _ rfl _ _ _ b7 Tryd.underlying45 rfl (Tryd.qinfo _ _ _) rfl ?_) | (go_at_call 18; refine (HU.out _).mono ?_; rintro e w10 ⟨rfl, g10⟩; have z10 := g10.size; have b1 := g10.blk b1; have gg := gg.trans g10) | (refine r_store_row 23 23 _ _ _ rfl (pv (P) (N) (k)) _ rfl b1 Tryd.ipsize rfl (pv_one _ _ _) rfl ?_; intro w11 u11 b1'; have z11 := u11.size; have gg := u11.gr gg (by omega); clear b1; have b1 := b1'; clear b1'; obtain ⟨b1_0, b1_1, b1_2⟩ := pcells b1))
          refine bodyPost_ret (results_row_bool rfl _ _ _ _ _ _ rfl b1 Tryd.underlying23 rfl Tryd.ipinfo) rfl ?_
          exact ⟨ret_hp HV.out.1 HV.out.2, gg⟩
  · have HV := hidI (ppA_no (ppL_len h3))
    obtain ⟨m, hm3⟩ : ∃ m, m = (piB 58 l).length := ⟨_, rfl⟩
    rw [← hm3] at HS h3
    clear hst hsz hl hm3
    go_enter Tryd.func6, Tryd.ntmps6
    go_wp2_with (first | (refine r_alloc (dst := some 2) 23 _ Tryd.ipzero rfl ?_; intro w1 B1 N1; have g1 := N1.gr; have b1 : Blk w1 B1 (pv ByteArray.empty ByteArray.empty 0) 23 := N1.blk; have l1 := N1.lo; have t1 := N1.hi; have z1 := g1.size; have gg := gg.trans g1; clear N1; obtain ⟨b1_0, b1_1, b1_2⟩ := pcells b1) | (go_at_call 14; refine (HS.out _ (gg.ml hm)).mono ?_; rintro e w2 ⟨g2, G, rfl, hbG, -⟩; have b1 := g2.blk b1; have gg := gg.trans g2) | (refine r_build 23 [] [] _ (Tryd.ipbuild0 _) rfl rfl ?_) | (refine r_store_row 23 23 _ _ _ rfl (pv (_) (_) (_)) _ rfl b1 Tryd.ipsize rfl (pv_one _ _ _) rfl ?_; intro w3 u3 b1'; have z3 := u3.size; have gg := u3.gr gg (by omega); clear b1; have b1 := b1'; clear b1'; obtain ⟨b1_0, b1_1, b1_2⟩ := pcells b1))
    refine bodyPost_ret (results_row_bool rfl _ _ _ _ _ _ rfl b1 Tryd.underlying23 rfl Tryd.ipinfo) rfl ?_
    exact ⟨ret_hp HV.out.1 HV.out.2, gg⟩
end Go.Proofs.YtpdmfbhjneodeaaDoor
