/-
  Forms: the functions that tell free ways and add and take cells, in the model, and their laws.
-/
import Derived.Test.YtagoipongdnegaaDoorFormY
import Derived.Test.YtagoipongdnegaaDoorFormZ
namespace Go.Proofs.YtagoipongdnegaaDoor
open Go.RowKit
def cOk (l : List UInt8) (x : Int) : Bool := fmOk l && inB x (nn (rdG l).w (rdG l).h)
theorem c_no {l : List UInt8} {x : Int} (h : cOk l x = false) (b : UInt8) : fwOk l x b = false := by unfold cOk at h; unfold fwOk; rw [h]; rfl
def RetBc (T : TypeId) (l : List UInt8) (x : Int) (w : World) (e : Ending) (w' : World) : Prop :=
  Gr w w' ∧ ((cOk l x = false ∧ ∃ (a b : Int) (sl : Value), sl.oneCell' = true ∧ e = .returned (.tuple #[.agg (tg a b sl), .bool false])) ∨
    ∃ (g : Grid) (G cap i : Nat), rdG l = g ∧ fmOk l = true ∧ FormG g ∧ x = (i : Nat) ∧ i < nn g.w g.h ∧ e = .returned (.tuple #[.agg (tg g.w g.h (.slice (some ⟨G, 0, none⟩) (nn g.w g.h) cap)), .bool true]) ∧ w'.ownsRow w.heap.size T 1 (.slice (some ⟨G, 0, none⟩) (nn g.w g.h) cap) (nn g.w g.h) (cellsV g.c))
theorem FormG.ty {g : Grid} (F : FormG g) : Ty g.w g.h (nn g.w g.h) g.c := ⟨F.t.w1, F.t.h1, F.t.w7, F.t.h7, rfl, F.t.n36, F.t.len.symm⟩
theorem FormG.ty_set {g : Grid} (F : FormG g) (i : Nat) (b : UInt8) : Ty g.w g.h (nn g.w g.h) (g.c.set i b) := ⟨F.t.w1, F.t.h1, F.t.w7, F.t.h7, rfl, F.t.n36, by rw [List.length_set]; exact F.t.len.symm⟩
theorem FormG.all_set {g : Grid} (F : FormG g) (i : Nat) {b : UInt8} (hb : foB b = true) : foAll (g.c.set i b) (nn g.w g.h) = true := foAll_iff.2 fun j hj => fo_set hb F.all j (by rw [List.length_set, F.t.len]; exact hj)
theorem c_yes {l : List UInt8} {g : Grid} {i : Nat} (hg : rdG l = g) (hf : fmOk l = true) (hi : i < nn g.w g.h) : cOk l i = true ∧ ∀ b, fwOk l i b = decide (at0 g.c i = b) := by
  have e : cOk l i = true := by unfold cOk; rw [hf, hg, inB_true.2 ⟨Int.natCast_nonneg _, Int.ofNat_lt.2 hi⟩]; rfl
  refine ⟨e, fun b => ?_⟩
  unfold cOk at e
  unfold fwOk
  rw [e, hg, Int.toNat_natCast]
  rfl
theorem ac_of {l : List UInt8} {g : Grid} {i : Nat} (hg : rdG l = g) (hf : fmOk l = true) (hi : i < nn g.w g.h) (F : FormG g) : acOk l i = (canB g.w g.h g.c i && isFo g.w g.h (g.c.set i 111)) := by
  unfold acOk
  rw [(c_yes hg hf hi).2 46, hg, Int.toNat_natCast]
  unfold foG
  rw [F.all_set i (b := 111) rfl, Bool.true_and]
  cases h : canB g.w g.h g.c i with
  | false => rw [Bool.and_false]
  | true => rw [decide_eq_true (can_free h), Bool.true_and]
theorem tk_yes {l : List UInt8} {g : Grid} {i : Nat} (hg : rdG l = g) (hf : fmOk l = true) (hi : i < nn g.w g.h) : tkOk l i = tkC g.w g.h g.c i := by
  have e := (c_yes hg hf hi).1
  unfold cOk at e
  unfold tkOk
  rw [e, hg, Int.toNat_natCast]
  rfl
set_option maxHeartbeats 4000000 in
set_option maxRecDepth 100000 in
theorem buCell_any (s : ByteArray) (x : Int) (w : World) (hs : s.size ≤ 1048576) : Calls Tryd.prog 65 #[.string s, .int .i64 x] w (RetBc 5 s.data.toList x w) := by
  have gg := Gr.refl w
  go_enter Tryd.func65, Tryd.ntmps65
  go_wp2_with (refine r_alloc (dst := some 4) 45 _ Tryd.tzero rfl ?_; intro w1 B1 N1; have g1 := N1.gr; have b1 : Blk w1 B1 (tg 0 0 (.slice none 0 0)) 45 := N1.blk; have l1 := N1.lo; have t1 := N1.hi; have z1 := g1.size; have gg := gg.trans g1; clear N1; obtain ⟨b1_0, b1_1, b1_2⟩ := tcells b1)
  refine (buRead_any s _ hs).mono ?_
  rintro e w2 ⟨g2, ⟨hf, xa, xb, sl, hone, rfl⟩ | ⟨g, G, cap, hp, hg, hf, hfg, F, rfl, own⟩⟩
  · have HN := hidI (show cOk s.data.toList x = false from by unfold cOk; rw [hf]; rfl)
    have z2 := g2.size
    have b1 := g2.blk b1
    have gg := gg.trans g2
    clear hf
    go_wp2_with (first | (refine r_alloc (dst := some 6) 45 _ Tryd.tzero rfl ?_; intro w6 B6 N6; have g6 := N6.gr; have b6 : Blk w6 B6 (tg 0 0 (.slice none 0 0)) 45 := N6.blk; have l6 := N6.lo; have t6 := N6.hi; have z6 := g6.size; have b1 := g6.blk b1; obtain ⟨b1_0, b1_1, b1_2⟩ := tcells b1; have gg := gg.trans g6; clear N6; obtain ⟨b6_0, b6_1, b6_2⟩ := tcells b6) | (refine r_store_row 45 45 _ _ _ rfl (tg _ _ _) _ rfl b6 Tryd.tsize rfl (tg_one hone) rfl ?_; intro w3 u3 b6'; have z3 := u3.size; have gg := u3.gr gg (by omega); have b1 := u3.blk b1 (by omega); obtain ⟨b1_0, b1_1, b1_2⟩ := tcells b1; clear b6; have b6 := b6'; clear b6'; obtain ⟨b6_0, b6_1, b6_2⟩ := tcells b6))
    have gd := (Gr.refl w3).drew
    have b1 := gd.blk b1
    have b6 := gd.blk b6
    have gg := gg.trans gd
    have zd := gd.size
    refine K_begin (fun w => Blk w B6 (tg xa xb sl) 45) 12 12 #[false, false, false, false, false, false, false, false, false, false, false, false] rfl (by kernel_rfl) (by kernel_rfl) ?_
    generalize w3.drew = wd at *
    refine K_take 0 #[true, false, false, false, false, false, false, false, false, false, false, false] rfl (by kernel_rfl) (fun _ _ _ h => h) rfl (fun w hF => e_load_row 45 (.tmp 6) B6 _ _ _ rfl hF Tryd.underlying45 rfl Tryd.tinfo) (b6) ?_; simp only [Act.put, List.setIfInBounds_toArray, List.set_cons_succ, List.set_cons_zero]
    refine K_take (v := .bool false) 1 #[true, true, false, false, false, false, false, false, false, false, false, false] rfl (by kernel_rfl) (fun _ _ _ h => h) rfl (fun _ _ => rfl) (b6) ?_; simp only [Act.put, List.setIfInBounds_toArray, List.set_cons_succ, List.set_cons_zero]
    refine K_take (v := .bool false) 2 #[true, true, true, false, false, false, false, false, false, false, false, false] rfl (by kernel_rfl) (fun _ _ _ h => h) rfl (fun _ _ => rfl) (b6) ?_; simp only [Act.put, List.setIfInBounds_toArray, List.set_cons_succ, List.set_cons_zero]
    refine K_skip 3 #[true, true, true, true, false, false, false, false, false, false, false, false] rfl (by kernel_rfl) (fun _ _ _ h => h) rfl (b6) ?_; simp only [Act.put, List.setIfInBounds_toArray, List.set_cons_succ, List.set_cons_zero]
    refine K_skip 4 #[true, true, true, true, true, false, false, false, false, false, false, false] rfl (by kernel_rfl) (fun _ _ _ h => h) rfl (b6) ?_; simp only [Act.put, List.setIfInBounds_toArray, List.set_cons_succ, List.set_cons_zero]
    refine K_skip 5 #[true, true, true, true, true, true, false, false, false, false, false, false] rfl (by kernel_rfl) (fun _ _ _ h => h) rfl (b6) ?_; simp only [Act.put, List.setIfInBounds_toArray, List.set_cons_succ, List.set_cons_zero]
    refine K_skip 6 #[true, true, true, true, true, true, true, false, false, false, false, false] rfl (by kernel_rfl) (fun _ _ _ h => h) rfl (b6) ?_; simp only [Act.put, List.setIfInBounds_toArray, List.set_cons_succ, List.set_cons_zero]
    refine K_skip 7 #[true, true, true, true, true, true, true, true, false, false, false, false] rfl (by kernel_rfl) (fun _ _ _ h => h) rfl (b6) ?_; simp only [Act.put, List.setIfInBounds_toArray, List.set_cons_succ, List.set_cons_zero]
    refine K_skip 8 #[true, true, true, true, true, true, true, true, true, false, false, false] rfl (by kernel_rfl) (fun _ _ _ h => h) rfl (b6) ?_; simp only [Act.put, List.setIfInBounds_toArray, List.set_cons_succ, List.set_cons_zero]
    refine K_take (v := .bool false) 9 #[true, true, true, true, true, true, true, true, true, true, false, false] rfl (by kernel_rfl) (fun _ _ _ h => h) rfl (fun w hF => by first | rfl | (unfold execOp; simp [go_sem, Act.eval])) (b6) ?_; simp only [Act.put, List.setIfInBounds_toArray, List.set_cons_succ, List.set_cons_zero]
    refine K_one 10 #[true, true, true, true, true, true, true, true, true, true, true, false] rfl (by kernel_rfl) ?_
    refine r_store_row 45 45 _ _ B1 rfl (tg xa xb sl) _ rfl b1 Tryd.tsize rfl (tg_one hone) rfl ?_
    intro w6 u6 b1'
    simp only [Act.put]
    have b6 := u6.blk b6 (by omega)
    have gg := u6.gr gg (by omega)
    refine ⟨fun _ => b6, ?_⟩
    refine K_one 11 #[true, true, true, true, true, true, true, true, true, true, true, true] rfl (by kernel_rfl) ?_
    refine r_val (.bool false) rfl rfl ?_
    simp only [Act.put, List.setIfInBounds_toArray, List.set_cons_succ, List.set_cons_zero]
    refine ⟨fun _ => b6, ?_⟩
    refine K_done' (by kernel_rfl) ?_
    go_wp2
    refine bodyPost_ret (results_row_bool rfl _ _ _ _ _ _ rfl b1' Tryd.underlying45 rfl Tryd.tinfo) rfl ?_
    exact ⟨gg, .inl ⟨HN.out, _, _, _, hone, rfl⟩⟩
  · obtain ⟨N, hN⟩ : ∃ N, N = nn g.w g.h := ⟨_, rfl⟩
    have hN36 : N ≤ 36 := by rw [hN]; exact F.t.n36
    obtain ⟨B, hB⟩ : ∃ B, B = inB x N := ⟨_, rfl⟩
    have HL1 := hidI (fun w => show Calls Tryd.prog 103 #[.int .i64 x, .int .i64 0, .int .i64 ((N : Int) - 1)] w fun e w' => e = .returned (.bool B) ∧ Gr w w' from (l1In_any x 0 ((N : Int) - 1) w).mono fun e w' ⟨h1, h2⟩ => ⟨by rw [h1, btw_inB, hB], by rw [← h2]; exact Gr.refl w⟩)
    have HC := hidI (show cOk s.data.toList x = B from by unfold cOk; rw [hf, hg, hB, hN]; rfl)
    have HEN := hidI hN
    have HEB := hidI hB
    have HEG := hidI hg
    have HEF := hidI hf
    rw [← hN] at own
    rw [← hN]
    have z2 := g2.size
    have b1 := g2.blk b1
    have gg := gg.trans g2
    have hone := own_one own
    clear hp hg hf hfg hN hB
    go_wp2_with (first | (refine r_alloc (dst := some 6) 45 _ Tryd.tzero rfl ?_; intro w6 B6 N6; have g6 := N6.gr; have b6 : Blk w6 B6 (tg 0 0 (.slice none 0 0)) 45 := N6.blk; have l6 := N6.lo; have t6 := N6.hi; have z6 := g6.size; have b1 := g6.blk b1; obtain ⟨b1_0, b1_1, b1_2⟩ := tcells b1; have gg := gg.trans g6; clear N6; obtain ⟨b6_0, b6_1, b6_2⟩ := tcells b6) | (refine r_store_row 45 45 _ _ _ rfl (tg _ _ _) _ rfl b6 Tryd.tsize rfl (tg_one hone) rfl ?_; intro w3 u3 b6'; have z3 := u3.size; have gg := u3.gr gg (by omega); have b1 := u3.blk b1 (by omega); obtain ⟨b1_0, b1_1, b1_2⟩ := tcells b1; clear b6; have b6 := b6'; clear b6'; obtain ⟨b6_0, b6_1, b6_2⟩ := tcells b6))
    have own := u3.row (g6.row own) (own_new own l6)
    have gd := (Gr.refl w3).drew
    have b1 := gd.blk b1
    have b6 := gd.blk b6
    have own := gd.row own
    have gg := gg.trans gd
    have zd := gd.size
    refine K_begin (fun w => Blk w B6 (tg g.w g.h (.slice (some ⟨G, 0, none⟩) N cap)) 45) 12 12 #[false, false, false, false, false, false, false, false, false, false, false, false] rfl (by kernel_rfl) (by kernel_rfl) ?_
    generalize w3.drew = wd at *
    refine K_take 0 #[true, false, false, false, false, false, false, false, false, false, false, false] rfl (by kernel_rfl) (fun _ _ _ h => h) rfl (fun w hF => e_load_row 45 (.tmp 6) B6 _ _ _ rfl hF Tryd.underlying45 rfl Tryd.tinfo) (b6) ?_; simp only [Act.put, List.setIfInBounds_toArray, List.set_cons_succ, List.set_cons_zero]
    refine K_take (v := .bool true) 1 #[true, true, false, false, false, false, false, false, false, false, false, false] rfl (by kernel_rfl) (fun _ _ _ h => h) rfl (fun _ _ => rfl) (b6) ?_; simp only [Act.put, List.setIfInBounds_toArray, List.set_cons_succ, List.set_cons_zero]
    refine K_take (v := .bool true) 2 #[true, true, true, false, false, false, false, false, false, false, false, false] rfl (by kernel_rfl) (fun _ _ _ h => h) rfl (fun _ _ => rfl) (b6) ?_; simp only [Act.put, List.setIfInBounds_toArray, List.set_cons_succ, List.set_cons_zero]
    refine K_take (v := .int .i64 x) 3 #[true, true, true, true, false, false, false, false, false, false, false, false] rfl (by kernel_rfl) (fun _ _ _ h => h) rfl (fun _ _ => rfl) (b6) ?_; simp only [Act.put, List.setIfInBounds_toArray, List.set_cons_succ, List.set_cons_zero]
    refine K_take 4 #[true, true, true, true, true, false, false, false, false, false, false, false] rfl (by kernel_rfl) (fun _ _ _ h => h) rfl (fun w hF => e_val _ _ (Tryd.tf2 B6 _)) (b6) ?_; simp only [Act.put, List.setIfInBounds_toArray, List.set_cons_succ, List.set_cons_zero]
    refine K_take 5 #[true, true, true, true, true, true, false, false, false, false, false, false] rfl (by kernel_rfl) (fun _ _ _ h => h) rfl (fun w hF => e_load 43 (.tmp 17) ⟨B6, 2, none⟩ (.slice (some ⟨G, 0, none⟩) N cap) rfl (Tryd.isAgg43 _) (tcells hF).2.2) (b6) ?_; simp only [Act.put, List.setIfInBounds_toArray, List.set_cons_succ, List.set_cons_zero]
    refine K_take (v := .int .i64 N) 6 #[true, true, true, true, true, true, true, false, false, false, false, false] rfl (by kernel_rfl) (fun _ _ _ h => h) rfl (fun w hF => by first | rfl | (unfold execOp; simp [go_sem, Act.eval])) (b6) ?_; simp only [Act.put, List.setIfInBounds_toArray, List.set_cons_succ, List.set_cons_zero]
    refine K_take (v := .int .i64 ((N : Int) - 1)) 7 #[true, true, true, true, true, true, true, true, false, false, false, false] rfl (by kernel_rfl) (fun _ _ _ h => h) rfl (fun w hF => e_subF _ _ (N : Int) 1 ((N : Int) - 1) rfl rfl rfl (by omega)) (b6) ?_; simp only [Act.put, List.setIfInBounds_toArray, List.set_cons_succ, List.set_cons_zero]
    refine K_one 8 #[true, true, true, true, true, true, true, true, true, false, false, false] rfl (by kernel_rfl) ?_
    refine r_call 103 [.tmp 16, .const (.int .i64 0), .tmp 20] _ [.int .i64 x, .int .i64 0, .int .i64 ((N : Int) - 1)] (.bool B) (fun w' => Gr wd w') Tryd.call103 rfl rfl (HL1.out wd) ?_
    intro w7 g7
    have b1 := g7.blk b1
    have b6 := g7.blk b6
    have own := g7.row own
    have gg := gg.trans g7
    have z7 := g7.size
    simp only [Act.put, List.setIfInBounds_toArray, List.set_cons_succ, List.set_cons_zero]
    refine ⟨fun _ => b6, ?_⟩
    refine K_take (v := .bool B) 9 #[true, true, true, true, true, true, true, true, true, true, false, false] rfl (by kernel_rfl) (fun _ _ _ h => h) rfl (fun w hF => by first | rfl | (unfold execOp; simp [go_sem, Act.eval])) (b6) ?_; simp only [Act.put, List.setIfInBounds_toArray, List.set_cons_succ, List.set_cons_zero]
    refine K_one 10 #[true, true, true, true, true, true, true, true, true, true, true, false] rfl (by kernel_rfl) ?_
    refine r_store_row 45 45 _ _ B1 rfl (tg g.w g.h (.slice (some ⟨G, 0, none⟩) N cap)) _ rfl b1 Tryd.tsize rfl (tg_one hone) rfl ?_
    intro w8 u8 b1'
    simp only [Act.put]
    have own := u8.row own (own_ne own b1 (by decide))
    have b6 := u8.blk b6 (by omega)
    have gg := u8.gr gg (by omega)
    refine ⟨fun _ => b6, ?_⟩
    refine K_one 11 #[true, true, true, true, true, true, true, true, true, true, true, true] rfl (by kernel_rfl) ?_
    refine r_val (.bool B) rfl rfl ?_
    simp only [Act.put, List.setIfInBounds_toArray, List.set_cons_succ, List.set_cons_zero]
    refine ⟨fun _ => b6, ?_⟩
    refine K_done' (by kernel_rfl) ?_
    go_wp2
    refine bodyPost_ret (results_row_bool rfl _ _ _ _ _ _ rfl b1' Tryd.underlying45 rfl Tryd.tinfo) rfl ?_
    refine ⟨gg, ?_⟩
    cases B with
    | false => exact .inl ⟨HC.out, _, _, _, hone, rfl⟩
    | true =>
      obtain ⟨hx0, hxN⟩ := inB_true.1 HEB.out.symm
      have hEN := HEN.out
      refine .inr ⟨g, G, cap, x.toNat, HEG.out, HEF.out, F, by omega, by rw [← hEN]; omega, ?_, ?_⟩
      · rw [← hEN]
        rfl
      · rw [← hEN]
        exact own_up own (by omega)
set_option maxHeartbeats 4000000 in
set_option maxRecDepth 100000 in
theorem sFreeWays (s : ByteArray) (x : Int) (w : World) (hs : s.size ≤ 1048576) : Calls Tryd.prog 33 #[.string s, .int .i64 x] w (Ret (.tuple #[.string (fyB s.data.toList x), .bool (fwOk s.data.toList x 46)]) w) := by
  have gg := Gr.refl w
  go_enter Tryd.func33, Tryd.ntmps33
  go_wp2_with fail
  refine (buCell_any s x _ hs).mono ?_
  rintro e w1 ⟨g1, ⟨hc, xa, xb, sl, hone, rfl⟩ | ⟨g, G, cap, i, hg, hf, F, rfl, hi, rfl, own⟩⟩
  · have HF := hidI (c_no hc 46)
    have HV := hidI (show fyB s.data.toList x = ⟨#[]⟩ from by unfold fyB; rw [HF.out]; rfl)
    have z1 := g1.size
    have gg := gg.trans g1
    clear hc
    go_wp2_with (first | (refine r_alloc 45 _ Tryd.tzero rfl ?_; intro w2 B2 N2; have g2 := N2.gr; have b2 : Blk w2 B2 (tg 0 0 (.slice none 0 0)) 45 := N2.blk; have l2 := N2.lo; have t2 := N2.hi; have z2 := g2.size; have gg := gg.trans g2; clear N2; obtain ⟨b2_0, b2_1, b2_2⟩ := tcells b2) | (refine r_store_row 45 45 _ _ _ rfl (tg _ _ _) _ rfl b2 Tryd.tsize rfl (tg_one hone) rfl ?_; intro w3 u3 b2'; have z3 := u3.size; have gg := u3.gr gg (by omega); clear b2; have b2 := b2'; clear b2'; obtain ⟨b2_0, b2_1, b2_2⟩ := tcells b2))
    go_ret2
    exact ⟨fin_sb HV.out.symm HF.out.symm, gg⟩
  · have HT := hidI F.ty
    have HFE := hidI ((c_yes hg hf hi).2 46)
    have HVE := hidI (show fyB s.data.toList i = if fwOk s.data.toList i 46 then mkS (wyL g.w g.h g.c i 4) else ⟨#[]⟩ from by unfold fyB; rw [hg]; rfl)
    obtain ⟨N, hN⟩ : ∃ N, N = nn g.w g.h := ⟨_, rfl⟩
    rw [← hN] at own HT hi
    rw [← hN]
    have z1 := g1.size
    have gg := gg.trans g1
    have hone := own_one own
    have hgk := Tryd.six0 G N cap i hi
    have hck1 := own_cell own i (by rw [← HT.out.len]; exact hi) HT.out.len
    have HOW := hidI own
    clear hg hf F hN
    by_cases hc : at0 g.c i = 46
    · have HF := hidI (show fwOk s.data.toList i 46 = true from by rw [HFE.out, decide_eq_true hc])
      have HV := hidI (show fyB s.data.toList i = mkS (wyL g.w g.h g.c i 4) from by rw [HVE.out, HF.out]; rfl)
      have e1 : (((at0 g.c i).toNat : Int) == 46) = true := beq_byte hc
      have e2 : (((at0 g.c i).toNat : Int) != 46) = false := by rw [bne, e1]; rfl
      clear hc HFE HVE
      go_wp2_with (first | (refine r_alloc 45 _ Tryd.tzero rfl ?_; intro w2 B2 N2; have g2 := N2.gr; have b2 : Blk w2 B2 (tg 0 0 (.slice none 0 0)) 45 := N2.blk; have l2 := N2.lo; have t2 := N2.hi; have z2 := g2.size; have hck2 := g2.cell hck1; have gg := gg.trans g2; clear N2) | (refine r_store_row 45 45 _ _ _ rfl (tg g.w g.h (.slice (some ⟨G, 0, none⟩) N cap)) _ rfl b2 Tryd.tsize rfl (tg_one hone) rfl ?_; intro w3 u3 b2'; have z3 := u3.size; have own := u3.row (g2.row HOW.out) (own_new HOW.out l2); have hck3 := own_cell own i (by rw [← HT.out.len]; exact hi) HT.out.len; have gg := u3.gr gg (by omega); obtain ⟨b2_0, b2_1, b2_2⟩ := tcells b2'))
      clear b2_0 b2_1 b2_2 hck1 hck2 hck3 b2
      go_loopw [8, 9] (fun ov iv wr => ∃ k : Nat, k ≤ 4 ∧ iv = .int .i64 k ∧ ov = .string (mkS (wyL g.w g.h g.c i k)) ∧ wr.ownsRow w.heap.size 5 1 (.slice (some ⟨G, 0, none⟩) N cap) N (cellsV g.c) ∧ Blk wr B2 (tg g.w g.h (.slice (some ⟨G, 0, none⟩) N cap)) 45 ∧ Gr w wr) (fun _ iv _ => 4 - (intOf iv).toNat)
      case atStart => exact ⟨0, Nat.zero_le _, rfl, rfl, own, b2', gg⟩
      case round =>
        clear own b2' gg
        obtain ⟨k, hk, rfl, rfl, own, b2, gg⟩ := hrel
        have hln := wyL_length g.w g.h g.c i k
        by_cases hlt : k < 4
        · have hsz : (mkS (wyL g.w g.h g.c i k)).size ≤ 40 := by rw [mkS_size]; omega
          have hadd := fun w => run_string_add_sum (P := Tryd.prog) w (mkS (wyL g.w g.h g.c i k)) ⟨#[dB k]⟩ (by show (mkS (wyL g.w g.h g.c i k)).size + 1 ≤ _; omega)
          have HEX := hidI (show (⟨#[117, 114, 100, 108]⟩ : ByteArray).extract k (k + 1) = ⟨#[dB k]⟩ from urdl_at k hlt)
          have hex := HEX.out
          have HBF := hidI (fun w ho => buFree_any g.w g.h w1.heap.size G cap N k i g.c w HT.out hlt hi ho)
          have HBF := hidI (fun (b : Nat) w ho => buFree_any g.w g.h b G cap N k i g.c w HT.out hlt hi ho)
          cases hfr : frB g.w g.h g.c k i with
          | false =>
            rw [hfr] at HBF
            have HST := hidI (show wyL g.w g.h g.c i (k + 1) = wyL g.w g.h g.c i k from by rw [wyL, if_neg (by rw [hfr]; decide)])
            clear hfr
            go_wp2_with (first | (refine r_load_row 45 _ _ rfl _ _ _ b2 Tryd.underlying45 rfl Tryd.tinfo rfl ?_) | (go_at_call 66; refine (HBF.out _ _ own).mono ?_; rintro e w5 ⟨rfl, g5⟩; have z5 := g5.size; have b2 := g5.blk b2; have gg := gg.trans g5))
            go_roundw
            case rel => exact ⟨k + 1, by omega, by go_num, by rw [HST.out], g5.row own, b2, gg⟩
            case measure => simp [intOf]; omega
          | true =>
            rw [hfr] at HBF
            have HST := hidI (show mkS (wyL g.w g.h g.c i k) ++ ⟨#[dB k]⟩ = mkS (wyL g.w g.h g.c i (k + 1)) from by rw [mkS_append, wyL, if_pos hfr])
            clear hfr
            go_wp2_with (first | (refine r_load_row 45 _ _ rfl _ _ _ b2 Tryd.underlying45 rfl Tryd.tinfo rfl ?_) | (go_at_call 66; refine (HBF.out _ _ own).mono ?_; rintro e w5 ⟨rfl, g5⟩; have z5 := g5.size; have b2 := g5.blk b2; have gg := gg.trans g5) | (go_at_call 67; refine (tiDirs_any _).mono ?_; rintro e wSame ⟨rfl, rfl⟩))
            go_roundw
            case rel => exact ⟨k + 1, by omega, by go_num, by rw [HST.out], g5.row own, b2, gg⟩
            case measure => simp [intOf]; omega
        · obtain rfl : k = 4 := by omega
          clear hlt
          go_wp2
          go_ret2
          exact ⟨fin_sb HV.out.symm HF.out.symm, gg⟩
    · have HF := hidI (show fwOk s.data.toList i 46 = false from by rw [HFE.out, decide_eq_false hc])
      have HV := hidI (show fyB s.data.toList i = ⟨#[]⟩ from by rw [HVE.out, HF.out]; rfl)
      have e1 : (((at0 g.c i).toNat : Int) == 46) = false := bne_byte hc
      have e2 : (((at0 g.c i).toNat : Int) != 46) = true := by rw [bne, e1]; rfl
      clear hc HFE HVE
      go_wp2_with (first | (refine r_alloc 45 _ Tryd.tzero rfl ?_; intro w2 B2 N2; have g2 := N2.gr; have b2 : Blk w2 B2 (tg 0 0 (.slice none 0 0)) 45 := N2.blk; have l2 := N2.lo; have t2 := N2.hi; have z2 := g2.size; have hck2 := g2.cell hck1; have gg := gg.trans g2; clear N2) | (refine r_store_row 45 45 _ _ _ rfl (tg g.w g.h (.slice (some ⟨G, 0, none⟩) N cap)) _ rfl b2 Tryd.tsize rfl (tg_one hone) rfl ?_; intro w3 u3 b2'; have z3 := u3.size; have own := u3.row (g2.row HOW.out) (own_new HOW.out l2); have hck3 := own_cell own i (by rw [← HT.out.len]; exact hi) HT.out.len; have gg := u3.gr gg (by omega); obtain ⟨b2_0, b2_1, b2_2⟩ := tcells b2'))
      go_ret2
      exact ⟨fin_sb HV.out.symm HF.out.symm, gg⟩
set_option maxHeartbeats 4000000 in
set_option maxRecDepth 100000 in
theorem sCanAdd (s : ByteArray) (x : Int) (t : ByteArray) (w : World) (hs : s.size ≤ 1048576) : Calls Tryd.prog 35 #[.string s, .int .i64 x, .string t] w (Ret (.tuple #[.bool (caV s.data.toList x t), .bool (caK s.data.toList x t)]) w) := by
  have gg := Gr.refl w
  have HZ := hidI (fun (h : caK s.data.toList x t = false) => show Ending.returned (.tuple #[.bool false, .bool false]) = Ending.returned (.tuple #[.bool (caV s.data.toList x t), .bool (caK s.data.toList x t)]) from by rw [ca_no h, h])
  go_enter Tryd.func35, Tryd.ntmps35
  go_wp2_with fail
  refine (buCell_any s x _ hs).mono ?_
  rintro e w1 ⟨g1, ⟨hc, xa, xb, sl, hone, rfl⟩ | ⟨g, G, cap, i, hg, hf, F, rfl, hi, rfl, own⟩⟩
  · have HN := hidI (show caK s.data.toList x t = false from by unfold cOk at hc; unfold caK; rw [hc]; rfl)
    have z1 := g1.size
    have gg := gg.trans g1
    clear hc
    go_wp2_with (first | (refine r_alloc 45 _ Tryd.tzero rfl ?_; intro w2 B2 N2; have g2 := N2.gr; have b2 : Blk w2 B2 (tg 0 0 (.slice none 0 0)) 45 := N2.blk; have l2 := N2.lo; have t2 := N2.hi; have z2 := g2.size; have gg := gg.trans g2; clear N2; obtain ⟨b2_0, b2_1, b2_2⟩ := tcells b2) | (refine r_store_row 45 45 _ _ _ rfl (tg _ _ _) _ rfl b2 Tryd.tsize rfl (tg_one hone) rfl ?_; intro w3 u3 b2'; have z3 := u3.size; have gg := u3.gr gg (by omega); clear b2; have b2 := b2'; clear b2'; obtain ⟨b2_0, b2_1, b2_2⟩ := tcells b2) | (go_at_call 70; refine (tiDir_any t _).mono ?_; rintro e w4 ⟨rfl, g4⟩; have z4 := g4.size; have gg := gg.trans g4))
    go_ret2
    exact ⟨HZ.out HN.out, gg⟩
  · have HT := hidI F.ty
    have HFW := hidI (show caK s.data.toList i t = dirOk t from by
      have e := (c_yes hg hf hi).1
      unfold cOk at e
      unfold caK
      rw [e]; rfl)
    have HVV := hidI (show caV s.data.toList i t = (dirOk t && (besB g.w g.h g.c i && frB g.w g.h g.c (dS t).toNat i)) from by unfold caV; rw [HFW.out, hg, Int.toNat_natCast])
    obtain ⟨N, hN⟩ : ∃ N, N = nn g.w g.h := ⟨_, rfl⟩
    rw [← hN] at own HT hi
    rw [← hN]
    have z1 := g1.size
    have gg := gg.trans g1
    have hone := own_one own
    clear hg hf F hN
    cases hd : dirOk t with
    | false =>
      rw [hd] at HFW
      have hneg := dir_no hd
      obtain ⟨q, hq⟩ : ∃ q, q = dS t := ⟨_, rfl⟩
      have HDI := hidI (fun w => show Calls Tryd.prog 70 #[.string t] w (Ret (.int .i64 q) w) from by rw [hq]; exact tiDir_any t w)
      rw [← hq] at hneg
      clear hd hq HVV
      go_wp2_with (first | (refine r_alloc 45 _ Tryd.tzero rfl ?_; intro w2 B2 N2; have g2 := N2.gr; have b2 : Blk w2 B2 (tg 0 0 (.slice none 0 0)) 45 := N2.blk; have l2 := N2.lo; have t2 := N2.hi; have z2 := g2.size; have gg := gg.trans g2; clear N2; obtain ⟨b2_0, b2_1, b2_2⟩ := tcells b2) | (refine r_store_row 45 45 _ _ _ rfl (tg _ _ _) _ rfl b2 Tryd.tsize rfl (tg_one hone) rfl ?_; intro w3 u3 b2'; have z3 := u3.size; have gg := u3.gr gg (by omega); clear b2; have b2 := b2'; clear b2'; obtain ⟨b2_0, b2_1, b2_2⟩ := tcells b2) | (go_at_call 70; refine (HDI.out _).mono ?_; rintro e w4 ⟨rfl, g4⟩; have z4 := g4.size; have gg := gg.trans g4))
      go_ret2
      exact ⟨HZ.out HFW.out, gg⟩
    | true =>
      obtain ⟨d, hd4, rfl, hdS⟩ := dir_yes hd
      rw [hd] at HFW
      have HDI := hidI (fun w => show Calls Tryd.prog 70 #[.string ⟨#[dB d]⟩] w (Ret (.int .i64 (d : Nat)) w) from by rw [← hdS]; exact tiDir_any _ w)
      have HV := hidI (show caV s.data.toList i ⟨#[dB d]⟩ = (frB g.w g.h g.c d i && besB g.w g.h g.c i) from by rw [HVV.out, hd, hdS, Int.toNat_natCast, Bool.true_and, Bool.and_comm])
      have HBC := hidI (fun (b : Nat) w ho => buCan_any g.w g.h b G cap N d i g.c w HT.out hd4 hi ho)
      obtain ⟨R, hR⟩ : ∃ R, R = (frB g.w g.h g.c d i && besB g.w g.h g.c i) := ⟨_, rfl⟩
      rw [← hR] at HV HBC
      clear hd hdS HVV hR
      go_wp2_with (first | (refine r_alloc 45 _ Tryd.tzero rfl ?_; intro w2 B2 N2; have g2 := N2.gr; have b2 : Blk w2 B2 (tg 0 0 (.slice none 0 0)) 45 := N2.blk; have l2 := N2.lo; have t2 := N2.hi; have z2 := g2.size; have gg := gg.trans g2; clear N2; obtain ⟨b2_0, b2_1, b2_2⟩ := tcells b2) | (refine r_store_row 45 45 _ _ _ rfl (tg _ _ _) _ rfl b2 Tryd.tsize rfl (tg_one hone) rfl ?_; intro w3 u3 b2'; have z3 := u3.size; have gg := u3.gr gg (by omega); clear b2; have b2 := b2'; clear b2'; obtain ⟨b2_0, b2_1, b2_2⟩ := tcells b2) | (refine r_load_row 45 _ _ rfl _ _ _ b2 Tryd.underlying45 rfl Tryd.tinfo rfl ?_) | (go_at_call 70; refine (HDI.out _).mono ?_; rintro e w4 ⟨rfl, g4⟩; have z4 := g4.size; have b2 := g4.blk b2; obtain ⟨b2_0, b2_1, b2_2⟩ := tcells b2; have gg := gg.trans g4) | (go_at_call 71; refine (HBC.out _ _ (g4.row (u3.row (g2.row own) (own_new own l2)))).mono ?_; rintro e w5 ⟨rfl, g5⟩; have z5 := g5.size; have gg := gg.trans g5))
      go_ret2
      exact ⟨fin_bbF HV.out.symm HFW.out.symm, gg⟩
set_option maxHeartbeats 1000000 in
theorem lawFreeWays (s : ByteArray) (x : Int) (w : World) (hm : ML w) : Calls Tryd.prog 10 #[.string s, .int .i64 x] w (Ret (.bool true) w) := by
  have gg := Gr.refl w
  by_cases hs : 1048576 < s.size
  · go_enter Tryd.func10, Tryd.ntmps10
    go_wp2
    go_ret
    exact ⟨rfl, gg⟩
  · have hs' : s.size ≤ 1048576 := by omega
    clear hs
    go_enter Tryd.func10, Tryd.ntmps10
    go_wp2_with (first | (go_at_call 33; refine (sFreeWays s x _ hs').mono ?_; rintro e w1 ⟨rfl, g1⟩; have z1 := g1.size; have gg := gg.trans g1) | (go_at_call 34; refine (iFreeWays s x _ (gg.ml hm) hs').mono ?_; rintro e w2 ⟨rfl, g2⟩; have z2 := g2.size; have gg := gg.trans g2))
    go_ret
    exact ⟨rfl, gg⟩
set_option maxHeartbeats 1000000 in
theorem lawCanAdd (s : ByteArray) (x : Int) (t : ByteArray) (w : World) (hm : ML w) : Calls Tryd.prog 11 #[.string s, .int .i64 x, .string t] w (Ret (.bool true) w) := by
  have gg := Gr.refl w
  by_cases hs : 1048576 < s.size
  · go_enter Tryd.func11, Tryd.ntmps11
    go_wp2
    go_ret
    exact ⟨rfl, gg⟩
  · have hs' : s.size ≤ 1048576 := by omega
    clear hs
    by_cases ht : 1048576 < t.size
    · go_enter Tryd.func11, Tryd.ntmps11
      go_wp2
      go_ret
      exact ⟨rfl, gg⟩
    · have ht' : t.size ≤ 1048576 := by omega
      clear ht
      go_enter Tryd.func11, Tryd.ntmps11
      go_wp2_with (first | (go_at_call 35; refine (sCanAdd s x t _ hs').mono ?_; rintro e w1 ⟨rfl, g1⟩; have z1 := g1.size; have gg := gg.trans g1) | (go_at_call 36; refine (iCanAdd s x t _ (gg.ml hm) hs').mono ?_; rintro e w2 ⟨rfl, g2⟩; have z2 := g2.size; have gg := gg.trans g2))
      go_ret
      exact ⟨rfl, gg⟩
end Go.Proofs.YtagoipongdnegaaDoor
