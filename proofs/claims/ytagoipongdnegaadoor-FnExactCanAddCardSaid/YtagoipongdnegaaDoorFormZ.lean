/-
  Forms: whether a cell can be added with a direction, and the balls that can be taken last, in the program.
-/
import Derived.Test.YtagoipongdnegaaDoorFormX
namespace Go.Proofs.YtagoipongdnegaaDoor
open Go.RowKit
theorem s_idx1 {P : Program} {t : TypeId} (ht : P.underlying t = some (.string)) (b : UInt8) (w : World) : (Instr.index t (.string ⟨#[b]⟩) (.int .i64 0)).run P w = .ok (.int .u8 b.toNat) w := by
  rw [run_index_string w t ⟨#[b]⟩ .i64 0 ht, dif_pos ⟨Int.le_refl _, (show (0 : Int) < 1 by decide)⟩]
  rfl
theorem fin_bbF {a b c d : Bool} (h1 : a = c) (h2 : b = d) : Ending.returned (.tuple #[.bool a, .bool b]) = .returned (.tuple #[.bool c, .bool d]) := by rw [h1, h2]
theorem ca_no {l : List UInt8} {x : Int} {s : ByteArray} (h : caK l x s = false) : caV l x s = false := by unfold caV; rw [h]; rfl
set_option maxHeartbeats 4000000 in
set_option maxRecDepth 100000 in
theorem iCanAdd (s : ByteArray) (x : Int) (t : ByteArray) (w : World) (hm : ML w) (hs : s.size ≤ 1048576) : Calls Tryd.prog 36 #[.string s, .int .i64 x, .string t] w (Ret (.tuple #[.bool (caV s.data.toList x t), .bool (caK s.data.toList x t)]) w) := by
  have gg := Gr.refl w
  have HR := hidI (fun w => readForm_any s w)
  have HZ := hidI (fun (h : caK s.data.toList x t = false) => show Ending.returned (.tuple #[.bool false, .bool false]) = Ending.returned (.tuple #[.bool (caV s.data.toList x t), .bool (caK s.data.toList x t)]) from by rw [ca_no h, h])
  rcases fm_cases s.data.toList with ⟨hf, hfg⟩ | ⟨g, hp, hg, hk, hf, hfg, F⟩
  · have HN := hidI (show caK s.data.toList x t = false from by unfold caK; rw [hf]; rfl)
    rw [hf, hfg] at HR
    clear hf hfg
    go_enter Tryd.func36, Tryd.ntmps36
    go_wp2_with (first | (go_at_call 64; refine (HR.out _ (gg.ml hm) hs).mono ?_; rintro e w2 ⟨rfl, g2⟩; rw [gvG]; have z2 := g2.size; have gg := gg.trans g2) | (refine r_alloc 62 _ Tryd.gzero rfl ?_; intro w4 B4 N4; have g4 := N4.gr; have b4 : Blk w4 B4 (gv 0 0 []) 62 := N4.blk; have l4 := N4.lo; have t4 := N4.hi; have z4 := g4.size; have gg := gg.trans g4; clear N4; obtain ⟨b4_0, b4_1, b4_2⟩ := gcells b4) | (refine r_store_row 62 62 _ _ _ rfl (gv _ _ _) _ rfl b4 (Tryd.gsize' _ _ _) (by simp only [gv_size]) (gv_one _ _ _) rfl ?_; intro w3 u3 b4'; have z3 := u3.size; have gg := u3.gr gg (by omega); clear b4; have b4 := b4'; clear b4'; obtain ⟨b4_0, b4_1, b4_2⟩ := gcells b4))
    go_ret2
    exact ⟨HZ.out HN.out, gg⟩
  · rw [hf, hfg] at HR
    have hw1 := F.t.w1
    have hw7 := F.t.w7
    have hh7 := F.t.h7
    have n36 := F.t.n36
    have HFW := hidI (show caK s.data.toList x t = (inB x (nn g.w g.h) && dirOk t) from by unfold caK; rw [hf, hg]; rfl)
    have HHN := hidI (fun w => hasNumber_any g.w g.h g.c x w hw7 hh7)
    have HID := hidI (fun w => isDirection_any t w)
    cases hin : inB x (nn g.w g.h) with
    | false =>
      rw [hin] at HFW HHN
      clear hin hp hg hk hf hfg F
      go_enter Tryd.func36, Tryd.ntmps36
      go_wp2_with (first | (go_at_call 64; refine (HR.out _ (gg.ml hm) hs).mono ?_; rintro e w2 ⟨rfl, g2⟩; rw [gvG]; have z2 := g2.size; have gg := gg.trans g2) | (refine r_alloc 62 _ Tryd.gzero rfl ?_; intro w4 B4 N4; have g4 := N4.gr; have b4 : Blk w4 B4 (gv 0 0 []) 62 := N4.blk; have l4 := N4.lo; have t4 := N4.hi; have z4 := g4.size; have gg := gg.trans g4; clear N4; obtain ⟨b4_0, b4_1, b4_2⟩ := gcells b4) | (refine r_store_row 62 62 _ _ _ rfl (gv g.w g.h g.c) _ rfl b4 (Tryd.gsize' _ _ _) (by simp only [gv_size]) (gv_one _ _ _) rfl ?_; intro w3 u3 b4'; have z3 := u3.size; have gg := u3.gr gg (by omega); clear b4; have b4 := b4'; clear b4'; obtain ⟨b4_0, b4_1, b4_2⟩ := gcells b4) | (refine r_load_row 62 _ _ rfl _ _ _ b4 Tryd.underlying62 rfl (Tryd.ginfo' _ _ _) rfl ?_) | (go_at_call 52; refine (HHN.out _).mono ?_; rintro e w6 ⟨rfl, g6⟩; have z6 := g6.size; have b4 := g6.blk b4; obtain ⟨b4_0, b4_1, b4_2⟩ := gcells b4; have gg := gg.trans g6))
      go_ret2
      exact ⟨HZ.out HFW.out, gg⟩
    | true =>
      obtain ⟨hx0, hxN⟩ := inB_true.1 hin
      obtain ⟨i, rfl⟩ : ∃ i : Nat, x = i := ⟨x.toNat, by omega⟩
      have hiN : i < nn g.w g.h := by omega
      rw [hin] at HFW HHN
      cases hd : dirOk t with
      | false =>
        rw [hd] at HFW HID
        clear hin hp hg hk hf hfg F hd hx0 hxN
        go_enter Tryd.func36, Tryd.ntmps36
        go_wp2_with (first | (go_at_call 64; refine (HR.out _ (gg.ml hm) hs).mono ?_; rintro e w2 ⟨rfl, g2⟩; rw [gvG]; have z2 := g2.size; have gg := gg.trans g2) | (refine r_alloc 62 _ Tryd.gzero rfl ?_; intro w4 B4 N4; have g4 := N4.gr; have b4 : Blk w4 B4 (gv 0 0 []) 62 := N4.blk; have l4 := N4.lo; have t4 := N4.hi; have z4 := g4.size; have gg := gg.trans g4; clear N4; obtain ⟨b4_0, b4_1, b4_2⟩ := gcells b4) | (refine r_store_row 62 62 _ _ _ rfl (gv g.w g.h g.c) _ rfl b4 (Tryd.gsize' _ _ _) (by simp only [gv_size]) (gv_one _ _ _) rfl ?_; intro w3 u3 b4'; have z3 := u3.size; have gg := u3.gr gg (by omega); clear b4; have b4 := b4'; clear b4'; obtain ⟨b4_0, b4_1, b4_2⟩ := gcells b4) | (refine r_load_row 62 _ _ rfl _ _ _ b4 Tryd.underlying62 rfl (Tryd.ginfo' _ _ _) rfl ?_) | (go_at_call 52; refine (HHN.out _).mono ?_; rintro e w6 ⟨rfl, g6⟩; have z6 := g6.size; have b4 := g6.blk b4; obtain ⟨b4_0, b4_1, b4_2⟩ := gcells b4; have gg := gg.trans g6) | (go_at_call 72; refine (HID.out _).mono ?_; rintro e wSame ⟨rfl, rfl⟩))
        go_ret2
        exact ⟨HZ.out HFW.out, gg⟩
      | true =>
        rw [hd] at HFW HID
        obtain ⟨d, hd4, rfl, hdS⟩ := dir_yes hd
        have HV := hidI (show caV s.data.toList i ⟨#[dB d]⟩ = (besB g.w g.h g.c i && frB g.w g.h g.c d i) from by
          unfold caV
          rw [HFW.out, hg, hdS, Int.toNat_natCast, Int.toNat_natCast]
          rfl)
        have HBS := hidI (fun w => isBeside_any g.w g.h i g.c w hw1 hw7 hh7 hiN n36 F.t.len F.cells)
        have HWI := hidI (fun w => wayIn_any g.w g.h d g.c w hd4 n36)
        have HWF := hidI (fun w Bf Bg (h : WayF g.w g.h g.c d Bf Bg w) => wayF_any g.w g.h d i Bf Bg g.c w hiN n36 h)
        obtain ⟨R, hR⟩ : ∃ R, R = frB g.w g.h g.c d i := ⟨_, rfl⟩
        rw [← hR] at HV HWF
        cases hb : besB g.w g.h g.c i with
        | false =>
          rw [hb] at HV HBS
          clear hin hp hg hk hf hfg F hd hx0 hxN hR hb hdS
          go_enter Tryd.func36, Tryd.ntmps36
          go_wp2_with (first | (go_at_call 64; refine (HR.out _ (gg.ml hm) hs).mono ?_; rintro e w2 ⟨rfl, g2⟩; rw [gvG]; have z2 := g2.size; have gg := gg.trans g2) | (refine r_alloc 62 _ Tryd.gzero rfl ?_; intro w4 B4 N4; have g4 := N4.gr; have b4 : Blk w4 B4 (gv 0 0 []) 62 := N4.blk; have l4 := N4.lo; have t4 := N4.hi; have z4 := g4.size; have gg := gg.trans g4; clear N4; obtain ⟨b4_0, b4_1, b4_2⟩ := gcells b4) | (refine r_store_row 62 62 _ _ _ rfl (gv g.w g.h g.c) _ rfl b4 (Tryd.gsize' _ _ _) (by simp only [gv_size]) (gv_one _ _ _) rfl ?_; intro w3 u3 b4'; have z3 := u3.size; have gg := u3.gr gg (by omega); clear b4; have b4 := b4'; clear b4'; obtain ⟨b4_0, b4_1, b4_2⟩ := gcells b4) | (refine r_load_row 62 _ _ rfl _ _ _ b4 Tryd.underlying62 rfl (Tryd.ginfo' _ _ _) rfl ?_) | (go_at_call 52; refine (HHN.out _).mono ?_; rintro e w6 ⟨rfl, g6⟩; have z6 := g6.size; have b4 := g6.blk b4; obtain ⟨b4_0, b4_1, b4_2⟩ := gcells b4; have gg := gg.trans g6) | (go_at_call 72; refine (HID.out _).mono ?_; rintro e wSame ⟨rfl, rfl⟩))
          have gd := (Gr.refl w6).drew
          have b4 := gd.blk b4
          have gg := gg.trans gd
          refine K_begin (fun w => Blk w B4 (gv g.w g.h g.c) 62) 13 13 #[false, false, false, false, false, false, false, false, false, false, false, false, false] rfl (by kernel_rfl) (by kernel_rfl) ?_
          generalize w6.drew = wd at *
          refine K_take 0 #[true, false, false, false, false, false, false, false, false, false, false, false, false] rfl (by kernel_rfl) (fun _ _ _ h => h) rfl (fun w hF => e_load_row 62 (.tmp 8) B4 _ _ _ rfl hF Tryd.underlying62 rfl (Tryd.ginfo' _ _ _)) (b4) ?_; simp only [Act.put, List.setIfInBounds_toArray, List.set_cons_succ, List.set_cons_zero]
          refine K_take (v := .int .i64 i) 1 #[true, true, false, false, false, false, false, false, false, false, false, false, false] rfl (by kernel_rfl) (fun _ _ _ h => h) rfl (fun _ _ => rfl) (b4) ?_; simp only [Act.put, List.setIfInBounds_toArray, List.set_cons_succ, List.set_cons_zero]
          refine K_one 2 #[true, true, true, false, false, false, false, false, false, false, false, false, false] rfl (by kernel_rfl) ?_
          refine r_call 73 [.tmp 28, .tmp 29] _ [.agg (gv g.w g.h g.c), .int .i64 i] (.bool false) (fun w' => Gr wd w') Tryd.call73 rfl rfl (HBS.out wd) ?_
          intro w7 g7
          have b4 := g7.blk b4
          have gg := gg.trans g7
          simp only [Act.put, List.setIfInBounds_toArray, List.set_cons_succ, List.set_cons_zero]
          refine ⟨fun _ => b4, ?_⟩
          refine K_one 3 #[true, true, true, true, false, false, false, false, false, false, false, false, false] rfl (by kernel_rfl) ?_
          refine r_val (.bool false) rfl rfl ?_
          simp only [Act.put, List.setIfInBounds_toArray, List.set_cons_succ, List.set_cons_zero]
          refine ⟨fun _ => b4, ?_⟩
          refine K_skip 4 #[true, true, true, true, true, false, false, false, false, false, false, false, false] rfl (by kernel_rfl) (fun _ _ _ h => h) rfl (b4) ?_; simp only [Act.put, List.setIfInBounds_toArray, List.set_cons_succ, List.set_cons_zero]
          refine K_skip 5 #[true, true, true, true, true, true, false, false, false, false, false, false, false] rfl (by kernel_rfl) (fun _ _ _ h => h) rfl (b4) ?_; simp only [Act.put, List.setIfInBounds_toArray, List.set_cons_succ, List.set_cons_zero]
          refine K_skip 6 #[true, true, true, true, true, true, true, false, false, false, false, false, false] rfl (by kernel_rfl) (fun _ _ _ h => h) rfl (b4) ?_; simp only [Act.put, List.setIfInBounds_toArray, List.set_cons_succ, List.set_cons_zero]
          refine K_skip 7 #[true, true, true, true, true, true, true, true, false, false, false, false, false] rfl (by kernel_rfl) (fun _ _ _ h => h) rfl (b4) ?_; simp only [Act.put, List.setIfInBounds_toArray, List.set_cons_succ, List.set_cons_zero]
          refine K_skip 8 #[true, true, true, true, true, true, true, true, true, false, false, false, false] rfl (by kernel_rfl) (fun _ _ _ h => h) rfl (b4) ?_; simp only [Act.put, List.setIfInBounds_toArray, List.set_cons_succ, List.set_cons_zero]
          refine K_skip 9 #[true, true, true, true, true, true, true, true, true, true, false, false, false] rfl (by kernel_rfl) (fun _ _ _ h => h) rfl (b4) ?_; simp only [Act.put, List.setIfInBounds_toArray, List.set_cons_succ, List.set_cons_zero]
          refine K_one 10 #[true, true, true, true, true, true, true, true, true, true, true, false, false] rfl (by kernel_rfl) ?_
          refine r_val (.bool false) (by first | rfl | (unfold execOp; simp [go_sem, Act.eval])) rfl ?_
          simp only [Act.put, List.setIfInBounds_toArray, List.set_cons_succ, List.set_cons_zero]
          refine ⟨fun _ => b4, ?_⟩
          refine K_one 11 #[true, true, true, true, true, true, true, true, true, true, true, true, false] rfl (by kernel_rfl) ?_
          refine r_val (.bool false) rfl rfl ?_
          simp only [Act.put, List.setIfInBounds_toArray, List.set_cons_succ, List.set_cons_zero]
          refine ⟨fun _ => b4, ?_⟩
          refine K_one 12 #[true, true, true, true, true, true, true, true, true, true, true, true, true] rfl (by kernel_rfl) ?_
          refine r_val (.bool true) rfl rfl ?_
          simp only [Act.put, List.setIfInBounds_toArray, List.set_cons_succ, List.set_cons_zero]
          refine ⟨fun _ => b4, ?_⟩
          refine K_done' (by kernel_rfl) ?_
          go_wp2
          go_ret2
          exact ⟨fin_bbF HV.out.symm HFW.out.symm, gg⟩
        | true =>
          rw [hb] at HV HBS
          clear hin hp hg hk hf hfg F hd hx0 hxN hR hb hdS
          go_enter Tryd.func36, Tryd.ntmps36
          go_wp2_with (first | (go_at_call 64; refine (HR.out _ (gg.ml hm) hs).mono ?_; rintro e w2 ⟨rfl, g2⟩; rw [gvG]; have z2 := g2.size; have gg := gg.trans g2) | (refine r_alloc 62 _ Tryd.gzero rfl ?_; intro w4 B4 N4; have g4 := N4.gr; have b4 : Blk w4 B4 (gv 0 0 []) 62 := N4.blk; have l4 := N4.lo; have t4 := N4.hi; have z4 := g4.size; have gg := gg.trans g4; clear N4; obtain ⟨b4_0, b4_1, b4_2⟩ := gcells b4) | (refine r_store_row 62 62 _ _ _ rfl (gv g.w g.h g.c) _ rfl b4 (Tryd.gsize' _ _ _) (by simp only [gv_size]) (gv_one _ _ _) rfl ?_; intro w3 u3 b4'; have z3 := u3.size; have gg := u3.gr gg (by omega); clear b4; have b4 := b4'; clear b4'; obtain ⟨b4_0, b4_1, b4_2⟩ := gcells b4) | (refine r_load_row 62 _ _ rfl _ _ _ b4 Tryd.underlying62 rfl (Tryd.ginfo' _ _ _) rfl ?_) | (go_at_call 52; refine (HHN.out _).mono ?_; rintro e w6 ⟨rfl, g6⟩; have z6 := g6.size; have b4 := g6.blk b4; obtain ⟨b4_0, b4_1, b4_2⟩ := gcells b4; have gg := gg.trans g6) | (go_at_call 72; refine (HID.out _).mono ?_; rintro e wSame ⟨rfl, rfl⟩))
          have gd := (Gr.refl w6).drew
          have b4 := gd.blk b4
          have gg := gg.trans gd
          refine K_begin (fun w => Blk w B4 (gv g.w g.h g.c) 62) 13 13 #[false, false, false, false, false, false, false, false, false, false, false, false, false] rfl (by kernel_rfl) (by kernel_rfl) ?_
          generalize w6.drew = wd at *
          refine K_take 0 #[true, false, false, false, false, false, false, false, false, false, false, false, false] rfl (by kernel_rfl) (fun _ _ _ h => h) rfl (fun w hF => e_load_row 62 (.tmp 8) B4 _ _ _ rfl hF Tryd.underlying62 rfl (Tryd.ginfo' _ _ _)) (b4) ?_; simp only [Act.put, List.setIfInBounds_toArray, List.set_cons_succ, List.set_cons_zero]
          refine K_take (v := .int .i64 i) 1 #[true, true, false, false, false, false, false, false, false, false, false, false, false] rfl (by kernel_rfl) (fun _ _ _ h => h) rfl (fun _ _ => rfl) (b4) ?_; simp only [Act.put, List.setIfInBounds_toArray, List.set_cons_succ, List.set_cons_zero]
          refine K_one 2 #[true, true, true, false, false, false, false, false, false, false, false, false, false] rfl (by kernel_rfl) ?_
          refine r_call 73 [.tmp 28, .tmp 29] _ [.agg (gv g.w g.h g.c), .int .i64 i] (.bool true) (fun w' => Gr wd w') Tryd.call73 rfl rfl (HBS.out wd) ?_
          intro w7 g7
          have b4 := g7.blk b4
          have gg := gg.trans g7
          simp only [Act.put, List.setIfInBounds_toArray, List.set_cons_succ, List.set_cons_zero]
          refine ⟨fun _ => b4, ?_⟩
          refine K_one 3 #[true, true, true, true, false, false, false, false, false, false, false, false, false] rfl (by kernel_rfl) ?_
          refine r_val (.bool true) rfl rfl ?_
          simp only [Act.put, List.setIfInBounds_toArray, List.set_cons_succ, List.set_cons_zero]
          refine ⟨fun _ => b4, ?_⟩
          refine K_take 4 #[true, true, true, true, true, false, false, false, false, false, false, false, false] rfl (by kernel_rfl) (fun _ _ _ h => h) rfl (fun w hF => e_load_row 62 (.tmp 8) B4 _ _ _ rfl hF Tryd.underlying62 rfl (Tryd.ginfo' _ _ _)) (b4) ?_; simp only [Act.put, List.setIfInBounds_toArray, List.set_cons_succ, List.set_cons_zero]
          refine K_take (v := .string ⟨#[dB d]⟩) 5 #[true, true, true, true, true, true, false, false, false, false, false, false, false] rfl (by kernel_rfl) (fun _ _ _ h => h) rfl (fun _ _ => rfl) (b4) ?_; simp only [Act.put, List.setIfInBounds_toArray, List.set_cons_succ, List.set_cons_zero]
          refine K_take 6 #[true, true, true, true, true, true, true, false, false, false, false, false, false] rfl (by kernel_rfl) (fun _ _ _ h => h) rfl (fun w hF => e_val _ _ (s_idx1 Tryd.underlying9 (dB d) _)) (b4) ?_; simp only [Act.put, List.setIfInBounds_toArray, List.set_cons_succ, List.set_cons_zero]
          refine K_take (v := .int .i64 i) 8 #[true, true, true, true, true, true, true, false, true, false, false, false, false] rfl (by kernel_rfl) (fun _ _ _ h => h) rfl (fun _ _ => rfl) (b4) ?_; simp only [Act.put, List.setIfInBounds_toArray, List.set_cons_succ, List.set_cons_zero]
          refine K_one 7 #[true, true, true, true, true, true, true, true, true, false, false, false, false] rfl (by kernel_rfl) ?_
          refine r_callx 74 [.tmp 32, .tmp 34] _ [.agg (gv g.w g.h g.c), .int .u8 (dB d).toNat] (fun v w' => Gr w7 w' ∧ ∃ Bf Bg, v = .func (.func 122) #[] #[.pointer (some ⟨Bf, 0, none⟩), .pointer (some ⟨Bg, 0, none⟩)] ∧ WayF g.w g.h g.c d Bf Bg w') Tryd.call74 rfl rfl (HWI.out w7) ?_
          rintro _ w8 ⟨g8, Bf, Bg, rfl, WF⟩
          have b4 := g8.blk b4
          have gg := gg.trans g8
          simp only [Act.put, List.setIfInBounds_toArray, List.set_cons_succ, List.set_cons_zero]
          refine ⟨fun _ => b4, ?_⟩
          refine K_one 9 #[true, true, true, true, true, true, true, true, true, true, false, false, false] rfl (by kernel_rfl) ?_
          refine r_callc 122 (.tmp 35) [.tmp 36] _ [.int .i64 i] [.pointer (some ⟨Bf, 0, none⟩), .pointer (some ⟨Bg, 0, none⟩)] (.bool R) (fun w' => Gr w8 w') Tryd.call122 rfl rfl rfl (HWF.out w8 Bf Bg WF) ?_
          intro w9 g9
          have b4 := g9.blk b4
          have gg := gg.trans g9
          simp only [Act.put, List.setIfInBounds_toArray, List.set_cons_succ, List.set_cons_zero]
          refine ⟨fun _ => b4, ?_⟩
          refine K_one 10 #[true, true, true, true, true, true, true, true, true, true, true, false, false] rfl (by kernel_rfl) ?_
          refine r_val (.bool R) (by first | rfl | (unfold execOp; simp [go_sem, Act.eval])) rfl ?_
          simp only [Act.put, List.setIfInBounds_toArray, List.set_cons_succ, List.set_cons_zero]
          refine ⟨fun _ => b4, ?_⟩
          refine K_one 11 #[true, true, true, true, true, true, true, true, true, true, true, true, false] rfl (by kernel_rfl) ?_
          refine r_val (.bool R) rfl rfl ?_
          simp only [Act.put, List.setIfInBounds_toArray, List.set_cons_succ, List.set_cons_zero]
          refine ⟨fun _ => b4, ?_⟩
          refine K_one 12 #[true, true, true, true, true, true, true, true, true, true, true, true, true] rfl (by kernel_rfl) ?_
          refine r_val (.bool true) rfl rfl ?_
          simp only [Act.put, List.setIfInBounds_toArray, List.set_cons_succ, List.set_cons_zero]
          refine ⟨fun _ => b4, ?_⟩
          refine K_done' (by kernel_rfl) ?_
          go_wp2
          go_ret2
          exact ⟨fin_bbF HV.out.symm HFW.out.symm, gg⟩
theorem la_filter (W H : Nat) (c : List UInt8) (n : Nat) : laTo W H c n = (ballsTo ballB c n).filter fun x => tkC W H c x.toNat := by
  induction n with
  | zero => rfl
  | succ n ih =>
    unfold laTo ballsTo
    by_cases h : tkC W H c n = true
    · have hb : ballB (at0 c n) = true := by
        unfold tkC at h
        rw [Bool.and_eq_true, decide_eq_true_eq] at h
        rw [h.1]; rfl
      rw [if_pos h, if_pos hb, List.filter_append, ih, List.filter_cons_of_pos (by simpa using h)]
      rfl
    · rw [if_neg h]
      split
      · rw [List.filter_append, ih, List.filter_cons_of_neg (by simpa using h)]
        simp
      · exact ih
theorem lcL_eq (l : List UInt8) : lcL l = (ballsTo ballB (fmG l).c (nn (fmG l).w (fmG l).h)).filter fun x => tkC (fmG l).w (fmG l).h (fmG l).c x.toNat := la_filter _ _ _ _
theorem lcL_le (l : List UInt8) : (lcL l).length ≤ 36 := by
  have h := laTo_le (fmG l).w (fmG l).h (fmG l).c (nn (fmG l).w (fmG l).h)
  have := (fm_small l).n36
  unfold lcL; omega
theorem tk_ball (l : List UInt8) {j : Nat} (h : j < (ballsTo ballB (fmG l).c (nn (fmG l).w (fmG l).h)).length) : tkOk l (gi (ballsTo ballB (fmG l).c (nn (fmG l).w (fmG l).h)) j) = tkC (fmG l).w (fmG l).h (fmG l).c (gi (ballsTo ballB (fmG l).c (nn (fmG l).w (fmG l).h)) j).toNat := by
  obtain ⟨i, e, hi, -⟩ := ball_at h
  rw [e]
  rcases fm_cases l with ⟨hf, hfg⟩ | ⟨g, hp, hg, hk, hf, hfg, F⟩
  · rw [hfg] at hi
    exact absurd hi (Nat.not_lt_zero _)
  · rw [hfg] at hi ⊢
    unfold tkOk
    rw [hf, hg, inB_true.2 ⟨Int.natCast_nonneg _, Int.ofNat_lt.2 hi⟩]
    rfl
theorem take_gi {L : List Int} {j : Nat} (h : j < L.length) (p : Int → Bool) : (L.take (j + 1)).filter p = if p (gi L j) = true then (L.take j).filter p ++ [gi L j] else (L.take j).filter p := by
  have e : gi L j = L[j] := by unfold gi; simp [List.getD, h]
  rw [List.take_succ_eq_append_getElem h, List.filter_append, e]
  split
  · rename_i hp
    rw [List.filter_cons_of_pos hp]; rfl
  · rename_i hp
    rw [List.filter_cons_of_neg hp]; simp
set_option maxHeartbeats 4000000 in
set_option maxRecDepth 100000 in
theorem iLastCells (s : ByteArray) (w : World) (hm : ML w) (hs : s.size ≤ 1048576) : Calls Tryd.prog 42 #[.string s] w (RetInts 3 (lcL s.data.toList) (fmOk s.data.toList) w) := by
  have gg := Gr.refl w
  have ht := fm_small s.data.toList
  have HR := hidI (fun w => readForm_any s w)
  have HV := hidI (lcL_eq s.data.toList)
  have HTK := hidI (fun j h => tk_ball s.data.toList (j := j) h)
  obtain ⟨g, hg⟩ : ∃ g, fmG s.data.toList = g := ⟨_, rfl⟩
  rw [hg] at ht HV HR HTK
  have HBI := hidI (fun w => ballsIn_any g.w g.h g.c w ht.w7 ht.h7 ht.n36)
  have hL36 := ballsTo_le ballB g.c (nn g.w g.h)
  have n36 := ht.n36
  obtain ⟨L, hL⟩ : ∃ L, L = ballsTo ballB g.c (nn g.w g.h) := ⟨_, rfl⟩
  obtain ⟨p, hp⟩ : ∃ p : Int → Bool, p = fun x => tkC g.w g.h g.c x.toNat := ⟨_, rfl⟩
  rw [← hL] at HV HTK HBI hL36
  have HTP := hidI (fun j (h : j < L.length) => show tkOk s.data.toList (gi L j) = p (gi L j) from by rw [HTK.out j h, hp])
  have HVP := hidI (show lcL s.data.toList = L.filter p from by rw [HV.out, hp])
  have HTC := hidI (fun x w (hm : ML w) => iTakeCell s x w hm hs)
  clear hg ht hL hp HV HTK
  go_enter Tryd.func42, Tryd.ntmps42
  go_wp2_with (first | (go_at_call 64; refine (HR.out _ (gg.ml hm) hs).mono ?_; rintro e w1 ⟨rfl, g1⟩; rw [gvG]; have z1 := g1.size; have gg := gg.trans g1) | (refine r_alloc 62 _ Tryd.gzero rfl ?_; intro w2 B2 N2; have g2 := N2.gr; have b2 : Blk w2 B2 (gv 0 0 []) 62 := N2.blk; have l2 := N2.lo; have t2 := N2.hi; have z2 := g2.size; have gg := gg.trans g2; clear N2; obtain ⟨b2_0, b2_1, b2_2⟩ := gcells b2) | (refine r_store_row 62 62 _ _ _ rfl (gv g.w g.h g.c) _ rfl b2 (Tryd.gsize' _ _ _) (by simp only [gv_size]) (gv_one _ _ _) rfl ?_; intro w3 u3 b2'; have z3 := u3.size; have gg := u3.gr gg (by omega); clear b2; have b2 := b2'; clear b2'; obtain ⟨b2_0, b2_1, b2_2⟩ := gcells b2) | (refine r_load_row 62 _ _ rfl _ _ _ b2 Tryd.underlying62 rfl (Tryd.ginfo' _ _ _) rfl ?_) | (go_at_call 58; refine (HBI.out _).mono ?_; rintro e w4 ⟨g4, v4, rfl, own4⟩; obtain ⟨q4, n4, k4, rfl⟩ := own_slice own4; obtain rfl : n4 = L.length := own_len own4; have gg := gg.trans g4; have z4 := g4.size))
  have HO4 := hidI own4
  have own0 : w4.ownsRow w4.heap.size 3 1 (.slice none 0 0) ((L.take 0).filter p).length (intsV ((L.take 0).filter p)) := World.ownsRow_nil _ _ _ _
  go_loopw [6, 19] (fun lv iv wr => ∃ j : Nat, j ≤ L.length ∧ iv = .int .i64 j ∧ wr.ownsRow w4.heap.size 3 1 lv ((L.take j).filter p).length (intsV ((L.take j).filter p)) ∧ wr.ownsRow w3.heap.size 3 1 (.slice q4 L.length k4) L.length (intsV L) ∧ Gr w wr ∧ w4.heap.size ≤ wr.heap.size) (fun _ iv _ => L.length - (intOf iv).toNat)
  case atStart => exact ⟨0, Nat.zero_le _, rfl, own0, own4, gg, Nat.le_refl _⟩
  case round =>
    clear own0 own4 gg
    obtain ⟨j, hj, rfl, own, own2, gg, zr⟩ := hrel
    have hfl : ((L.take j).filter p).length ≤ 36 := by
      have h1 := List.length_filter_le p (L.take j)
      rw [List.length_take] at h1
      omega
    by_cases hlt : j < L.length
    · obtain ⟨G, cp, e, -, -⟩ := own_shape own2 (by omega)
      cases e
      have cx := own_int own2 j hlt rfl
      have hT := HTP.out j hlt
      have hS := take_gi hlt p
      obtain ⟨x, hx⟩ : ∃ x, x = gi L j := ⟨_, rfl⟩
      rw [← hx] at cx hT hS
      cases hb : p x with
      | true =>
        rw [hb] at hT
        rw [hb, if_pos rfl] at hS
        have HC := hidI (fun w (hm : ML w) => show Calls Tryd.prog 40 #[.string s, .int .i64 x] w (Ret (.tuple #[.string (tkB s.data.toList x), .bool true]) w) from hT ▸ HTC.out x w hm)
        have HS := hidI hS
        clear hx hb hT hS
        go_wp2_with (first | (refine r_idx 27 _ _ (.slice (some ⟨G, 0, none⟩) L.length k4) (.int .i64 j) _ rfl rfl (Tryd.wix0 G L.length k4 j hlt _) rfl ?_) | (refine r_ldc 3 _ ⟨G, j, none⟩ (.int .i64 x) rfl (Tryd.isAgg3 _) cx rfl ?_) | (go_at_call 40; refine (HC.out _ (gg.ml hm)).mono ?_; rintro e w5 ⟨rfl, g5⟩; have own := g5.row own; have own2 := g5.row own2; have gg := gg.trans g5; have z5 := g5.size) | (refine r_slice1 27 3 (.tmp 31) (.int .i64 x) rfl (Tryd.bsi1 _ _) rfl ?_; intro w6 B6 N6; have g6 := N6.gr; have own := g6.row own; have own2 := g6.row own2; have gg := gg.trans g6; have z6 := g6.size) | (refine r_append (.tmp 30) (.tmp 32) 27 3 _ 1 8 w4.heap.size Tryd.intsI _ _ _ rfl own ⟨B6, 0, none⟩ 1 1 [.int .i64 x] rfl rfl N6.cell1 (intsV_one [x]) (by omega) (by decide) (by omega) rfl ?_; intro v7 w7 own7 g7))
        have own2 := g7.row own2 (own_apart' HO4.out own (Nat.le_refl _))
        have gg := g7.gr gg (own_gr own (by omega))
        have z7 := g7.size
        go_roundw
        case rel => exact ⟨j + 1, by omega, by go_num, by rw [HS.out, ← intsV_append, List.length_append]; exact own7, own2, gg, by omega⟩
        case measure => simp [intOf]; omega
      | false =>
        rw [hb] at hT
        rw [hb, if_neg (by decide)] at hS
        have HC := hidI (fun w (hm : ML w) => show Calls Tryd.prog 40 #[.string s, .int .i64 x] w (Ret (.tuple #[.string (tkB s.data.toList x), .bool false]) w) from hT ▸ HTC.out x w hm)
        have HS := hidI hS
        clear hx hb hT hS
        go_wp2_with (first | (refine r_idx 27 _ _ (.slice (some ⟨G, 0, none⟩) L.length k4) (.int .i64 j) _ rfl rfl (Tryd.wix0 G L.length k4 j hlt _) rfl ?_) | (refine r_ldc 3 _ ⟨G, j, none⟩ (.int .i64 x) rfl (Tryd.isAgg3 _) cx rfl ?_) | (go_at_call 40; refine (HC.out _ (gg.ml hm)).mono ?_; rintro e w5 ⟨rfl, g5⟩; have own := g5.row own; have own2 := g5.row own2; have gg := gg.trans g5; have z5 := g5.size))
        go_roundw
        case rel => exact ⟨j + 1, by omega, by go_num, by rw [HS.out]; exact own, own2, gg, by omega⟩
        case measure => simp [intOf]; omega
    · obtain rfl : j = L.length := by omega
      rw [List.take_length, ← HVP.out] at own
      clear hlt hfl
      go_wp2
      go_ret2
      exact ⟨gg, _, rfl, own_up own (by omega)⟩
end Go.Proofs.YtagoipongdnegaaDoor
