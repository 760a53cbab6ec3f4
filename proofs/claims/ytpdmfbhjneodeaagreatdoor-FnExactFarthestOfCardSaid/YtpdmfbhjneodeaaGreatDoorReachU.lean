/-
  The model's search for all trays that are reached: the walk.
-/
import Derived.Test.YtpdmfbhjneodeaaGreatDoorReachT
namespace Go.Proofs.YtpdmfbhjneodeaaGreatDoor
open Go.RowKit
set_option maxHeartbeats 8000000 in
set_option maxRecDepth 100000 in
theorem reAll_any (s : ByteArray) (w : World) (hs : s.size ≤ 1048576) : Calls Tryz.prog 6 #[.string s] w (RetM (rcS s.data.toList) w) := by
  have gg := Gr.refl w
  go_enter Tryz.func6, Tryz.ntmps6
  go_wp2_with fail
  refine (tyRead_any s _ hs).mono ?_
  rintro e w1 ⟨g1, ⟨hp, rfl⟩ | ⟨g, slg, hp, rfl, hown⟩⟩
  · have HV := hidI (show rcS s.data.toList = none from by unfold rcS; rw [hp])
    have z1 := g1.size
    have gg := gg.trans g1
    clear hp
    go_wp2_with (first | (refine r_alloc 31 _ Tryz.tzero rfl ?_; intro w2 B2 N2; have g2 := N2.gr; have b2 : Blk w2 B2 (tg 0 0 (.slice none 0 0)) 31 := N2.blk; have l2 := N2.lo; have t2 := N2.hi; have z2 := g2.size; have gg := gg.trans g2; clear N2; obtain ⟨b2_0, b2_1, b2_2⟩ := tcells b2) | (refine r_store_row 31 31 _ _ _ rfl (tg _ _ _) _ rfl b2 Tryz.tsize rfl (tg_one rfl) rfl ?_; intro w3 u3 b2'; have z3 := u3.size; have gg := u3.gr gg (by omega); clear b2; have b2 := b2'; clear b2'; obtain ⟨b2_0, b2_1, b2_2⟩ := tcells b2))
    go_ret2
    exact ⟨gg, by rw [HV.out]; exact rfl⟩
  · obtain ⟨hc, hw1, hh1, hl⟩ := cel_of hp
    have hsz : Sized g.w g.h g := ⟨hc, rfl, rfl⟩
    have hcl := hidI (show g.c.length = nn g.w g.h from hc.len)
    have w7 := hc.w7
    have h7 := hc.h7
    have n36 := hc.n36
    obtain ⟨R, hR⟩ : ∃ R, R = reachS tiltG g := ⟨_, rfl⟩
    have HRC := hidI (show rcS s.data.toList = R from by unfold rcS; rw [hp, hR])
    have HR0 := hidI (show R = runS tiltG (301 - 0) 0 (startS g) from hR)
    have HTX := hidI (show s = txtG g from txt_of hp)
    have HI0 := hidI (InvS.start (nxt := tiltG) hsz)
    have HPOS := hidI hl
    have z1 := g1.size
    have gg := gg.trans g1
    have hone := own_one hown
    obtain ⟨pS, mS, cS, rfl⟩ := own_slice hown
    clear hsz hR hp hc hl
    go_wp2_with (first | (refine r_alloc 31 _ Tryz.tzero rfl ?_; intro w2 B2 N2; have g2 := N2.gr; have b2 : Blk w2 B2 (tg 0 0 (.slice none 0 0)) 31 := N2.blk; have l2 := N2.lo; have t2 := N2.hi; have z2 := g2.size; have gg := gg.trans g2; clear N2; obtain ⟨b2_0, b2_1, b2_2⟩ := tcells b2) | (refine r_store_row 31 31 _ _ _ rfl (tg _ _ _) _ rfl b2 Tryz.tsize rfl (tg_one hone) rfl ?_; intro w3 u3 b2'; have z3 := u3.size; have gg := u3.gr gg (by omega); clear b2; have b2 := b2'; clear b2'; obtain ⟨b2_0, b2_1, b2_2⟩ := tcells b2) | (refine r_load_row 31 _ _ rfl _ _ _ b2 Tryz.underlying31 rfl Tryz.tinfo rfl ?_) | (refine r_build 34 [(0, .tmp 20), (1, .tmp 21), (3, .const (.int .i64 1)), (4, .const (.int .i64 (-1)))] [(0, .agg (tg g.w g.h (.slice pS mS cS))), (1, .string s), (3, .int .i64 1), (4, .int .i64 (-1))] _ (Tryz.rb0 _ _ _ _ _ _ _) rfl rfl ?_) | (refine r_box 34 _ #[.int .i64 g.w, .int .i64 g.h, .slice pS mS cS, .string s, .int .i64 0, .int .i64 1, .int .i64 (-1), .int .i64 0, .slice none 0 0] rfl rfl ?_; intro w4 B4 N4; have g4 := N4.gr; have b4 := N4.blk; have l4 := N4.lo; have z4 := g4.size; have gg := gg.trans g4; clear N4) | (refine r_slice1 25 28 (.tmp 23) (.pointer (some ⟨B4, 0, none⟩)) rfl (Tryz.bp1 _ _) rfl ?_; intro w5 B5 N5; have g5 := N5.gr; have z5 := g5.size; have gg := gg.trans g5))
    have own5 := g5.row (g4.row (u3.row (g2.row hown) (own_new hown l2)))
    have row5 := own_made (m := 1) (base := w.heap.size) (l := [ptrV B4]) N5 (by omega) rfl
    have st0 : SSt w.heap.size w5 (.slice (some ⟨B5, 0, none⟩) 1 1) (startS g) (fun _ => B4) (fun _ => .slice pS mS cS) (fun _ => nilV) := by
      have cas : ∀ j, j < (startS g).length → j = 0 := fun j hj => by simp [startS] at hj; exact hj
      refine ⟨row5, fun j hj => ?_, fun j _ => by omega, fun i j hi hj _ => by rw [cas i hi, cas j hj], fun j hj => ?_⟩
      · obtain rfl := cas j hj
        have h := g5.blk b4
        rw [HTX.out] at h
        exact h
      · obtain rfl := cas j hj
        exact own_up own5 (by omega)
    have MO0 : MO w.heap.size w5 (.slice (some ⟨B5, 0, none⟩) 1 1) (startS g) (fun _ => B4) (fun _ => .slice pS mS cS) (fun _ => nilV) 0 :=
      ⟨st0, ⟨fun j hj => by
        have : j = 0 := by simp [startS] at hj; exact hj
        subst this
        exact World.ownsRow_nil _ _ _ _⟩, fun _ _ => rfl⟩
    clear st0 row5 own5 N5
    go_loopw [6, 7] (fun v iv wr => ∃ (n : Nat) (S : List (Sta Grid)) (bk : Nat → Nat) (sl nx : Nat → Value), iv = .int .i64 n ∧ n ≤ S.length ∧ MO w.heap.size wr v S bk sl nx n ∧ Gr w wr ∧ Hid (InvS (Sized g.w g.h) tiltG g n 0 S) ∧ Hid (R = runS tiltG (301 - n) n S)) (fun _ iv _ => 301 - (intOf iv).toNat)
    case atStart => exact ⟨0, startS g, _, _, _, rfl, Nat.zero_le _, MO0, gg, HI0, HR0⟩
    case round =>
      obtain ⟨n, S, bk, sl, nx, rfl, hn, M, gg, HI, HR⟩ := hrel
      have h300 := HI.out.le
      have hpos := HI.out.pos
      obtain ⟨gB, cap, rfl, -, -⟩ := own_shape M.st.row hpos
      by_cases hlt : n < S.length
      · have hf := HI.out.far_le n hlt
        have cp := M.st.ptr hlt
        have hnl := HI.out.nl n hlt
        rw [if_neg (Nat.lt_irrefl _), if_pos rfl] at hnl
        obtain ⟨H0, hH0⟩ : ∃ H0, H0 = wr.heap.size := ⟨_, rfl⟩
        have M := M.begin hnl
        rw [← hH0] at M
        have HR1 := hidI (show R = restS tiltG (300 - n) n 0 S from by rw [HR.out, show 301 - n = 300 - n + 1 by omega, runS_start _ _ _ _ hlt])
        obtain ⟨F, hF⟩ : ∃ F, F = (sta S n).far := ⟨_, rfl⟩
        rw [← hF] at hf
        have HF := hidI hF.symm
        obtain ⟨bn, hbn⟩ : ∃ bn, bn = bk n := ⟨_, rfl⟩
        rw [← hbn] at cp
        have HBN := hidI hbn.symm
        have hbase : w.heap.size ≤ H0 := by have := gg.size; omega
        have hz0 : H0 ≤ wr.heap.size := by omega
        clear hF HR hnl hbn hH0
        go_wp2_with (first | (refine r_idx 25 _ _ (.slice (some ⟨gB, 0, none⟩) S.length cap) (.int .i64 n) _ rfl rfl (Tryz.psix gB S.length cap n hlt _) rfl ?_) | (refine r_ldc 28 _ ⟨gB, n, none⟩ (ptrV bn) rfl (Tryz.isAgg28 _) cp rfl ?_))
        go_loopw [6, 9] (fun v iv wr => ∃ (d : Nat) (S : List (Sta Grid)) (bk : Nat → Nat) (sl nx : Nat → Value), iv = .int .i64 d ∧ d ≤ 4 ∧ n < S.length ∧ Hid (bk n = bn) ∧ MR w.heap.size H0 wr v S bk sl nx n ∧ Gr w wr ∧ H0 ≤ wr.heap.size ∧ Hid ((sta S n).far = F) ∧ Hid (InvS (Sized g.w g.h) tiltG g n d S) ∧ Hid (R = restS tiltG (300 - n) n d S)) (fun _ iv _ => 4 - (intOf iv).toNat)
        case atStart => exact ⟨0, S, bk, sl, nx, rfl, by omega, hlt, HBN, M, gg, hz0, HF, HI, HR1⟩
        case round =>
          clear M gg HF HI HR1 hz0 hlt hn h300 hpos HBN cp
          obtain ⟨d, S, bk, sl, nx, rfl, hd, hn, HBN, M, gg, hz, HF, HI, HR⟩ := hrel
          have h300 := HI.out.le
          obtain ⟨gB, cap, rfl, -, -⟩ := own_shape M.st.row (by omega)
          by_cases hlt : d < 4
          · have zr := gg.size
            have HT := HI.out.good n hn
            have cr : wr.rangeAt bn 0 (tg g.w g.h (sl n)).toList := by
              intro j u hj
              have hb := M.st.blk n hn
              rw [HBN.out] at hb
              have h3 : j < 3 := by
                rcases Nat.lt_or_ge j 3 with h | h
                · exact h
                · rw [List.getElem?_eq_none (by show 3 ≤ j; exact h)] at hj; cases hj
              rw [Nat.zero_add, hb.cell j]
              have : j = 0 ∨ j = 1 ∨ j = 2 := by omega
              rcases this with rfl | rfl | rfl
              · rw [← hj]; show some (Value.int .i64 ((sta S n).t.w : Int)) = some (Value.int .i64 (g.w : Int)); rw [HT.w]
              · rw [← hj]; show some (Value.int .i64 ((sta S n).t.h : Int)) = some (Value.int .i64 (g.h : Int)); rw [HT.h]
              · rw [← hj]; rfl
            obtain ⟨x, hx⟩ : ∃ x, x = tiltG d (sta S n).t := ⟨_, rfl⟩
            have HX := hidI hx.symm
            have HSX := hidI (show Sized g.w g.h x from hx ▸ Sized.tilt d _ hlt HT)
            have HGD := hidI HI.out.good
            have HXL := hidI (show x.c.length = nn g.w g.h from by have := HSX.out.cel.len; rw [HSX.out.w, HSX.out.h] at this; exact this)
            have HXT := hidI (show txtB g.w g.h x.c = txtG x from by unfold txtG; rw [HSX.out.w, HSX.out.h])
            have htl : 0 < (sta S n).t.c.length := by rw [HT.cel.len, HT.w, HT.h, ← hcl.out]; exact HPOS.out
            have HTL := hidI (fun (w' : World) (v : Value) (m : SSt w.heap.size w' v S bk sl nx) => show Calls Tryz.prog 14 #[.agg (tg g.w g.h (sl n)), .int .i64 d] w' (RetG 5 g.w g.h x.c w') from by
              have := tiTilt_any (sta S n).t w.heap.size d (sl n) w' HT.cel hlt htl (m.grd n hn)
              rw [HT.w, HT.h, HX.out] at this
              exact this)
            have HR1 := hidI (show R = (moveS tiltG S n d).bind (restS tiltG (300 - n) n (d + 1)) from by rw [HR.out, restS_step _ _ _ _ _ hlt])
            have HNL := hidI (show (sta S n).next.length = d from by have := HI.out.nl n hn; rw [if_neg (Nat.lt_irrefl _), if_pos rfl] at this; exact this)
            have hf300 : F ≤ 300 := by have := HI.out.far_le n hn; rw [HF.out] at this; omega
            clear hx HT HR htl
            cases hf : findS S x with
            | some k =>
              have hk := (findS_some hf).1
              have HPL := hidI (show plV S x = (k : Int) from by unfold plV; rw [hf])
              have HRN := hidI (show R = restS tiltG (300 - n) n (d + 1) (linkS S n k) from by rw [HR1.out]; unfold moveS; rw [HX.out, hf]; rfl)
              have HIN := hidI (HI.out.found hn (by rw [HX.out]; exact hf))
              clear hf HR1 HI HX
              go_wp2_with (first | (refine r_nil _ ⟨bn, 0, none⟩ rfl rfl ?_) | (refine r_fld 34 _ 0 (.pointer (some ⟨bn, 0, none⟩)) (.pointer (some ⟨bn, 0, none⟩)) rfl (Tryz.rf0 _ _) rfl ?_) | (refine r_ldm 31 _ bn 0 (tg g.w g.h (sl n)) _ rfl cr Tryz.underlying31 rfl Tryz.tinfo rfl ?_) | (go_at_call 14; refine (HTL.out _ _ M.st).mono ?_; rintro e w6 ⟨g6, s6, rfl, own6⟩; obtain ⟨p6, m6, c6, rfl⟩ := own_slice own6; have own6 := own_up own6 zr; have M := M.gr g6; have gg := gg.trans g6; have z6 := g6.size) | (refine r_alloc 31 _ Tryz.tzero rfl ?_; intro w8 B8 N8; have g8 := N8.gr; have b8 : Blk w8 B8 (tg 0 0 (.slice none 0 0)) 31 := N8.blk; have l8 := N8.lo; have z8 := g8.size; have M := M.gr g8; have own6 := g8.row own6; have gg := gg.trans g8; clear N8) | (refine r_store_row 31 31 _ _ B8 rfl (tg g.w g.h (.slice p6 m6 c6)) _ rfl b8 Tryz.tsize rfl (tg_one rfl) rfl ?_; intro w9 u9 b9; have M := M.upd b8 (by decide) (by decide) (by decide) (by decide) u9; have own6 := u9.row own6 (own_ne own6 b8 (by decide)); have z9 := u9.size; have gg := u9.gr gg (by omega)) | (refine r_load_row 31 _ _ rfl _ _ _ b9 Tryz.underlying31 rfl Tryz.tinfo rfl ?_) | (go_at_call 15; refine (tyText_n g.w g.h _ _ x.c (.slice p6 m6 c6) _ hw1 hh1 w7 h7 n36 HXL.out rfl own6).mono ?_; rintro e w10 ⟨rfl, g10⟩; rw [HXT.out]; have M := M.gr g10; have own6 := g10.row own6; have b9 := g10.blk b9; have gg := gg.trans g10; have z10 := g10.size) | (go_at_call 16; refine (rePlace_any g.w g.h _ S _ bk sl nx x _ M.st hw1 hh1 HSX.out HGD.out h300).mono ?_; rintro e w11 ⟨rfl, g11⟩; rw [HPL.out]; have M := M.gr g11; have own6 := g11.row own6; have b9 := g11.blk b9; have gg := gg.trans g11; have z11 := g11.size))
              have c4 : w11.cell? ⟨bn, 4, none⟩ = some (.int .i64 F) := by
                have := M.st.cell hn 4
                rw [HBN.out] at this
                rw [this]
                show some (Value.int .i64 ((sta S n).far : Int)) = _
                rw [HF.out]
              by_cases hfar : (sta S k).far = (sta S n).far + 1
              · have HFR := hidI hfar
                have HD := hidI (show decide (((sta S k).far : Int) = (F : Int) + 1) = true from by rw [decide_eq_true_eq, hfar, HF.out]; rfl)
                clear hfar
                refine q_whole (by kernel_rfl) (by kernel_rfl) ?_
                refine q_move _ (.slice (some ⟨gB, 0, none⟩) S.length cap) rfl rfl ?_; simp only [Act.put, List.setIfInBounds_toArray, List.set_cons_succ, List.set_cons_zero]
                refine q_move _ (.int .i64 k) rfl rfl ?_; simp only [Act.put, List.setIfInBounds_toArray, List.set_cons_succ, List.set_cons_zero]
                refine q_take (.pointer (some ⟨gB, k, none⟩)) rfl (fun w' hw' => e_val _ _ (Tryz.psix gB S.length cap k hk _)) ?_; simp only [Act.put, List.setIfInBounds_toArray, List.set_cons_succ, List.set_cons_zero]
                refine q_take (ptrV (bk k)) rfl (fun w' hw' => e_load 28 (.tmp 73) ⟨gB, k, none⟩ _ rfl (Tryz.isAgg28 _) (hw'.cell (M.st.ptr hk))) ?_; simp only [Act.put, List.setIfInBounds_toArray, List.set_cons_succ, List.set_cons_zero]
                refine q_take (.pointer (some ⟨bk k, 0, none⟩)) rfl (fun w' hw' => rfl) ?_; simp only [Act.put, List.setIfInBounds_toArray, List.set_cons_succ, List.set_cons_zero]
                refine q_take (.pointer (some ⟨bk k, 4, none⟩)) rfl (fun w' hw' => e_val _ _ (Tryz.rf2 _ _)) ?_; simp only [Act.put, List.setIfInBounds_toArray, List.set_cons_succ, List.set_cons_zero]
                refine q_take (.int .i64 (sta S k).far) rfl (fun w' hw' => e_load 3 (.tmp 76) ⟨bk k, 4, none⟩ _ rfl (Tryz.isAgg3 _) (hw'.cell (M.st.cell hk 4))) ?_; simp only [Act.put, List.setIfInBounds_toArray, List.set_cons_succ, List.set_cons_zero]
                refine q_move _ (.pointer (some ⟨bn, 0, none⟩)) rfl rfl ?_; simp only [Act.put, List.setIfInBounds_toArray, List.set_cons_succ, List.set_cons_zero]
                refine q_take (.pointer (some ⟨bn, 0, none⟩)) rfl (fun w' hw' => rfl) ?_; simp only [Act.put, List.setIfInBounds_toArray, List.set_cons_succ, List.set_cons_zero]
                refine q_take (.pointer (some ⟨bn, 4, none⟩)) rfl (fun w' hw' => e_val _ _ (Tryz.rf2 _ _)) ?_; simp only [Act.put, List.setIfInBounds_toArray, List.set_cons_succ, List.set_cons_zero]
                refine q_take (.int .i64 F) rfl (fun w' hw' => e_load 3 (.tmp 80) ⟨bn, 4, none⟩ _ rfl (Tryz.isAgg3 _) (hw'.cell c4)) ?_; simp only [Act.put, List.setIfInBounds_toArray, List.set_cons_succ, List.set_cons_zero]
                refine q_take (.int .i64 ((F : Int) + 1)) rfl (fun w' hw' => e_add _ _ _ _ _ rfl rfl rfl (by omega)) ?_; simp only [Act.put, List.setIfInBounds_toArray, List.set_cons_succ, List.set_cons_zero]
                refine q_take (.bool true) rfl (fun w' hw' => e_eqI _ _ ((sta S k).far : Int) ((F : Int) + 1) true rfl rfl HD.out) ?_; simp only [Act.put, List.setIfInBounds_toArray, List.set_cons_succ, List.set_cons_zero]
                refine wpQuiet_nil ?_; intro w20 g20
                have M := M.gr g20
                have gg := gg.trans g20
                have z20 := g20.size
                go_wp2
                have c5 : w20.cell? ⟨bn, 5, none⟩ = some (.int .i64 (sta S n).words) := by
                  have := M.st.cell hn 5
                  rw [HBN.out] at this
                  exact this
                refine q_begin 14 (by kernel_rfl) (by kernel_rfl) ?_; simp only [List.take_succ_cons, List.take_zero, List.drop_succ_cons, List.drop_zero]
                refine q_move _ (.slice (some ⟨gB, 0, none⟩) S.length cap) rfl rfl ?_; simp only [Act.put, List.setIfInBounds_toArray, List.set_cons_succ, List.set_cons_zero]
                refine q_move _ (.int .i64 k) rfl rfl ?_; simp only [Act.put, List.setIfInBounds_toArray, List.set_cons_succ, List.set_cons_zero]
                refine q_take (.pointer (some ⟨gB, k, none⟩)) rfl (fun w' hw' => e_val _ _ (Tryz.psix gB S.length cap k hk _)) ?_; simp only [Act.put, List.setIfInBounds_toArray, List.set_cons_succ, List.set_cons_zero]
                refine q_take (ptrV (bk k)) rfl (fun w' hw' => e_load 28 (.tmp 86) ⟨gB, k, none⟩ _ rfl (Tryz.isAgg28 _) (hw'.cell (M.st.ptr hk))) ?_; simp only [Act.put, List.setIfInBounds_toArray, List.set_cons_succ, List.set_cons_zero]
                refine q_take (.pointer (some ⟨bk k, 0, none⟩)) rfl (fun w' hw' => rfl) ?_; simp only [Act.put, List.setIfInBounds_toArray, List.set_cons_succ, List.set_cons_zero]
                refine q_take (.pointer (some ⟨bk k, 5, none⟩)) rfl (fun w' hw' => e_val _ _ (Tryz.rf3 _ _)) ?_; simp only [Act.put, List.setIfInBounds_toArray, List.set_cons_succ, List.set_cons_zero]
                refine q_take (.int .i64 (sta S k).words) rfl (fun w' hw' => e_load 3 (.tmp 89) ⟨bk k, 5, none⟩ _ rfl (Tryz.isAgg3 _) (hw'.cell (M.st.cell hk 5))) ?_; simp only [Act.put, List.setIfInBounds_toArray, List.set_cons_succ, List.set_cons_zero]
                refine q_move _ (.pointer (some ⟨bn, 0, none⟩)) rfl rfl ?_; simp only [Act.put, List.setIfInBounds_toArray, List.set_cons_succ, List.set_cons_zero]
                refine q_take (.pointer (some ⟨bn, 0, none⟩)) rfl (fun w' hw' => rfl) ?_; simp only [Act.put, List.setIfInBounds_toArray, List.set_cons_succ, List.set_cons_zero]
                refine q_take (.pointer (some ⟨bn, 5, none⟩)) rfl (fun w' hw' => e_val _ _ (Tryz.rf3 _ _)) ?_; simp only [Act.put, List.setIfInBounds_toArray, List.set_cons_succ, List.set_cons_zero]
                refine q_take (.int .i64 (sta S n).words) rfl (fun w' hw' => e_load 3 (.tmp 93) ⟨bn, 5, none⟩ _ rfl (Tryz.isAgg3 _) (hw'.cell c5)) ?_; simp only [Act.put, List.setIfInBounds_toArray, List.set_cons_succ, List.set_cons_zero]
                refine q_take (.int .i64 (wrap64 ((sta S k).words + (sta S n).words))) rfl (fun w' hw' => e_addw _ _ _ _ rfl rfl) ?_; simp only [Act.put, List.setIfInBounds_toArray, List.set_cons_succ, List.set_cons_zero]
                refine q_take (.pointer (some ⟨bk k, 0, none⟩)) rfl (fun w' hw' => rfl) ?_; simp only [Act.put, List.setIfInBounds_toArray, List.set_cons_succ, List.set_cons_zero]
                refine q_take (.pointer (some ⟨bk k, 5, none⟩)) rfl (fun w' hw' => e_val _ _ (Tryz.rf3 _ _)) ?_; simp only [Act.put, List.setIfInBounds_toArray, List.set_cons_succ, List.set_cons_zero]
                refine wpQuiet_nil ?_; intro w21 g21
                have M := M.gr g21
                have gg := gg.trans g21
                have z21 := g21.size
                refine r_store_cell 3 34 (.tmp 97) (.tmp 95) (bk k) 5 rfl (.int .i64 (wrap64 ((sta S k).words + (sta S n).words))) rfl _ (M.st.blk k hk) (by show 5 < 9; decide) Tryz.sizeOf3 rfl rfl ?_
                intro w12 u12 b12
                have gg := u12.gr gg (M.st.lo k hk)
                have MA := M.add hk HFR.out u12 b12
                have z12 := u12.size
                obtain ⟨U, hU⟩ : ∃ U, U = addS S n k := ⟨_, rfl⟩
                rw [← hU] at MA
                have hUl : U.length = S.length := by rw [hU, addS_length]
                have HUU := hidI hU
                clear hU
                have hnU : n < U.length := by rw [hUl]; exact hn
                have hUn : (sta U n).next.length = d := by
                  exact ((congrArg (fun z => (sta z n).next) HUU.out).trans (sta_add S n k n hk).2).symm ▸ HNL.out
                have c8 : w12.cell? ⟨bn, 8, none⟩ = some (nx n) := by
                  have := MA.st.cell hnU 8
                  rw [HBN.out] at this
                  exact this
                have hz12 : H0 ≤ w12.heap.size := by omega
                go_wp2_with (first | (refine r_nil _ ⟨bn, 0, none⟩ rfl rfl ?_) | (refine r_fld 34 _ 6 (.pointer (some ⟨bn, 0, none⟩)) (.pointer (some ⟨bn, 8, none⟩)) rfl (Tryz.rf6 _ _) rfl ?_) | (refine r_ldc 32 _ ⟨bn, 8, none⟩ (nx n) rfl (Tryz.isAgg32 _) c8 rfl ?_) | (refine r_slice1 32 3 (.tmp 103) (.int .i64 k) rfl (Tryz.bsi1 _ _) rfl ?_; intro w13 B13 N13; have g13 := N13.gr; have MRB := MA.gr g13; have gg := gg.trans g13; have z13 := g13.size; have hz13 : H0 ≤ w13.heap.size := (by omega)) | (refine r_append (.tmp 102) (.tmp 104) 32 3 _ 1 8 H0 Tryz.intsI (nx n) (sta U n).next.length (natsV (sta U n).next) rfl MRB.own ⟨B13, 0, none⟩ 1 1 [.int .i64 k] rfl rfl N13.cell1 (by intro u hu; simp at hu; subst hu; rfl) (by omega) (by decide) hz13 rfl ?_; intro v14 w14 own14 g14; have st14 := (MRB.app g14).1; have bb14 := st14.blk n hnU; rw [HBN.out] at bb14) | (refine r_store_cell 32 34 (.tmp 107) (.tmp 105) bn 8 rfl v14 rfl _ bb14 (by show 8 < 9; decide) Tryz.sizeOf32 (own_one own14) rfl ?_; intro w15 u15 b15))
                rw [natsV_app] at own14
                have MRF := MRB.push (k := k) hnU g14 (HBN.out.symm ▸ u15) own14 (HBN.out.symm ▸ b15)
                have gg := u15.gr (g14.gr gg (own_gr MRB.own hbase)) (by rw [← HBN.out]; exact MRB.st.lo n hnU)
                have z15 := u15.size
                have z14 := g14.size
                have HFF := hidI (show (sta (linkS S n k) n).far = F from (sta_link S n k n hn hk).1.far.trans HF.out)
                have MRG : MR w.heap.size H0 w15 (.slice (some ⟨gB, 0, none⟩) S.length cap) (linkS S n k) bk sl (fun m => if m = n then v14 else nx m) n := by
                  rw [show linkS S n k = pushS U n k from (congrArg (fun z => pushS z n k) HUU.out).symm]
                  exact MRF
                go_wp2
                go_roundw
                case rel => exact ⟨d + 1, linkS S n k, bk, sl, fun m => if m = n then v14 else nx m, by go_num, by omega, by rw [linkS_length]; exact hn, HBN, MRG, gg, by omega, HFF, HIN, HRN⟩
                case measure => simp [intOf]; omega
              · have HD := hidI (show decide (((sta S k).far : Int) = (F : Int) + 1) = false from by rw [decide_eq_false_iff_not]; intro h; exact hfar (by rw [HF.out]; omega))
                have HU := hidI (show addS S n k = S from by unfold addS; rw [if_neg hfar])
                clear hfar
                refine q_whole (by kernel_rfl) (by kernel_rfl) ?_
                refine q_move _ (.slice (some ⟨gB, 0, none⟩) S.length cap) rfl rfl ?_; simp only [Act.put, List.setIfInBounds_toArray, List.set_cons_succ, List.set_cons_zero]
                refine q_move _ (.int .i64 k) rfl rfl ?_; simp only [Act.put, List.setIfInBounds_toArray, List.set_cons_succ, List.set_cons_zero]
                refine q_take (.pointer (some ⟨gB, k, none⟩)) rfl (fun w' hw' => e_val _ _ (Tryz.psix gB S.length cap k hk _)) ?_; simp only [Act.put, List.setIfInBounds_toArray, List.set_cons_succ, List.set_cons_zero]
                refine q_take (ptrV (bk k)) rfl (fun w' hw' => e_load 28 (.tmp 73) ⟨gB, k, none⟩ _ rfl (Tryz.isAgg28 _) (hw'.cell (M.st.ptr hk))) ?_; simp only [Act.put, List.setIfInBounds_toArray, List.set_cons_succ, List.set_cons_zero]
                refine q_take (.pointer (some ⟨bk k, 0, none⟩)) rfl (fun w' hw' => rfl) ?_; simp only [Act.put, List.setIfInBounds_toArray, List.set_cons_succ, List.set_cons_zero]
                refine q_take (.pointer (some ⟨bk k, 4, none⟩)) rfl (fun w' hw' => e_val _ _ (Tryz.rf2 _ _)) ?_; simp only [Act.put, List.setIfInBounds_toArray, List.set_cons_succ, List.set_cons_zero]
                refine q_take (.int .i64 (sta S k).far) rfl (fun w' hw' => e_load 3 (.tmp 76) ⟨bk k, 4, none⟩ _ rfl (Tryz.isAgg3 _) (hw'.cell (M.st.cell hk 4))) ?_; simp only [Act.put, List.setIfInBounds_toArray, List.set_cons_succ, List.set_cons_zero]
                refine q_move _ (.pointer (some ⟨bn, 0, none⟩)) rfl rfl ?_; simp only [Act.put, List.setIfInBounds_toArray, List.set_cons_succ, List.set_cons_zero]
                refine q_take (.pointer (some ⟨bn, 0, none⟩)) rfl (fun w' hw' => rfl) ?_; simp only [Act.put, List.setIfInBounds_toArray, List.set_cons_succ, List.set_cons_zero]
                refine q_take (.pointer (some ⟨bn, 4, none⟩)) rfl (fun w' hw' => e_val _ _ (Tryz.rf2 _ _)) ?_; simp only [Act.put, List.setIfInBounds_toArray, List.set_cons_succ, List.set_cons_zero]
                refine q_take (.int .i64 F) rfl (fun w' hw' => e_load 3 (.tmp 80) ⟨bn, 4, none⟩ _ rfl (Tryz.isAgg3 _) (hw'.cell c4)) ?_; simp only [Act.put, List.setIfInBounds_toArray, List.set_cons_succ, List.set_cons_zero]
                refine q_take (.int .i64 ((F : Int) + 1)) rfl (fun w' hw' => e_add _ _ _ _ _ rfl rfl rfl (by omega)) ?_; simp only [Act.put, List.setIfInBounds_toArray, List.set_cons_succ, List.set_cons_zero]
                refine q_take (.bool false) rfl (fun w' hw' => e_eqI _ _ ((sta S k).far : Int) ((F : Int) + 1) false rfl rfl HD.out) ?_; simp only [Act.put, List.setIfInBounds_toArray, List.set_cons_succ, List.set_cons_zero]
                refine wpQuiet_nil ?_; intro w20 g20
                have M := M.gr g20
                have gg := gg.trans g20
                have z20 := g20.size
                have MA := M
                have HUU := hidI (show S = addS S n k from HU.out.symm)
                have hUl : S.length = S.length := rfl
                have hnU : n < S.length := by rw [hUl]; exact hn
                have hUn : (sta S n).next.length = d := by
                  exact ((congrArg (fun z => (sta z n).next) HUU.out).trans (sta_add S n k n hk).2).symm ▸ HNL.out
                have c8 : w20.cell? ⟨bn, 8, none⟩ = some (nx n) := by
                  have := MA.st.cell hnU 8
                  rw [HBN.out] at this
                  exact this
                have hz12 : H0 ≤ w20.heap.size := by omega
                go_wp2_with (first | (refine r_nil _ ⟨bn, 0, none⟩ rfl rfl ?_) | (refine r_fld 34 _ 6 (.pointer (some ⟨bn, 0, none⟩)) (.pointer (some ⟨bn, 8, none⟩)) rfl (Tryz.rf6 _ _) rfl ?_) | (refine r_ldc 32 _ ⟨bn, 8, none⟩ (nx n) rfl (Tryz.isAgg32 _) c8 rfl ?_) | (refine r_slice1 32 3 (.tmp 103) (.int .i64 k) rfl (Tryz.bsi1 _ _) rfl ?_; intro w13 B13 N13; have g13 := N13.gr; have MRB := MA.gr g13; have gg := gg.trans g13; have z13 := g13.size; have hz13 : H0 ≤ w13.heap.size := (by omega)) | (refine r_append (.tmp 102) (.tmp 104) 32 3 _ 1 8 H0 Tryz.intsI (nx n) (sta S n).next.length (natsV (sta S n).next) rfl MRB.own ⟨B13, 0, none⟩ 1 1 [.int .i64 k] rfl rfl N13.cell1 (by intro u hu; simp at hu; subst hu; rfl) (by omega) (by decide) hz13 rfl ?_; intro v14 w14 own14 g14; have st14 := (MRB.app g14).1; have bb14 := st14.blk n hnU; rw [HBN.out] at bb14) | (refine r_store_cell 32 34 (.tmp 107) (.tmp 105) bn 8 rfl v14 rfl _ bb14 (by show 8 < 9; decide) Tryz.sizeOf32 (own_one own14) rfl ?_; intro w15 u15 b15))
                rw [natsV_app] at own14
                have MRF := MRB.push (k := k) hnU g14 (HBN.out.symm ▸ u15) own14 (HBN.out.symm ▸ b15)
                have gg := u15.gr (g14.gr gg (own_gr MRB.own hbase)) (by rw [← HBN.out]; exact MRB.st.lo n hnU)
                have z15 := u15.size
                have z14 := g14.size
                have HFF := hidI (show (sta (linkS S n k) n).far = F from (sta_link S n k n hn hk).1.far.trans HF.out)
                have MRG : MR w.heap.size H0 w15 (.slice (some ⟨gB, 0, none⟩) S.length cap) (linkS S n k) bk sl (fun m => if m = n then v14 else nx m) n := by
                  rw [show linkS S n k = pushS S n k from (congrArg (fun z => pushS z n k) HUU.out).symm]
                  exact MRF
                go_wp2
                go_roundw
                case rel => exact ⟨d + 1, linkS S n k, bk, sl, fun m => if m = n then v14 else nx m, by go_num, by omega, by rw [linkS_length]; exact hn, HBN, MRG, gg, by omega, HFF, HIN, HRN⟩
                case measure => simp [intOf]; omega
            | none =>
              have HPL := hidI (show plV S x = (-1 : Int) from by unfold plV; rw [hf])
              by_cases hl : S.length = 300
              · have HV := hidI (show R = none from by rw [HR1.out]; unfold moveS; rw [HX.out, hf]; show (if S.length = 300 then none else _).bind _ = none; rw [if_pos hl]; rfl)
                have HL := hidI (show decide ((S.length : Int) = 300) = true from by rw [decide_eq_true_eq, hl]; rfl)
                clear hf HR1 HI HX hl
                go_wp2_with (first | (refine r_nil _ ⟨bn, 0, none⟩ rfl rfl ?_) | (refine r_fld 34 _ 0 (.pointer (some ⟨bn, 0, none⟩)) (.pointer (some ⟨bn, 0, none⟩)) rfl (Tryz.rf0 _ _) rfl ?_) | (refine r_ldm 31 _ bn 0 (tg g.w g.h (sl n)) _ rfl cr Tryz.underlying31 rfl Tryz.tinfo rfl ?_) | (go_at_call 14; refine (HTL.out _ _ M.st).mono ?_; rintro e w6 ⟨g6, s6, rfl, own6⟩; obtain ⟨p6, m6, c6, rfl⟩ := own_slice own6; have own6 := own_up own6 zr; have M := M.gr g6; have gg := gg.trans g6; have z6 := g6.size) | (refine r_alloc 31 _ Tryz.tzero rfl ?_; intro w8 B8 N8; have g8 := N8.gr; have b8 : Blk w8 B8 (tg 0 0 (.slice none 0 0)) 31 := N8.blk; have l8 := N8.lo; have z8 := g8.size; have M := M.gr g8; have own6 := g8.row own6; have gg := gg.trans g8; clear N8) | (refine r_store_row 31 31 _ _ B8 rfl (tg g.w g.h (.slice p6 m6 c6)) _ rfl b8 Tryz.tsize rfl (tg_one rfl) rfl ?_; intro w9 u9 b9; have M := M.upd b8 (by decide) (by decide) (by decide) (by decide) u9; have own6 := u9.row own6 (own_ne own6 b8 (by decide)); have z9 := u9.size; have gg := u9.gr gg (by omega)) | (refine r_load_row 31 _ _ rfl _ _ _ b9 Tryz.underlying31 rfl Tryz.tinfo rfl ?_) | (go_at_call 15; refine (tyText_n g.w g.h _ _ x.c (.slice p6 m6 c6) _ hw1 hh1 w7 h7 n36 HXL.out rfl own6).mono ?_; rintro e w10 ⟨rfl, g10⟩; rw [HXT.out]; have M := M.gr g10; have own6 := g10.row own6; have b9 := g10.blk b9; have gg := gg.trans g10; have z10 := g10.size) | (go_at_call 16; refine (rePlace_any g.w g.h _ S _ bk sl nx x _ M.st hw1 hh1 HSX.out HGD.out h300).mono ?_; rintro e w11 ⟨rfl, g11⟩; rw [HPL.out]; have M := M.gr g11; have own6 := g11.row own6; have b9 := g11.blk b9; have gg := gg.trans g11; have z11 := g11.size) | (refine r_eqI _ _ (S.length : Int) 300 true rfl rfl HL.out rfl ?_))
                go_ret2
                exact ⟨gg, by rw [HRC.out, HV.out]; exact rfl⟩
              · have HL := hidI (show decide ((S.length : Int) = 300) = false from by rw [decide_eq_false_iff_not]; omega)
                obtain ⟨T, hT⟩ : ∃ T, T = growS S x n d := ⟨_, rfl⟩
                have HTS := hidI (show T = S ++ [⟨x, F + 1, 0, n, d, []⟩] from by rw [hT, ← HF.out]; rfl)
                have HTl := hidI (show T.length = S.length + 1 from by rw [hT, growS_length])
                have HRN := hidI (show R = restS tiltG (300 - n) n (d + 1) (linkS T n S.length) from by rw [HR1.out, hT]; unfold moveS; rw [HX.out, hf]; show (if S.length = 300 then none else _).bind _ = _; rw [if_neg hl]; rfl)
                have HIN := hidI (show InvS (Sized g.w g.h) tiltG g n (d + 1) (linkS T n S.length) from by have h := HI.out.fresh Sized.tilt hn hlt hl (by rw [HX.out]; exact hf); rw [HX.out] at h; rw [hT]; exact h)
                have HFT := hidI (show (sta T n).far = F from by rw [HTS.out, sta_app _ _ _ hn]; exact HF.out)
                have HFR := hidI (show (sta T S.length).far = (sta T n).far + 1 from by rw [HFT.out, HTS.out, sta_new])
                have HD := hidI (show decide (((sta T S.length).far : Int) = (F : Int) + 1) = true from by rw [decide_eq_true_eq, HFR.out, HFT.out]; rfl)
                have HNL := hidI (show (sta T n).next.length = d from by rw [HTS.out, sta_app _ _ _ hn]; exact HNL.out)
                have HRS := hidI (fun (p : Option Addr) (m c : Nat) => show #[.int .i64 g.w, .int .i64 g.h, .slice p m c, .string (txtG x), .int .i64 ((F : Int) + 1), .int .i64 0, .int .i64 n, .int .i64 d, .slice none 0 0] = recS ⟨x, F + 1, 0, n, d, []⟩ (.slice p m c) nilV from by
                  unfold recS
                  rw [if_neg (by show ¬ F + 1 = 0; omega), HSX.out.w, HSX.out.h]
                  rfl)
                have hkT : S.length < T.length := by rw [HTl.out]; omega
                have hnT : n < T.length := by omega
                clear hf HR1 HI HX hl hT
                go_wp2_with (first | (refine r_nil _ ⟨bn, 0, none⟩ rfl rfl ?_) | (refine r_fld 34 _ 0 (.pointer (some ⟨bn, 0, none⟩)) (.pointer (some ⟨bn, 0, none⟩)) rfl (Tryz.rf0 _ _) rfl ?_) | (refine r_ldm 31 _ bn 0 (tg g.w g.h (sl n)) _ rfl cr Tryz.underlying31 rfl Tryz.tinfo rfl ?_) | (go_at_call 14; refine (HTL.out _ _ M.st).mono ?_; rintro e w6 ⟨g6, s6, rfl, own6⟩; obtain ⟨p6, m6, c6, rfl⟩ := own_slice own6; have own6 := own_up own6 zr; have M := M.gr g6; have gg := gg.trans g6; have z6 := g6.size) | (refine r_alloc 31 _ Tryz.tzero rfl ?_; intro w8 B8 N8; have g8 := N8.gr; have b8 : Blk w8 B8 (tg 0 0 (.slice none 0 0)) 31 := N8.blk; have l8 := N8.lo; have z8 := g8.size; have M := M.gr g8; have own6 := g8.row own6; have gg := gg.trans g8; clear N8) | (refine r_store_row 31 31 _ _ B8 rfl (tg g.w g.h (.slice p6 m6 c6)) _ rfl b8 Tryz.tsize rfl (tg_one rfl) rfl ?_; intro w9 u9 b9; have M := M.upd b8 (by decide) (by decide) (by decide) (by decide) u9; have own6 := u9.row own6 (own_ne own6 b8 (by decide)); have z9 := u9.size; have gg := u9.gr gg (by omega)) | (refine r_load_row 31 _ _ rfl _ _ _ b9 Tryz.underlying31 rfl Tryz.tinfo rfl ?_) | (go_at_call 15; refine (tyText_n g.w g.h _ _ x.c (.slice p6 m6 c6) _ hw1 hh1 w7 h7 n36 HXL.out rfl own6).mono ?_; rintro e w10 ⟨rfl, g10⟩; rw [HXT.out]; have M := M.gr g10; have own6 := g10.row own6; have b9 := g10.blk b9; have gg := gg.trans g10; have z10 := g10.size) | (go_at_call 16; refine (rePlace_any g.w g.h _ S _ bk sl nx x _ M.st hw1 hh1 HSX.out HGD.out h300).mono ?_; rintro e w11 ⟨rfl, g11⟩; rw [HPL.out]; have M := M.gr g11; have own6 := g11.row own6; have b9 := g11.blk b9; have gg := gg.trans g11; have z11 := g11.size) | (refine r_eqI _ _ (S.length : Int) 300 false rfl rfl HL.out rfl ?_))
                have gd := (Gr.refl w11).drew
                have M := M.gr gd
                have own6 := gd.row own6
                have b9 := gd.blk b9
                have gg := gg.trans gd
                have zd := gd.size
                have c4 : w11.drew.cell? ⟨bn, 4, none⟩ = some (.int .i64 F) := by
                  have := M.st.cell hn 4
                  rw [HBN.out] at this
                  rw [this]
                  show some (Value.int .i64 ((sta S n).far : Int)) = _
                  rw [HF.out]
                refine F_begin (fun w => (Blk w B8 (tg g.w g.h (.slice p6 m6 c6)) 31 ∧ w.cell? ⟨bn, 4, none⟩ = some (.int .i64 F))) 14 15 #[false, false, false, false, false, false, false, false, false, false, false, false, false, false, false] rfl (by kernel_rfl) (by kernel_rfl) ?_
                generalize w11.drew = wd at *
                refine F_free (v := .slice (some ⟨gB, 0, none⟩) S.length cap) 0 #[true, false, false, false, false, false, false, false, false, false, false, false, false, false, false] rfl (by kernel_rfl) (fun _ _ _ h => h) rfl (fun _ => rfl) (⟨b9, c4⟩) ?_; simp only [Act.put, List.setIfInBounds_toArray, List.set_cons_succ, List.set_cons_zero]
                refine F_take (v := .agg (tg g.w g.h (.slice p6 m6 c6))) 1 #[true, true, false, false, false, false, false, false, false, false, false, false, false, false, false] rfl (by kernel_rfl) (fun _ _ _ h => h) rfl (fun w hF => e_load_row 31 (.tmp 10) B8 _ _ _ rfl hF.1 Tryz.underlying31 rfl Tryz.tinfo) (⟨b9, c4⟩) ?_; simp only [Act.put, List.setIfInBounds_toArray, List.set_cons_succ, List.set_cons_zero]
                refine F_free (v := .string (txtG x)) 2 #[true, true, true, false, false, false, false, false, false, false, false, false, false, false, false] rfl (by kernel_rfl) (fun _ _ _ h => h) rfl (fun _ => rfl) (⟨b9, c4⟩) ?_; simp only [Act.put, List.setIfInBounds_toArray, List.set_cons_succ, List.set_cons_zero]
                refine F_free (v := .pointer (some ⟨bn, 0, none⟩)) 3 #[true, true, true, true, false, false, false, false, false, false, false, false, false, false, false] rfl (by kernel_rfl) (fun _ _ _ h => h) rfl (fun _ => rfl) (⟨b9, c4⟩) ?_; simp only [Act.put, List.setIfInBounds_toArray, List.set_cons_succ, List.set_cons_zero]
                refine F_free (v := .pointer (some ⟨bn, 0, none⟩)) 4 #[true, true, true, true, true, false, false, false, false, false, false, false, false, false, false] rfl (by kernel_rfl) (fun _ _ _ h => h) rfl (fun _ => rfl) (⟨b9, c4⟩) ?_; simp only [Act.put, List.setIfInBounds_toArray, List.set_cons_succ, List.set_cons_zero]
                refine F_free (v := .pointer (some ⟨bn, 4, none⟩)) 5 #[true, true, true, true, true, true, false, false, false, false, false, false, false, false, false] rfl (by kernel_rfl) (fun _ _ _ h => h) rfl (fun _ => e_val _ _ (Tryz.rf2 _ _)) (⟨b9, c4⟩) ?_; simp only [Act.put, List.setIfInBounds_toArray, List.set_cons_succ, List.set_cons_zero]
                refine F_take (v := .int .i64 F) 6 #[true, true, true, true, true, true, true, false, false, false, false, false, false, false, false] rfl (by kernel_rfl) (fun _ _ _ h => h) rfl (fun w hF => e_load 3 (.tmp 62) ⟨bn, 4, none⟩ _ rfl (Tryz.isAgg3 _) hF.2) (⟨b9, c4⟩) ?_; simp only [Act.put, List.setIfInBounds_toArray, List.set_cons_succ, List.set_cons_zero]
                refine F_free (v := .int .i64 ((F : Int) + 1)) 7 #[true, true, true, true, true, true, true, true, false, false, false, false, false, false, false] rfl (by kernel_rfl) (fun _ _ _ h => h) rfl (fun _ => e_add _ _ _ _ _ rfl rfl rfl (by omega)) (⟨b9, c4⟩) ?_; simp only [Act.put, List.setIfInBounds_toArray, List.set_cons_succ, List.set_cons_zero]
                refine F_free (v := .int .i64 n) 8 #[true, true, true, true, true, true, true, true, true, false, false, false, false, false, false] rfl (by kernel_rfl) (fun _ _ _ h => h) rfl (fun _ => rfl) (⟨b9, c4⟩) ?_; simp only [Act.put, List.setIfInBounds_toArray, List.set_cons_succ, List.set_cons_zero]
                refine F_free (v := .int .i64 d) 9 #[true, true, true, true, true, true, true, true, true, true, false, false, false, false, false] rfl (by kernel_rfl) (fun _ _ _ h => h) rfl (fun _ => rfl) (⟨b9, c4⟩) ?_; simp only [Act.put, List.setIfInBounds_toArray, List.set_cons_succ, List.set_cons_zero]
                refine F_one 10 #[true, true, true, true, true, true, true, true, true, true, true, false, false, false, false] rfl (by kernel_rfl) ?_
                refine r_build 34 [(0, .tmp 58), (1, .tmp 59), (2, .tmp 64), (4, .tmp 65), (5, .tmp 66)] [(0, .agg (tg g.w g.h (.slice p6 m6 c6))), (1, .string (txtG x)), (2, .int .i64 ((F : Int) + 1)), (4, .int .i64 n), (5, .int .i64 d)] _ (Tryz.rb1 _ _ _ _ _ _ _ _ _ _) rfl rfl ?_
                refine ⟨fun _ => ⟨b9, c4⟩, ?_⟩
                simp only [Act.put, List.setIfInBounds_toArray, List.set_cons_succ, List.set_cons_zero]
                refine F_one 11 #[true, true, true, true, true, true, true, true, true, true, true, true, false, false, false] rfl (by kernel_rfl) ?_
                refine r_box 34 _ #[.int .i64 g.w, .int .i64 g.h, .slice p6 m6 c6, .string (txtG x), .int .i64 ((F : Int) + 1), .int .i64 0, .int .i64 n, .int .i64 d, .slice none 0 0] rfl rfl ?_
                intro w12 B12 N12
                have g12 := N12.gr
                have bX := N12.blk
                have l12 := N12.lo
                have hnew : ∀ j, j < S.length → bk j ≠ B12 := fun j hj e => by have := (M.st.blk j hj).lt; omega
                have M := M.gr g12
                have own6 := g12.row own6
                have b9 := g12.blk b9
                have c4 := g12.cell c4
                have gg := gg.trans g12
                have z12 := g12.size
                rw [HRS.out] at bX
                refine ⟨fun _ => ⟨b9, c4⟩, ?_⟩
                simp only [Act.put, List.setIfInBounds_toArray, List.set_cons_succ, List.set_cons_zero]
                refine F_one 12 #[true, true, true, true, true, true, true, true, true, true, true, true, true, false, false] rfl (by kernel_rfl) ?_
                refine r_slice1 25 28 (.tmp 68) (.pointer (some ⟨B12, 0, none⟩)) rfl (Tryz.bp1 _ _) rfl ?_
                intro w13 B13 N13
                have g13 := N13.gr
                have M := M.gr g13
                have own6 := g13.row own6
                have b9 := g13.blk b9
                have c4 := g13.cell c4
                have bX := g13.keep bX
                have gg := gg.trans g13
                have z13 := g13.size
                refine ⟨fun _ => ⟨b9, c4⟩, ?_⟩
                simp only [Act.put, List.setIfInBounds_toArray, List.set_cons_succ, List.set_cons_zero]
                refine F_one 13 #[true, true, true, true, true, true, true, true, true, true, true, true, true, true, false] rfl (by kernel_rfl) ?_
                refine r_append (.tmp 57) (.tmp 69) 25 28 _ 1 8 w.heap.size Tryz.ptrI (.slice (some ⟨gB, 0, none⟩) S.length cap) S.length (ptrsV bk S.length) rfl M.st.row ⟨B13, 0, none⟩ 1 1 [ptrV B12] rfl rfl N13.cell1 (by intro u hu; simp at hu; subst hu; rfl) (by omega) (by decide) (by omega) rfl ?_
                intro v14 w14 own14 g14
                have b9 := g14.blk b9 (own_ne M.st.row b9 (by decide))
                have M2 := M.grow (s := ⟨x, F + 1, 0, n, d, []⟩) hn rfl bX hnew (by omega) own6 g14 own14
                rw [← HTS.out] at M2
                have gg := g14.gr gg (own_gr M.st.row (Nat.le_refl _))
                have z14 := g14.size
                obtain ⟨bk, hbk⟩ : ∃ b : Nat → Nat, b = fun m => if m = S.length then B12 else bk m := ⟨_, rfl⟩
                rw [← hbk] at M2
                have HBN := hidI (show bk n = bn from by rw [hbk]; show (if n = S.length then B12 else _) = bn; rw [if_neg (by omega)]; exact HBN.out)
                obtain ⟨sl, hsl⟩ : ∃ b : Nat → Value, b = fun m => if m = S.length then Value.slice p6 m6 c6 else sl m := ⟨_, rfl⟩
                rw [← hsl] at M2
                have M := M2
                have c4 : w14.cell? ⟨bn, 4, none⟩ = some (.int .i64 F) := by
                  have := M.st.cell hnT 4
                  rw [HBN.out] at this
                  rw [this]
                  show some (Value.int .i64 ((sta T n).far : Int)) = _
                  rw [HFT.out]
                refine ⟨fun _ => ⟨b9, c4⟩, ?_⟩
                simp only [Act.put, List.setIfInBounds_toArray, List.set_cons_succ, List.set_cons_zero]
                refine F_one 14 #[true, true, true, true, true, true, true, true, true, true, true, true, true, true, true] rfl (by kernel_rfl) ?_
                refine r_val v14 rfl rfl ?_
                simp only [Act.put, List.setIfInBounds_toArray, List.set_cons_succ, List.set_cons_zero]
                refine ⟨fun h => (by cases h), ?_⟩
                refine F_done (by kernel_rfl) ?_
                clear hbk hsl M2
                obtain ⟨gT, cT, rfl, -, -⟩ := own_shape M.st.row (by omega)
                go_wp2
                refine q_whole (by kernel_rfl) (by kernel_rfl) ?_
                refine q_move _ (.slice (some ⟨gT, 0, none⟩) T.length cT) rfl rfl ?_; simp only [Act.put, List.setIfInBounds_toArray, List.set_cons_succ, List.set_cons_zero]
                refine q_move _ (.int .i64 S.length) rfl rfl ?_; simp only [Act.put, List.setIfInBounds_toArray, List.set_cons_succ, List.set_cons_zero]
                refine q_take (.pointer (some ⟨gT, S.length, none⟩)) rfl (fun w' hw' => e_val _ _ (Tryz.psix gT T.length cT S.length hkT _)) ?_; simp only [Act.put, List.setIfInBounds_toArray, List.set_cons_succ, List.set_cons_zero]
                refine q_take (ptrV (bk S.length)) rfl (fun w' hw' => e_load 28 (.tmp 73) ⟨gT, S.length, none⟩ _ rfl (Tryz.isAgg28 _) (hw'.cell (M.st.ptr hkT))) ?_; simp only [Act.put, List.setIfInBounds_toArray, List.set_cons_succ, List.set_cons_zero]
                refine q_take (.pointer (some ⟨bk S.length, 0, none⟩)) rfl (fun w' hw' => rfl) ?_; simp only [Act.put, List.setIfInBounds_toArray, List.set_cons_succ, List.set_cons_zero]
                refine q_take (.pointer (some ⟨bk S.length, 4, none⟩)) rfl (fun w' hw' => e_val _ _ (Tryz.rf2 _ _)) ?_; simp only [Act.put, List.setIfInBounds_toArray, List.set_cons_succ, List.set_cons_zero]
                refine q_take (.int .i64 (sta T S.length).far) rfl (fun w' hw' => e_load 3 (.tmp 76) ⟨bk S.length, 4, none⟩ _ rfl (Tryz.isAgg3 _) (hw'.cell (M.st.cell hkT 4))) ?_; simp only [Act.put, List.setIfInBounds_toArray, List.set_cons_succ, List.set_cons_zero]
                refine q_move _ (.pointer (some ⟨bn, 0, none⟩)) rfl rfl ?_; simp only [Act.put, List.setIfInBounds_toArray, List.set_cons_succ, List.set_cons_zero]
                refine q_take (.pointer (some ⟨bn, 0, none⟩)) rfl (fun w' hw' => rfl) ?_; simp only [Act.put, List.setIfInBounds_toArray, List.set_cons_succ, List.set_cons_zero]
                refine q_take (.pointer (some ⟨bn, 4, none⟩)) rfl (fun w' hw' => e_val _ _ (Tryz.rf2 _ _)) ?_; simp only [Act.put, List.setIfInBounds_toArray, List.set_cons_succ, List.set_cons_zero]
                refine q_take (.int .i64 F) rfl (fun w' hw' => e_load 3 (.tmp 80) ⟨bn, 4, none⟩ _ rfl (Tryz.isAgg3 _) (hw'.cell c4)) ?_; simp only [Act.put, List.setIfInBounds_toArray, List.set_cons_succ, List.set_cons_zero]
                refine q_take (.int .i64 ((F : Int) + 1)) rfl (fun w' hw' => e_add _ _ _ _ _ rfl rfl rfl (by omega)) ?_; simp only [Act.put, List.setIfInBounds_toArray, List.set_cons_succ, List.set_cons_zero]
                refine q_take (.bool true) rfl (fun w' hw' => e_eqI _ _ ((sta T S.length).far : Int) ((F : Int) + 1) true rfl rfl HD.out) ?_; simp only [Act.put, List.setIfInBounds_toArray, List.set_cons_succ, List.set_cons_zero]
                refine wpQuiet_nil ?_; intro w20 g20
                have M := M.gr g20
                have gg := gg.trans g20
                have z20 := g20.size
                go_wp2
                have c5 : w20.cell? ⟨bn, 5, none⟩ = some (.int .i64 (sta T n).words) := by
                  have := M.st.cell hnT 5
                  rw [HBN.out] at this
                  exact this
                refine q_begin 14 (by kernel_rfl) (by kernel_rfl) ?_; simp only [List.take_succ_cons, List.take_zero, List.drop_succ_cons, List.drop_zero]
                refine q_move _ (.slice (some ⟨gT, 0, none⟩) T.length cT) rfl rfl ?_; simp only [Act.put, List.setIfInBounds_toArray, List.set_cons_succ, List.set_cons_zero]
                refine q_move _ (.int .i64 S.length) rfl rfl ?_; simp only [Act.put, List.setIfInBounds_toArray, List.set_cons_succ, List.set_cons_zero]
                refine q_take (.pointer (some ⟨gT, S.length, none⟩)) rfl (fun w' hw' => e_val _ _ (Tryz.psix gT T.length cT S.length hkT _)) ?_; simp only [Act.put, List.setIfInBounds_toArray, List.set_cons_succ, List.set_cons_zero]
                refine q_take (ptrV (bk S.length)) rfl (fun w' hw' => e_load 28 (.tmp 86) ⟨gT, S.length, none⟩ _ rfl (Tryz.isAgg28 _) (hw'.cell (M.st.ptr hkT))) ?_; simp only [Act.put, List.setIfInBounds_toArray, List.set_cons_succ, List.set_cons_zero]
                refine q_take (.pointer (some ⟨bk S.length, 0, none⟩)) rfl (fun w' hw' => rfl) ?_; simp only [Act.put, List.setIfInBounds_toArray, List.set_cons_succ, List.set_cons_zero]
                refine q_take (.pointer (some ⟨bk S.length, 5, none⟩)) rfl (fun w' hw' => e_val _ _ (Tryz.rf3 _ _)) ?_; simp only [Act.put, List.setIfInBounds_toArray, List.set_cons_succ, List.set_cons_zero]
                refine q_take (.int .i64 (sta T S.length).words) rfl (fun w' hw' => e_load 3 (.tmp 89) ⟨bk S.length, 5, none⟩ _ rfl (Tryz.isAgg3 _) (hw'.cell (M.st.cell hkT 5))) ?_; simp only [Act.put, List.setIfInBounds_toArray, List.set_cons_succ, List.set_cons_zero]
                refine q_move _ (.pointer (some ⟨bn, 0, none⟩)) rfl rfl ?_; simp only [Act.put, List.setIfInBounds_toArray, List.set_cons_succ, List.set_cons_zero]
                refine q_take (.pointer (some ⟨bn, 0, none⟩)) rfl (fun w' hw' => rfl) ?_; simp only [Act.put, List.setIfInBounds_toArray, List.set_cons_succ, List.set_cons_zero]
                refine q_take (.pointer (some ⟨bn, 5, none⟩)) rfl (fun w' hw' => e_val _ _ (Tryz.rf3 _ _)) ?_; simp only [Act.put, List.setIfInBounds_toArray, List.set_cons_succ, List.set_cons_zero]
                refine q_take (.int .i64 (sta T n).words) rfl (fun w' hw' => e_load 3 (.tmp 93) ⟨bn, 5, none⟩ _ rfl (Tryz.isAgg3 _) (hw'.cell c5)) ?_; simp only [Act.put, List.setIfInBounds_toArray, List.set_cons_succ, List.set_cons_zero]
                refine q_take (.int .i64 (wrap64 ((sta T S.length).words + (sta T n).words))) rfl (fun w' hw' => e_addw _ _ _ _ rfl rfl) ?_; simp only [Act.put, List.setIfInBounds_toArray, List.set_cons_succ, List.set_cons_zero]
                refine q_take (.pointer (some ⟨bk S.length, 0, none⟩)) rfl (fun w' hw' => rfl) ?_; simp only [Act.put, List.setIfInBounds_toArray, List.set_cons_succ, List.set_cons_zero]
                refine q_take (.pointer (some ⟨bk S.length, 5, none⟩)) rfl (fun w' hw' => e_val _ _ (Tryz.rf3 _ _)) ?_; simp only [Act.put, List.setIfInBounds_toArray, List.set_cons_succ, List.set_cons_zero]
                refine wpQuiet_nil ?_; intro w21 g21
                have M := M.gr g21
                have gg := gg.trans g21
                have z21 := g21.size
                refine r_store_cell 3 34 (.tmp 97) (.tmp 95) (bk S.length) 5 rfl (.int .i64 (wrap64 ((sta T S.length).words + (sta T n).words))) rfl _ (M.st.blk S.length hkT) (by show 5 < 9; decide) Tryz.sizeOf3 rfl rfl ?_
                intro w12 u12 b12
                have gg := u12.gr gg (M.st.lo S.length hkT)
                have MA := M.add hkT HFR.out u12 b12
                have z12 := u12.size
                obtain ⟨U, hU⟩ : ∃ U, U = addS T n S.length := ⟨_, rfl⟩
                rw [← hU] at MA
                have hUl : U.length = T.length := by rw [hU, addS_length]
                have HUU := hidI hU
                clear hU
                have hnU : n < U.length := by rw [hUl]; exact hnT
                have hUn : (sta U n).next.length = d := by
                  exact ((congrArg (fun z => (sta z n).next) HUU.out).trans (sta_add T n S.length n hkT).2).symm ▸ HNL.out
                have c8 : w12.cell? ⟨bn, 8, none⟩ = some (nx n) := by
                  have := MA.st.cell hnU 8
                  rw [HBN.out] at this
                  exact this
                have hz12 : H0 ≤ w12.heap.size := by omega
                go_wp2_with (first | (refine r_nil _ ⟨bn, 0, none⟩ rfl rfl ?_) | (refine r_fld 34 _ 6 (.pointer (some ⟨bn, 0, none⟩)) (.pointer (some ⟨bn, 8, none⟩)) rfl (Tryz.rf6 _ _) rfl ?_) | (refine r_ldc 32 _ ⟨bn, 8, none⟩ (nx n) rfl (Tryz.isAgg32 _) c8 rfl ?_) | (refine r_slice1 32 3 (.tmp 103) (.int .i64 S.length) rfl (Tryz.bsi1 _ _) rfl ?_; intro w13 B13 N13; have g13 := N13.gr; have MRB := MA.gr g13; have gg := gg.trans g13; have z13 := g13.size; have hz13 : H0 ≤ w13.heap.size := (by omega)) | (refine r_append (.tmp 102) (.tmp 104) 32 3 _ 1 8 H0 Tryz.intsI (nx n) (sta U n).next.length (natsV (sta U n).next) rfl MRB.own ⟨B13, 0, none⟩ 1 1 [.int .i64 S.length] rfl rfl N13.cell1 (by intro u hu; simp at hu; subst hu; rfl) (by omega) (by decide) hz13 rfl ?_; intro v14 w14 own14 g14; have st14 := (MRB.app g14).1; have bb14 := st14.blk n hnU; rw [HBN.out] at bb14) | (refine r_store_cell 32 34 (.tmp 107) (.tmp 105) bn 8 rfl v14 rfl _ bb14 (by show 8 < 9; decide) Tryz.sizeOf32 (own_one own14) rfl ?_; intro w15 u15 b15))
                rw [natsV_app] at own14
                have MRF := MRB.push (k := S.length) hnU g14 (HBN.out.symm ▸ u15) own14 (HBN.out.symm ▸ b15)
                have gg := u15.gr (g14.gr gg (own_gr MRB.own hbase)) (by rw [← HBN.out]; exact MRB.st.lo n hnU)
                have z15 := u15.size
                have z14 := g14.size
                have HFF := hidI (show (sta (linkS T n S.length) n).far = F from (sta_link T n S.length n hnT hkT).1.far.trans HFT.out)
                have MRG : MR w.heap.size H0 w15 (.slice (some ⟨gT, 0, none⟩) T.length cT) (linkS T n S.length) bk sl (fun m => if m = n then v14 else nx m) n := by
                  rw [show linkS T n S.length = pushS U n S.length from (congrArg (fun z => pushS z n S.length) HUU.out).symm]
                  exact MRF
                go_wp2
                go_roundw
                case rel => exact ⟨d + 1, linkS T n S.length, bk, sl, fun m => if m = n then v14 else nx m, by go_num, by omega, by rw [linkS_length]; exact hnT, HBN, MRG, gg, by omega, HFF, HIN, HRN⟩
                case measure => simp [intOf]; omega
          · obtain rfl : d = 4 := by omega
            have HR2 := hidI (show R = runS tiltG (300 - n) (n + 1) S from HR.out)
            have HI2 := hidI (HI.out.next hn)
            have MX := M.done hbase
            clear M HR HI hlt
            go_wp2
            go_roundw
            case rel => exact ⟨n + 1, S, bk, sl, nx, by go_num, hn, MX, gg, HI2, hidI (by rw [HR2.out, show 301 - (n + 1) = 300 - n by omega])⟩
            case measure => simp [intOf]; omega
      · obtain rfl : n = S.length := by omega
        have HV := hidI (show R = some S from by rw [HR.out, runS_done _ _ _ _ (Nat.lt_irrefl _)])
        clear hlt
        go_wp2
        go_ret2
        exact ⟨gg, by rw [HRC.out, HV.out]; exact ⟨_, bk, sl, nx, rfl, M.st, M.nxt⟩⟩
end Go.Proofs.YtpdmfbhjneodeaaGreatDoor
