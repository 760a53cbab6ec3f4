/-
  The program's search for all trays that are reached.
-/
import Derived.Test.YtpdmfbhjneodeaaGreatDoorReachI
namespace Go.Proofs.YtpdmfbhjneodeaaGreatDoor
open Go.RowKit
theorem Tryz.stix (B n cap x : Nat) (hx : x < n) (w : World) : (Instr.indexAt 36 (.slice (some ⟨B, 0, none⟩) n cap) (.int .i64 x)).run Tryz.prog w = .ok (.pointer (some ⟨B, x * 43, none⟩)) w := by
  have hu : Tryz.prog.underlying 36 = some (.slice (Tryz.prog.elem 36)) := by kernel_rfl
  have he : Tryz.prog.elem 36 = 45 := by kernel_rfl
  rw [run_indexAt_slice w 36 ⟨B, 0, none⟩ n cap .i64 x hu, if_pos (by omega), he]
  simp only [Int.toNat_natCast, Tryz.sizeOf45, Result.andThen_ok, add_flat']
theorem Tryz.stf0 (B o : Nat) (w : World) : (Instr.fieldAt 45 (.pointer (some ⟨B, o, none⟩)) 0).run Tryz.prog w = .ok (.pointer (some ⟨B, o, none⟩)) w := by kernel_rfl
theorem Tryz.stf1 (B o : Nat) (w : World) : (Instr.fieldAt 45 (.pointer (some ⟨B, o, none⟩)) 1).run Tryz.prog w = .ok (.pointer (some ⟨B, o + 38, none⟩)) w := by kernel_rfl
theorem Tryz.stf2 (B o : Nat) (w : World) : (Instr.fieldAt 45 (.pointer (some ⟨B, o, none⟩)) 2).run Tryz.prog w = .ok (.pointer (some ⟨B, o + 39, none⟩)) w := by kernel_rfl
theorem Tryz.stf3 (B o : Nat) (w : World) : (Instr.fieldAt 45 (.pointer (some ⟨B, o, none⟩)) 3).run Tryz.prog w = .ok (.pointer (some ⟨B, o + 40, none⟩)) w := by kernel_rfl
theorem Tryz.stf4 (B o : Nat) (w : World) : (Instr.fieldAt 45 (.pointer (some ⟨B, o, none⟩)) 4).run Tryz.prog w = .ok (.pointer (some ⟨B, o + 41, none⟩)) w := by kernel_rfl
theorem Tryz.stf5 (B o : Nat) (w : World) : (Instr.fieldAt 45 (.pointer (some ⟨B, o, none⟩)) 5).run Tryz.prog w = .ok (.pointer (some ⟨B, o + 42, none⟩)) w := by kernel_rfl
def newL (g : Grid) (f x b d : Int) : List Value := (gvG g).toList ++ [.int .i64 f, .int .i64 x, .int .i64 b, .int .u8 d, .slice none 0 0]
theorem Tryz.stI : ElemInfo Tryz.prog 36 45 (.agg (newL ⟨0, 0, []⟩ 0 0 0 0).toArray) 43 112 := ⟨Tryz.underlying36, by kernel_rfl, by kernel_rfl, by decide⟩
theorem Tryz.stb0 (g : Grid) (w : World) : (Instr.build 45 #[(0, .agg (gvG g)), (2, .int .i64 1)]).run Tryz.prog w = .ok (.agg (newL g 0 1 0 0).toArray) w := by kernel_rfl
theorem Tryz.stb1 (g : Grid) (f b d : Int) (w : World) : (Instr.build 45 #[(0, .agg (gvG g)), (1, .int .i64 f), (3, .int .i64 b), (4, .int .u8 d)]).run Tryz.prog w = .ok (.agg (newL g f 0 b d).toArray) w := by kernel_rfl
theorem Tryz.sts1 (g : Grid) (f x b d : Int) (w : World) : (Instr.buildSlice 36 1 #[(0, .agg (newL g f x b d).toArray)]).run Tryz.prog w = .ok (.slice (some ⟨w.heap.size, 0, none⟩) 1 1) (w.alloc (.cells (newL g f x b d).toArray 45)) := by kernel_rfl
theorem newL_length (g : Grid) (f x b d : Int) : (newL g f x b d).length = 43 := by
  unfold newL
  rw [List.length_append, gvl]
  rfl
theorem newL_one (g : Grid) (f x b d : Int) : ∀ u ∈ newL g f x b d, u.oneCell' = true := by
  intro u hu
  unfold newL at hu
  rcases List.mem_append.1 hu with h | h
  · exact gv_one _ _ _ u h
  · simp only [List.mem_cons, List.not_mem_nil, or_false] at h
    rcases h with rfl | rfl | rfl | rfl | rfl <;> rfl
theorem newL_cell (g : Grid) (f n d : Nat) : newL g ((f : Int) + 1) 0 n (dB d).toNat = cellS ⟨g, f + 1, 0, n, d, []⟩ nilV := by
  unfold newL cellS lastB
  rw [if_neg (by show ¬ f + 1 = 0; omega)]
  rfl
theorem start_rows (g : Grid) : (rowsI (startS g) (fun _ => nilV)).flatten = newL g 0 1 0 0 := by
  show cellS (sta (startS g) 0) nilV ++ [] = _
  rw [List.append_nil]
  rfl
theorem ORel.start {base : Nat} {w : World} {v : Value} {g : Grid} (h : w.ownsRow base 45 43 v 1 (newL g 0 1 0 0)) : ORel base w v (startS g) (fun _ => nilV) 0 :=
  ⟨by rw [start_rows]; exact h, fun j hj => by
    have : j = 0 := by simp [startS] at hj; exact hj
    subst this
    exact World.ownsRow_nil _ _ _ _, fun _ _ => rfl⟩
theorem ORel.gr {base : Nat} {w w' : World} {v : Value} {S : List (Sta Grid)} {nx : Nat → Value} {n : Nat} (h : ORel base w v S nx n) (g : Gr w w') : ORel base w' v S nx n :=
  ⟨g.row h.row, fun j hj => g.row (h.nxt j hj), h.nil⟩
theorem ORel.cell {base g cap : Nat} {w : World} {S : List (Sta Grid)} {nx : Nat → Value} (h : w.ownsRow base 45 43 (.slice (some ⟨g, 0, none⟩) S.length cap) S.length (rowsI S nx).flatten) {j : Nat} (hj : j < S.length) (i : Nat) (hi : i < 5) :
    w.cell? ⟨g, j * 43 + (38 + i), none⟩ = [Value.int .i64 (sta S j).far, .int .i64 (sta S j).words, .int .i64 (sta S j).from_, .int .u8 (lastB (sta S j)), nx j][i]? :=
  (own_flat_at h (rowsI_wide _ _) (rowsI_length _ _) hj (by omega)).trans (by rw [rowsI_get S nx j hj]; exact cellS_tl _ _ i)
theorem ORel.tray {base g cap : Nat} {w : World} {S : List (Sta Grid)} {nx : Nat → Value} (h : w.ownsRow base 45 43 (.slice (some ⟨g, 0, none⟩) S.length cap) S.length (rowsI S nx).flatten) {j : Nat} (hj : j < S.length) :
    w.rangeAt g (j * 43) (gvG (sta S j).t).toList := by
  have := own_flat_range h (rowsI_wide _ _) (rowsI_length _ _) hj (o := 0) (cs := (gvG (sta S j).t).toList) (by rw [gvl]; omega) (fun i hi => by
    rw [gvl] at hi
    rw [rowsI_get S nx j hj, Nat.zero_add]
    exact cellS_hd _ _ i hi)
  rwa [Nat.add_zero] at this
set_option maxHeartbeats 8000000 in
set_option maxRecDepth 100000 in
theorem statesFrom_any (g : Grid) (w : World) (hg : Cel g) : Calls Tryz.prog 18 #[.agg (gvG g)] w (RetI (reachS tiltG g) w) := by
  have gg := Gr.refl w
  have hsz : Sized g.w g.h g := ⟨hg, rfl, rfl⟩
  obtain ⟨W, hW⟩ : ∃ W, W = g.w := ⟨_, rfl⟩
  obtain ⟨H, hH⟩ : ∃ H, H = g.h := ⟨_, rfl⟩
  rw [← hW, ← hH] at hsz
  obtain ⟨R, hR⟩ : ∃ R, R = reachS tiltG g := ⟨_, rfl⟩
  rw [← hR]
  have HR0 := hidI (show R = runS tiltG (301 - 0) 0 (startS g) from hR)
  have HI0 := hidI (InvS.start (nxt := tiltG) hsz)
  have HPUT := hidI (fun (w : World) (B : Nat) (h : MapG W H w B []) => show ∃ w', (Instr.mapUpdate 69 (.map (some B)) (.agg (gvG g)) (.int .i64 0)).run Tryz.prog w = .ok () w' ∧ MapG W H w' B (startS g) ∧ Grb (some B) w w' from h.put hsz rfl ⟨g, 0, 1, 0, 0, []⟩ rfl (by simp))
  clear hg hsz hR hW hH
  go_enter Tryz.func18, Tryz.ntmps18
  go_wp2_with (first | (refine r_box 43 _ (gvG g) rfl rfl ?_; intro w1 B1 N1; have g1 := N1.gr; have b1 : Blk w1 B1 (gvG g) 43 := N1.blk; have l1 := N1.lo; have t1 := N1.hi; have z1 := g1.size; have gg := gg.trans g1; clear N1) | (refine r_load_row 43 _ _ rfl _ _ _ b1 Tryz.underlying43 rfl (Tryz.ginfo' _ _ _) rfl ?_) | (refine r_build 45 [(0, .tmp 13), (2, .const (.int .i64 1))] [(0, .agg (gvG g)), (2, .int .i64 1)] _ (Tryz.stb0 g _) rfl rfl ?_) | (refine r_slice1s 36 45 (.tmp 14) (.agg (newL g 0 1 0 0).toArray) (newL g 0 1 0 0).toArray rfl (Tryz.sts1 g 0 1 0 0 _) rfl ?_; intro w2 B2 N2; have g2 := N2.gr; have z2 := g2.size; have b1 := g2.blk b1; have own := own_made (m := 43) (base := w.heap.size) N2 (by omega) (by rw [newL_length]); have gg := gg.trans g2; clear N2) | (refine r_mkmap 69 rfl ?_; intro w3 B3 hw3 hB3; have g3 : Gr w2 w3 := (by rw [hw3]; exact (Gr.refl _).alloc _); have mp : MapG W H w3 B3 [] := (by rw [hw3, hB3]; exact MapG.made W H _); have lo3 : w.heap.size ≤ B3 := (by rw [hB3]; omega); have z3 := g3.size; have b1 := g3.blk b1; have own := g3.row own; have gg := gg.trans g3; clear hw3 hB3) | (refine r_mapins 69 (.tmp 16) (.tmp 17) (.const (.int .i64 0)) (.map (some B3)) (.agg (gvG g)) (.int .i64 0) _ rfl rfl rfl (HPUT.out _ _ mp) rfl ?_; rintro w4 ⟨m4, g4⟩))
  have z4 := g4.size
  have gg := g4.gr gg (fun k hk => by cases hk; exact lo3)
  obtain ⟨es3, c3, hm3⟩ := mp.obj
  have OR := ORel.start (g4.row own (.inr (own_ne_obj own hm3)))
  clear own hm3
  go_loopw [4, 6] (fun v iv wr => ∃ (n : Nat) (S : List (Sta Grid)) (nx : Nat → Value), iv = .int .i64 n ∧ n ≤ S.length ∧ ORel w.heap.size wr v S nx n ∧ MapG W H wr B3 S ∧ Gr w wr ∧ Hid (InvS (Sized W H) tiltG g n 0 S) ∧ Hid (R = runS tiltG (301 - n) n S)) (fun _ iv _ => 301 - (intOf iv).toNat)
  case atStart => exact ⟨0, startS g, fun _ => nilV, rfl, Nat.zero_le _, OR, m4, gg, HI0, HR0⟩
  case round =>
    obtain ⟨n, S, nx, rfl, hn, OR, mp, gg, HI, HR⟩ := hrel
    have h300 := HI.out.le
    have hpos := HI.out.pos
    obtain ⟨gB, cap, rfl, -, -⟩ := own_shape OR.row hpos
    by_cases hlt : n < S.length
    · have hf := HI.out.far_le n hlt
      have c38 := ORel.cell OR.row hlt 0 (by omega)
      have hnl := HI.out.nl n hlt
      rw [if_neg (Nat.lt_irrefl _), if_pos rfl] at hnl
      obtain ⟨H0, hH0⟩ : ∃ H0, H0 = wr.heap.size := ⟨_, rfl⟩
      have IR := OR.begin hnl
      rw [← hH0] at IR
      have HR1 := hidI (show R = restS tiltG (300 - n) n 0 S from by rw [HR.out, show 301 - n = 300 - n + 1 by omega, runS_start _ _ _ _ hlt])
      obtain ⟨F, hF⟩ : ∃ F, F = (sta S n).far := ⟨_, rfl⟩
      simp only [Nat.add_zero, List.getElem?_cons_zero] at c38
      rw [← hF] at c38 hf
      have HF := hidI hF.symm
      have hbase : w.heap.size ≤ H0 := by have := gg.size; omega
      clear OR hF HR hnl
      go_wp2_with (first | (refine r_idx 36 _ _ (.slice (some ⟨gB, 0, none⟩) S.length cap) (.int .i64 n) _ rfl rfl (Tryz.stix gB S.length cap n hlt _) rfl ?_) | (refine r_fld 45 _ 1 (.pointer (some ⟨gB, n * 43, none⟩)) (.pointer (some ⟨gB, n * 43 + 38, none⟩)) rfl (Tryz.stf1 gB (n * 43) _) rfl ?_) | (refine r_ldc 3 _ ⟨gB, n * 43 + 38, none⟩ _ rfl (Tryz.isAgg3 _) c38 rfl ?_) | (refine r_slice4 29 5 _ _ _ _ (Tryz.bs4 _) rfl ?_) | (refine r_mark 29 5 (.tmp 31) cs4 4 4 _ rfl rfl Tryz.underlying29 Tryz.underlying5 rfl ?_; intro w5 B4 g5 l5 t5 b4))
      have IR := IR.gr g5
      have mp := mp.gr g5
      have gg := gg.trans g5
      have hz5 : H0 ≤ w5.heap.size := by have := g5.size; omega
      have lo5 : w.heap.size ≤ B4 := by omega
      clear b1 g5 c38
      go_loopw [4, 34] (fun v iv wr => ∃ (d : Nat) (S : List (Sta Grid)) (nx : Nat → Value), iv = .int .i64 d ∧ d ≤ 4 ∧ n < S.length ∧ IRel w.heap.size H0 wr v S nx n ∧ MapG W H wr B3 S ∧ wr.heap[B4]? = some (.cells cs4 5 (4, 5)) ∧ Gr w wr ∧ H0 ≤ wr.heap.size ∧ Hid ((sta S n).far = F) ∧ Hid (InvS (Sized W H) tiltG g n d S) ∧ Hid (R = restS tiltG (300 - n) n d S)) (fun _ iv _ => 4 - (intOf iv).toNat)
      case atStart => exact ⟨0, S, nx, rfl, by omega, hlt, IR, mp, b4, gg, hz5, HF, HI, HR1⟩
      case round =>
        clear IR mp b4 gg HF HI HR1 hz5 hlt hn h300 hpos
        obtain ⟨d, S, nx, rfl, hd, hn, IR, mp, b4, gg, hz, HF, HI, HR⟩ := hrel
        have h300 := HI.out.le
        obtain ⟨gB, cap, rfl, -, -⟩ := own_shape IR.row (by omega)
        by_cases hlt : d < 4
        · have hc4 := blk4 b4 hlt
          have hix := Tryz.ixb B4 4 4 d hlt
          have HT := HI.out.good n hn
          have cr := ORel.tray IR.row hn
          obtain ⟨t, ht⟩ : ∃ t, t = (sta S n).t := ⟨_, rfl⟩
          obtain ⟨x, hx⟩ : ∃ x, x = tiltG d t := ⟨_, rfl⟩
          rw [← ht] at HT cr
          have HSX := hidI (show Sized W H x from hx ▸ Sized.tilt d t hlt HT)
          have HTL := hidI (fun (w : World) (wv : Value) (h : WordAt w wv [d]) => show Calls Tryz.prog 30 #[.agg (gvG t), wv] w (Ret (.agg (gvG x)) w) from hx ▸ tilted_any t [d] wv w HT.cel (by simpa using hlt) h (by simp))
          have HR1 := hidI (show R = (moveS tiltG S n d).bind (restS tiltG (300 - n) n (d + 1)) from by rw [HR.out, restS_step _ _ _ _ _ hlt])
          have HX := hidI (show tiltG d (sta S n).t = x from by rw [← ht, hx])
          have HWA := hidI (fun (w w' : World) (B : Nat) (e : TypeId) (h : New w w' B #[.int .u8 (dB d).toNat] e) => one_word h)
          have HDB := hidI (show ∀ s : Sta Grid, s.far = F + 1 → s.dir = d → lastB s = (dB d).toNat from fun s h1 h2 => by unfold lastB; rw [if_neg (by omega), h2])
          clear hx HT HR
          have HTT := hidI ht
          clear ht
          have hidx := Tryz.stix gB S.length cap n hn
          have hlt4 := Gr.lt b4
          have zr := gg.size
          have HN4 := hidI (show (sta S n).next.length + 1 ≤ 1073741824 from by have := HI.out.nl n hn; rw [if_neg (Nat.lt_irrefl _), if_pos rfl] at this; omega)
          have HNL := hidI (show (sta S n).next.length = d from by have := HI.out.nl n hn; rw [if_neg (Nat.lt_irrefl _), if_pos rfl] at this; exact this)
          cases hf : findS S x with
          | some k =>
            have hk := (findS_some hf).1
            have HLK := hidI (fun (w : World) (m : MapG W H w B3 S) => show (Instr.lookup 69 (.map (some B3)) (.agg (gvG x)) true).run Tryz.prog w = .ok (.tuple #[.int .i64 (k : Int), .bool true]) w from by have := m.look HSX.out; rw [hf] at this; exact this)
            have HRN := hidI (show R = restS tiltG (300 - n) n (d + 1) (linkS S n k) from by rw [HR1.out]; unfold moveS; rw [HX.out, hf]; rfl)
            have HIN := hidI (HI.out.found hn (by rw [HX.out]; exact hf))
            clear hf HR1 HI HSX HX
            by_cases hfar : (sta S k).far = (sta S n).far + 1
            · have HFR := hidI hfar
              have hdec : decide (((sta S k).far : Int) = (F : Int) + 1) = true := by rw [decide_eq_true_eq, hfar, HF.out]; rfl
              have HD := hidI hdec
              clear hfar hdec
              go_wp2_with (first | (refine r_idx 36 _ _ (.slice (some ⟨gB, 0, none⟩) S.length cap) (.int .i64 n) _ rfl rfl (hidx _) rfl ?_) | (refine r_fld 45 _ 0 (.pointer (some ⟨gB, n * 43, none⟩)) (.pointer (some ⟨gB, n * 43, none⟩)) rfl (Tryz.stf0 gB (n * 43) _) rfl ?_) | (refine r_ldm 43 _ gB (n * 43) (gvG t) _ rfl cr Tryz.underlying43 rfl (Tryz.ginfo' _ _ _) rfl ?_) | (refine r_slice1 29 5 (.tmp 43) (.int .u8 (dB d).toNat) rfl (Tryz.bs1 _ _) rfl ?_; intro w6 B6 N6; have WA := HWA.out _ _ _ _ N6; have g6 := N6.gr; have IR := IR.gr g6; have mp := mp.gr g6; have b4 := g6.keep b4; have gg := gg.trans g6; have z6 := g6.size; clear N6) | (go_at_call 30; refine (HTL.out _ _ WA).mono ?_; rintro e w7 ⟨rfl, g7⟩; have IR := IR.gr g7; have mp := mp.gr g7; have b4 := g7.keep b4; have gg := gg.trans g7; have z7 := g7.size) | (refine r_alloc 43 _ Tryz.gzero rfl ?_; intro w8 B8 N8; have g8 := N8.gr; have b8 : Blk w8 B8 (gv 0 0 []) 43 := N8.blk; have l8 := N8.lo; have z8 := g8.size; have IR := IR.gr g8; have mp := mp.gr g8; have b4 := g8.keep b4; have gg := gg.trans g8; clear N8) | (refine r_store_row 43 43 _ _ B8 rfl (gvG x) _ rfl b8 (Tryz.gsize' _ _ _) (by simp only [gvG, gv_size]) (gv_one _ _ _) rfl ?_; intro w9 u9 b9; have IR := IR.upd b8 (by decide) (by decide) u9; have mp := mp.upd b8 u9; have b4 := u9.keep b4 (by omega); have z9 := u9.size; have gg := u9.gr gg (by omega)) | (refine r_load_row 43 _ _ rfl _ _ _ b9 Tryz.underlying43 rfl (Tryz.ginfo' _ _ _) rfl ?_) | (refine r_look 69 (.tmp 47) (.tmp 48) true (.map (some B3)) (.agg (gvG x)) _ rfl rfl (HLK.out _ mp) rfl ?_) | (refine r_idx 36 _ _ (.slice (some ⟨gB, 0, none⟩) S.length cap) (.int .i64 k) _ rfl rfl (Tryz.stix gB S.length cap k hk _) rfl ?_) | (refine r_fld 45 _ 1 (.pointer (some ⟨gB, k * 43, none⟩)) (.pointer (some ⟨gB, k * 43 + 38, none⟩)) rfl (Tryz.stf1 gB (k * 43) _) rfl ?_) | (refine r_ldc 3 _ ⟨gB, k * 43 + 38, none⟩ (.int .i64 (sta S k).far) rfl (Tryz.isAgg3 _) (ORel.cell IR.row hk 0 (by omega)) rfl ?_) | (refine r_eqI _ _ ((sta S k).far : Int) ((F : Int) + 1) true rfl rfl HD.out rfl ?_))
              refine q_begin 13 (by kernel_rfl) (by kernel_rfl) ?_; simp only [List.take_succ_cons, List.take_zero, List.drop_succ_cons, List.drop_zero]
              refine q_move _ (.slice (some ⟨gB, 0, none⟩) S.length cap) rfl rfl ?_; simp only [Act.put, List.setIfInBounds_toArray, List.set_cons_succ, List.set_cons_zero]
              refine q_move _ (.int .i64 k) rfl rfl ?_; simp only [Act.put, List.setIfInBounds_toArray, List.set_cons_succ, List.set_cons_zero]
              refine q_take (.pointer (some ⟨gB, k * 43, none⟩)) rfl (fun w' hw' => e_val _ _ (Tryz.stix gB S.length cap k hk _)) ?_; simp only [Act.put, List.setIfInBounds_toArray, List.set_cons_succ, List.set_cons_zero]
              refine q_take (.pointer (some ⟨gB, k * 43 + 39, none⟩)) rfl (fun w' hw' => e_val _ _ (Tryz.stf2 gB (k * 43) _)) ?_; simp only [Act.put, List.setIfInBounds_toArray, List.set_cons_succ, List.set_cons_zero]
              refine q_take (.int .i64 (sta S k).words) rfl (fun w' hw' => e_load 3 (.tmp 80) ⟨gB, k * 43 + 39, none⟩ _ rfl (Tryz.isAgg3 _) (hw'.cell (ORel.cell IR.row hk 1 (by omega)))) ?_; simp only [Act.put, List.setIfInBounds_toArray, List.set_cons_succ, List.set_cons_zero]
              refine q_move _ (.slice (some ⟨gB, 0, none⟩) S.length cap) rfl rfl ?_; simp only [Act.put, List.setIfInBounds_toArray, List.set_cons_succ, List.set_cons_zero]
              refine q_move _ (.int .i64 n) rfl rfl ?_; simp only [Act.put, List.setIfInBounds_toArray, List.set_cons_succ, List.set_cons_zero]
              refine q_take (.pointer (some ⟨gB, n * 43, none⟩)) rfl (fun w' hw' => e_val _ _ (Tryz.stix gB S.length cap n hn _)) ?_; simp only [Act.put, List.setIfInBounds_toArray, List.set_cons_succ, List.set_cons_zero]
              refine q_take (.pointer (some ⟨gB, n * 43 + 39, none⟩)) rfl (fun w' hw' => e_val _ _ (Tryz.stf2 gB (n * 43) _)) ?_; simp only [Act.put, List.setIfInBounds_toArray, List.set_cons_succ, List.set_cons_zero]
              refine q_take (.int .i64 (sta S n).words) rfl (fun w' hw' => e_load 3 (.tmp 85) ⟨gB, n * 43 + 39, none⟩ _ rfl (Tryz.isAgg3 _) (hw'.cell (ORel.cell IR.row hn 1 (by omega)))) ?_; simp only [Act.put, List.setIfInBounds_toArray, List.set_cons_succ, List.set_cons_zero]
              refine q_take (.int .i64 (wrap64 ((sta S k).words + (sta S n).words))) rfl (fun w' hw' => e_addw _ _ _ _ rfl rfl) ?_; simp only [Act.put, List.setIfInBounds_toArray, List.set_cons_succ, List.set_cons_zero]
              refine q_take (.pointer (some ⟨gB, k * 43, none⟩)) rfl (fun w' hw' => e_val _ _ (Tryz.stix gB S.length cap k hk _)) ?_; simp only [Act.put, List.setIfInBounds_toArray, List.set_cons_succ, List.set_cons_zero]
              refine q_take (.pointer (some ⟨gB, k * 43 + 39, none⟩)) rfl (fun w' hw' => e_val _ _ (Tryz.stf2 gB (k * 43) _)) ?_; simp only [Act.put, List.setIfInBounds_toArray, List.set_cons_succ, List.set_cons_zero]
              refine wpQuiet_nil ?_; intro w11 g11
              have IR := IR.gr g11
              have mp := mp.gr g11
              have b4 := g11.keep b4
              have gg := gg.trans g11
              have z11 := g11.size
              refine r_store_flat 3 45 (.tmp 89) (.tmp 87) 43 gB k 39 S.length cap w.heap.size (rowsI S nx) rfl (.int .i64 (wrap64 ((sta S k).words + (sta S n).words))) rfl IR.row (rowsI_wide _ _) (rowsI_length _ _) hk (by omega) Tryz.sizeOf3 rfl rfl ?_
              intro w12 u12 r12
              have IRA := IR.add hk HFR.out u12 r12
              have mp := mp.row IR.row u12.grb
              have b4 := u12.keep b4 (fun e => own_neF IR.row b4 (by decide) (by rw [e]; rfl))
              have gg := u12.gr gg (own_gr IR.row (Nat.le_refl _) gB rfl)
              have z12 := u12.size
              obtain ⟨U, hU⟩ : ∃ U, U = addS S n k := ⟨_, rfl⟩
              rw [← hU] at IRA
              have hUl : U.length = S.length := by rw [hU, addS_length]
              have hnU : n < U.length := by rw [hUl]; exact hn
              have hUn : (sta U n).next.length = d := by
                rw [hU, (sta_add S n k n hk).2]
                exact HNL.out
              have c42 := ORel.cell (show w12.ownsRow w.heap.size 45 43 (.slice (some ⟨gB, 0, none⟩) U.length cap) U.length (rowsI U nx).flatten from by have r := IRA.row; rw [hUl] at r ⊢; exact r) hnU 4 (by omega)
              have hz12 : H0 ≤ w12.heap.size := by omega
              have hidx2 := Tryz.stix gB S.length cap n hn
              go_wp2_with (first | (refine r_idx 36 _ _ (.slice (some ⟨gB, 0, none⟩) S.length cap) (.int .i64 n) _ rfl rfl (hidx2 _) rfl ?_) | (refine r_fld 45 _ 5 (.pointer (some ⟨gB, n * 43, none⟩)) (.pointer (some ⟨gB, n * 43 + 42, none⟩)) rfl (Tryz.stf5 gB (n * 43) _) rfl ?_) | (refine r_ldc 32 _ ⟨gB, n * 43 + 42, none⟩ (nx n) rfl (Tryz.isAgg32 _) c42 rfl ?_) | (refine r_slice1 32 3 (.tmp 97) (.int .i64 k) rfl (Tryz.bsi1 _ _) rfl ?_; intro w13 B13 N13; have g13 := N13.gr; have IRB := IRA.gr g13; have mp := mp.gr g13; have b4 := g13.keep b4; have gg := gg.trans g13; have z13 := g13.size; have hz13 : H0 ≤ w13.heap.size := (by omega)) | (refine r_append (.tmp 96) (.tmp 98) 32 3 _ 1 8 H0 Tryz.intsI (nx n) (sta U n).next.length (natsV (sta U n).next) rfl IRB.own ⟨B13, 0, none⟩ 1 1 [.int .i64 k] rfl rfl N13.cell1 (by intro u hu; simp at hu; subst hu; rfl) (by omega) (by decide) hz13 rfl ?_; intro v14 w14 own14 g14; have row14 := (IRB.app g14).1; have row15 : w14.ownsRow w.heap.size 45 43 (.slice (some ⟨gB, 0, none⟩) S.length cap) S.length (rowsI U nx).flatten := hUl ▸ row14) | (refine r_store_flat 32 45 (.tmp 101) (.tmp 99) 43 gB n 42 S.length cap w.heap.size (rowsI U nx) rfl v14 rfl row15 (rowsI_wide _ _) (by rw [rowsI_length]; exact hUl) hn (by omega) Tryz.sizeOf32 (own_one own14) rfl ?_; intro w15 u15 r15))
              rw [natsV_app] at own14
              have IRF := IRB.push hUl.symm hnU g14 u15 own14 r15
              have mp := (mp.row IRB.own g14).row row15 u15.grb
              have b4 := u15.keep (g14.keep b4 (own_neF IRB.own b4 (by decide))) (fun e => own_neF row15 (g14.keep b4 (own_neF IRB.own b4 (by decide))) (by decide) (by rw [e]; rfl))
              have gg := u15.gr (g14.gr gg (own_gr IRB.own hbase)) (own_gr row15 (Nat.le_refl _) gB rfl)
              have z15 := u15.size
              have z14 := g14.size
              have mp := mp.congr (linkS_length S n k).symm (fun y => (findS_link S n k y hn hk).symm)
              have HFF := hidI (show (sta (linkS S n k) n).far = F from (sta_link S n k n hn hk).1.far.trans HF.out)
              have IRG : IRel w.heap.size H0 w15 (.slice (some ⟨gB, 0, none⟩) S.length cap) (linkS S n k) (fun m => if m = n then v14 else nx m) n := by
                rw [show linkS S n k = pushS U n k from (congrArg (fun z => pushS z n k) hU).symm]
                exact IRF
              go_roundw
              case rel => exact ⟨d + 1, linkS S n k, fun m => if m = n then v14 else nx m, by go_num, by omega, by rw [linkS_length]; exact hn, IRG, mp, b4, gg, by omega, HFF, HIN, HRN⟩
              case measure => simp [intOf]; omega
            · have HD := hidI (show decide (((sta S k).far : Int) = (F : Int) + 1) = false from by rw [decide_eq_false_iff_not]; intro h; exact hfar (by rw [HF.out]; omega))
              have HU := hidI (show addS S n k = S from by unfold addS; rw [if_neg hfar])
              clear hfar
              go_wp2_with (first | (refine r_idx 36 _ _ (.slice (some ⟨gB, 0, none⟩) S.length cap) (.int .i64 n) _ rfl rfl (hidx _) rfl ?_) | (refine r_fld 45 _ 0 (.pointer (some ⟨gB, n * 43, none⟩)) (.pointer (some ⟨gB, n * 43, none⟩)) rfl (Tryz.stf0 gB (n * 43) _) rfl ?_) | (refine r_ldm 43 _ gB (n * 43) (gvG t) _ rfl cr Tryz.underlying43 rfl (Tryz.ginfo' _ _ _) rfl ?_) | (refine r_slice1 29 5 (.tmp 43) (.int .u8 (dB d).toNat) rfl (Tryz.bs1 _ _) rfl ?_; intro w6 B6 N6; have WA := HWA.out _ _ _ _ N6; have g6 := N6.gr; have IR := IR.gr g6; have mp := mp.gr g6; have b4 := g6.keep b4; have gg := gg.trans g6; have z6 := g6.size; clear N6) | (go_at_call 30; refine (HTL.out _ _ WA).mono ?_; rintro e w7 ⟨rfl, g7⟩; have IR := IR.gr g7; have mp := mp.gr g7; have b4 := g7.keep b4; have gg := gg.trans g7; have z7 := g7.size) | (refine r_alloc 43 _ Tryz.gzero rfl ?_; intro w8 B8 N8; have g8 := N8.gr; have b8 : Blk w8 B8 (gv 0 0 []) 43 := N8.blk; have l8 := N8.lo; have z8 := g8.size; have IR := IR.gr g8; have mp := mp.gr g8; have b4 := g8.keep b4; have gg := gg.trans g8; clear N8) | (refine r_store_row 43 43 _ _ B8 rfl (gvG x) _ rfl b8 (Tryz.gsize' _ _ _) (by simp only [gvG, gv_size]) (gv_one _ _ _) rfl ?_; intro w9 u9 b9; have IR := IR.upd b8 (by decide) (by decide) u9; have mp := mp.upd b8 u9; have b4 := u9.keep b4 (by omega); have z9 := u9.size; have gg := u9.gr gg (by omega)) | (refine r_load_row 43 _ _ rfl _ _ _ b9 Tryz.underlying43 rfl (Tryz.ginfo' _ _ _) rfl ?_) | (refine r_look 69 (.tmp 47) (.tmp 48) true (.map (some B3)) (.agg (gvG x)) _ rfl rfl (HLK.out _ mp) rfl ?_) | (refine r_idx 36 _ _ (.slice (some ⟨gB, 0, none⟩) S.length cap) (.int .i64 k) _ rfl rfl (Tryz.stix gB S.length cap k hk _) rfl ?_) | (refine r_fld 45 _ 1 (.pointer (some ⟨gB, k * 43, none⟩)) (.pointer (some ⟨gB, k * 43 + 38, none⟩)) rfl (Tryz.stf1 gB (k * 43) _) rfl ?_) | (refine r_ldc 3 _ ⟨gB, k * 43 + 38, none⟩ (.int .i64 (sta S k).far) rfl (Tryz.isAgg3 _) (ORel.cell IR.row hk 0 (by omega)) rfl ?_) | (refine r_eqI _ _ ((sta S k).far : Int) ((F : Int) + 1) false rfl rfl HD.out rfl ?_) | (refine r_fld 45 _ 5 (.pointer (some ⟨gB, n * 43, none⟩)) (.pointer (some ⟨gB, n * 43 + 42, none⟩)) rfl (Tryz.stf5 gB (n * 43) _) rfl ?_) | (refine r_ldc 32 _ ⟨gB, n * 43 + 42, none⟩ (nx n) rfl (Tryz.isAgg32 _) (ORel.cell IR.row hn 4 (by omega)) rfl ?_) | (refine r_slice1 32 3 (.tmp 97) (.int .i64 k) rfl (Tryz.bsi1 _ _) rfl ?_; intro w13 B13 N13; have g13 := N13.gr; have IRB := IR.gr g13; have mp := mp.gr g13; have b4 := g13.keep b4; have gg := gg.trans g13; have z13 := g13.size; have hz13 : H0 ≤ w13.heap.size := (by omega)) | (refine r_append (.tmp 96) (.tmp 98) 32 3 _ 1 8 H0 Tryz.intsI (nx n) (sta S n).next.length (natsV (sta S n).next) rfl IRB.own ⟨B13, 0, none⟩ 1 1 [.int .i64 k] rfl rfl N13.cell1 (by intro u hu; simp at hu; subst hu; rfl) HN4.out (by decide) hz13 rfl ?_; intro v14 w14 own14 g14; have row15 := (IRB.app g14).1) | (refine r_store_flat 32 45 (.tmp 101) (.tmp 99) 43 gB n 42 S.length cap w.heap.size (rowsI S nx) rfl v14 rfl row15 (rowsI_wide _ _) (rowsI_length _ _) hn (by omega) Tryz.sizeOf32 (own_one own14) rfl ?_; intro w15 u15 r15))
              have hnU := hn
              have hUl : S.length = S.length := rfl
              have hU : S = addS S n k := HU.out.symm
              rw [natsV_app] at own14
              have IRF := IRB.push hUl.symm hnU g14 u15 own14 r15
              have mp := (mp.row IRB.own g14).row row15 u15.grb
              have b4 := u15.keep (g14.keep b4 (own_neF IRB.own b4 (by decide))) (fun e => own_neF row15 (g14.keep b4 (own_neF IRB.own b4 (by decide))) (by decide) (by rw [e]; rfl))
              have gg := u15.gr (g14.gr gg (own_gr IRB.own hbase)) (own_gr row15 (Nat.le_refl _) gB rfl)
              have z15 := u15.size
              have z14 := g14.size
              have mp := mp.congr (linkS_length S n k).symm (fun y => (findS_link S n k y hn hk).symm)
              have HFF := hidI (show (sta (linkS S n k) n).far = F from (sta_link S n k n hn hk).1.far.trans HF.out)
              have IRG : IRel w.heap.size H0 w15 (.slice (some ⟨gB, 0, none⟩) S.length cap) (linkS S n k) (fun m => if m = n then v14 else nx m) n := by
                rw [show linkS S n k = pushS S n k from (congrArg (fun z => pushS z n k) hU).symm]
                exact IRF
              go_roundw
              case rel => exact ⟨d + 1, linkS S n k, fun m => if m = n then v14 else nx m, by go_num, by omega, by rw [linkS_length]; exact hn, IRG, mp, b4, gg, by omega, HFF, HIN, HRN⟩
              case measure => simp [intOf]; omega
          | none =>
            have HLK := hidI (fun (w : World) (m : MapG W H w B3 S) => show (Instr.lookup 69 (.map (some B3)) (.agg (gvG x)) true).run Tryz.prog w = .ok (.tuple #[.int .i64 0, .bool false]) w from by have := m.look HSX.out; rw [hf] at this; exact this)
            by_cases hl : S.length = 300
            · have HV := hidI (show R = none from by rw [HR1.out]; unfold moveS; rw [HX.out, hf]; show (if S.length = 300 then none else _).bind _ = none; rw [if_pos hl]; rfl)
              have HL := hidI (show decide ((S.length : Int) = 300) = true from by rw [decide_eq_true_eq, hl]; rfl)
              clear hf HR1 HI HSX HX hl
              go_wp2_with (first | (refine r_idx 36 _ _ (.slice (some ⟨gB, 0, none⟩) S.length cap) (.int .i64 n) _ rfl rfl (hidx _) rfl ?_) | (refine r_fld 45 _ 0 (.pointer (some ⟨gB, n * 43, none⟩)) (.pointer (some ⟨gB, n * 43, none⟩)) rfl (Tryz.stf0 gB (n * 43) _) rfl ?_) | (refine r_ldm 43 _ gB (n * 43) (gvG t) _ rfl cr Tryz.underlying43 rfl (Tryz.ginfo' _ _ _) rfl ?_) | (refine r_slice1 29 5 (.tmp 43) (.int .u8 (dB d).toNat) rfl (Tryz.bs1 _ _) rfl ?_; intro w6 B6 N6; have WA := HWA.out _ _ _ _ N6; have g6 := N6.gr; have IR := IR.gr g6; have mp := mp.gr g6; have b4 := g6.keep b4; have gg := gg.trans g6; have z6 := g6.size; clear N6) | (go_at_call 30; refine (HTL.out _ _ WA).mono ?_; rintro e w7 ⟨rfl, g7⟩; have IR := IR.gr g7; have mp := mp.gr g7; have b4 := g7.keep b4; have gg := gg.trans g7; have z7 := g7.size) | (refine r_alloc 43 _ Tryz.gzero rfl ?_; intro w8 B8 N8; have g8 := N8.gr; have b8 : Blk w8 B8 (gv 0 0 []) 43 := N8.blk; have l8 := N8.lo; have z8 := g8.size; have IR := IR.gr g8; have mp := mp.gr g8; have b4 := g8.keep b4; have gg := gg.trans g8; clear N8) | (refine r_store_row 43 43 _ _ B8 rfl (gvG x) _ rfl b8 (Tryz.gsize' _ _ _) (by simp only [gvG, gv_size]) (gv_one _ _ _) rfl ?_; intro w9 u9 b9; have IR := IR.upd b8 (by decide) (by decide) u9; have mp := mp.upd b8 u9; have b4 := u9.keep b4 (by omega); have z9 := u9.size; have gg := u9.gr gg (by omega)) | (refine r_load_row 43 _ _ rfl _ _ _ b9 Tryz.underlying43 rfl (Tryz.ginfo' _ _ _) rfl ?_) | (refine r_look 69 (.tmp 47) (.tmp 48) true (.map (some B3)) (.agg (gvG x)) _ rfl rfl (HLK.out _ mp) rfl ?_) | (refine r_eqI _ _ (S.length : Int) 300 true rfl rfl HL.out rfl ?_))
              go_ret2
              exact ⟨gg, by rw [HV.out]; exact rfl⟩
            · have HL := hidI (show decide ((S.length : Int) = 300) = false from by rw [decide_eq_false_iff_not]; omega)
              have hle : S.length ≤ 300 := h300
              obtain ⟨T, hT⟩ : ∃ T, T = growS S x n d := ⟨_, rfl⟩
              have HTS := hidI (show T = S ++ [⟨x, F + 1, 0, n, d, []⟩] from by rw [hT, ← HF.out]; rfl)
              have HTl := hidI (show T.length = S.length + 1 from by rw [hT, growS_length])
              have HPT := hidI (fun (w : World) (m : MapG W H w B3 S) => show ∃ w', (Instr.mapUpdate 69 (.map (some B3)) (.agg (gvG x)) (.int .i64 (S.length : Int))).run Tryz.prog w = .ok () w' ∧ MapG W H w' B3 T ∧ Grb (some B3) w w' from HTS.out ▸ m.put HSX.out hf ⟨x, F + 1, 0, n, d, []⟩ rfl hle)
              have HRN := hidI (show R = restS tiltG (300 - n) n (d + 1) (linkS T n S.length) from by rw [HR1.out, hT]; unfold moveS; rw [HX.out, hf]; show (if S.length = 300 then none else _).bind _ = _; rw [if_neg hl]; rfl)
              have HIN := hidI (show InvS (Sized W H) tiltG g n (d + 1) (linkS T n S.length) from by have h := HI.out.fresh Sized.tilt hn hlt hl (by rw [HX.out]; exact hf); rw [HX.out] at h; rw [hT]; exact h)
              have HFT := hidI (show (sta T n).far = F from by rw [HTS.out, sta_app _ _ _ hn]; exact HF.out)
              have HFR := hidI (show (sta T S.length).far = (sta T n).far + 1 from by rw [HFT.out, HTS.out, sta_new])
              have HD := hidI (show decide (((sta T S.length).far : Int) = (F : Int) + 1) = true from by rw [decide_eq_true_eq, HFR.out, HFT.out]; rfl)
              have HNL := hidI (show (sta T n).next.length = d from by rw [HTS.out, sta_app _ _ _ hn]; exact HNL.out)
              have HNC := hidI (newL_cell x F n d)
              have hkT : S.length < T.length := by rw [HTl.out]; omega
              have hnT : n < T.length := by omega
              clear hf HR1 HI HSX HX hl hT
              go_wp2_with (first | (refine r_idx 36 _ _ (.slice (some ⟨gB, 0, none⟩) S.length cap) (.int .i64 n) _ rfl rfl (hidx _) rfl ?_) | (refine r_fld 45 _ 0 (.pointer (some ⟨gB, n * 43, none⟩)) (.pointer (some ⟨gB, n * 43, none⟩)) rfl (Tryz.stf0 gB (n * 43) _) rfl ?_) | (refine r_ldm 43 _ gB (n * 43) (gvG t) _ rfl cr Tryz.underlying43 rfl (Tryz.ginfo' _ _ _) rfl ?_) | (refine r_slice1 29 5 (.tmp 43) (.int .u8 (dB d).toNat) rfl (Tryz.bs1 _ _) rfl ?_; intro w6 B6 N6; have WA := HWA.out _ _ _ _ N6; have g6 := N6.gr; have IR := IR.gr g6; have mp := mp.gr g6; have b4 := g6.keep b4; have gg := gg.trans g6; have z6 := g6.size; clear N6) | (go_at_call 30; refine (HTL.out _ _ WA).mono ?_; rintro e w7 ⟨rfl, g7⟩; have IR := IR.gr g7; have mp := mp.gr g7; have b4 := g7.keep b4; have gg := gg.trans g7; have z7 := g7.size) | (refine r_alloc 43 _ Tryz.gzero rfl ?_; intro w8 B8 N8; have g8 := N8.gr; have b8 : Blk w8 B8 (gv 0 0 []) 43 := N8.blk; have l8 := N8.lo; have z8 := g8.size; have IR := IR.gr g8; have mp := mp.gr g8; have b4 := g8.keep b4; have gg := gg.trans g8; clear N8) | (refine r_store_row 43 43 _ _ B8 rfl (gvG x) _ rfl b8 (Tryz.gsize' _ _ _) (by simp only [gvG, gv_size]) (gv_one _ _ _) rfl ?_; intro w9 u9 b9; have IR := IR.upd b8 (by decide) (by decide) u9; have mp := mp.upd b8 u9; have b4 := u9.keep b4 (by omega); have z9 := u9.size; have gg := u9.gr gg (by omega)) | (refine r_load_row 43 _ _ rfl _ _ _ b9 Tryz.underlying43 rfl (Tryz.ginfo' _ _ _) rfl ?_) | (refine r_look 69 (.tmp 47) (.tmp 48) true (.map (some B3)) (.agg (gvG x)) _ rfl rfl (HLK.out _ mp) rfl ?_) | (refine r_eqI _ _ (S.length : Int) 300 false rfl rfl HL.out rfl ?_) | (refine r_mapup 69 (.tmp 59) (.tmp 60) (.tmp 61) (.map (some B3)) (.agg (gvG x)) (.int .i64 (S.length : Int)) _ rfl rfl rfl (HPT.out _ mp) rfl ?_; rintro w10 ⟨mp10, g10⟩; obtain ⟨es, cc, hmo⟩ := mp.obj; have IR := IR.map hmo g10; have b4 := g10.keep b4 (fun e => by cases e; rw [hmo] at b4; cases b4); have b9 := g10.blk b9 (fun e => by cases e; unfold Blk at b9; rw [hmo] at b9; cases b9); have gg := g10.gr gg (fun k hk => by cases hk; exact lo3); have z10 := g10.size; clear hmo) | (refine r_build 45 [(0, .tmp 63), (1, .tmp 64), (3, .tmp 65), (4, .tmp 66)] [(0, .agg (gvG x)), (1, .int .i64 ((F : Int) + 1)), (3, .int .i64 n), (4, .int .u8 (dB d).toNat)] _ (Tryz.stb1 x _ _ _ _) rfl rfl ?_) | (refine r_slice1s 36 45 (.tmp 67) (.agg (newL x ((F : Int) + 1) 0 n (dB d).toNat).toArray) (newL x ((F : Int) + 1) 0 n (dB d).toNat).toArray rfl (Tryz.sts1 x _ _ _ _ _) rfl ?_; intro w11 B11 N11; have g11 := N11.gr; have IR := IR.gr g11; have mp10 := mp10.gr g11; have b4 := g11.keep b4; have gg := gg.trans g11; have z11 := g11.size) | (refine r_append (.tmp 62) (.tmp 68) 36 45 _ 43 112 w.heap.size Tryz.stI (.slice (some ⟨gB, 0, none⟩) S.length cap) S.length (rowsI S nx).flatten rfl IR.row ⟨B11, 0, none⟩ 1 1 (newL x ((F : Int) + 1) 0 n (dB d).toNat) rfl (by rw [newL_length]) N11.cellN (newL_one _ _ _ _ _) (by omega) (by decide) (by omega) rfl ?_; intro v12 w12 own12 g12; rw [HNC.out] at own12; have IRX := IR.grow (s := ⟨x, F + 1, 0, n, d, []⟩) hn rfl g12 own12; rw [← HTS.out] at IRX; have mp := mp10.row IR.row g12; have b4 := g12.keep b4 (own_neF IR.row b4 (by decide)); have gg := g12.gr gg (own_gr IR.row (Nat.le_refl _)); have z12 := g12.size; clear IR mp10; have IR := IRX; clear IRX; obtain ⟨gT, cT, rfl, -, -⟩ := own_shape IR.row (by omega)) | (refine r_idx 36 _ _ (.slice (some ⟨gT, 0, none⟩) T.length cT) (.int .i64 S.length) _ rfl rfl (Tryz.stix gT T.length cT S.length hkT _) rfl ?_) | (refine r_fld 45 _ 1 (.pointer (some ⟨gT, S.length * 43, none⟩)) (.pointer (some ⟨gT, S.length * 43 + 38, none⟩)) rfl (Tryz.stf1 gT (S.length * 43) _) rfl ?_) | (refine r_ldc 3 _ ⟨gT, S.length * 43 + 38, none⟩ (.int .i64 (sta T S.length).far) rfl (Tryz.isAgg3 _) (ORel.cell IR.row hkT 0 (by omega)) rfl ?_) | (refine r_eqI _ _ ((sta T S.length).far : Int) ((F : Int) + 1) true rfl rfl HD.out rfl ?_))
              refine q_begin 13 (by kernel_rfl) (by kernel_rfl) ?_; simp only [List.take_succ_cons, List.take_zero, List.drop_succ_cons, List.drop_zero]
              refine q_move _ (.slice (some ⟨gT, 0, none⟩) T.length cT) rfl rfl ?_; simp only [Act.put, List.setIfInBounds_toArray, List.set_cons_succ, List.set_cons_zero]
              refine q_move _ (.int .i64 S.length) rfl rfl ?_; simp only [Act.put, List.setIfInBounds_toArray, List.set_cons_succ, List.set_cons_zero]
              refine q_take (.pointer (some ⟨gT, S.length * 43, none⟩)) rfl (fun w' hw' => e_val _ _ (Tryz.stix gT T.length cT S.length hkT _)) ?_; simp only [Act.put, List.setIfInBounds_toArray, List.set_cons_succ, List.set_cons_zero]
              refine q_take (.pointer (some ⟨gT, S.length * 43 + 39, none⟩)) rfl (fun w' hw' => e_val _ _ (Tryz.stf2 gT (S.length * 43) _)) ?_; simp only [Act.put, List.setIfInBounds_toArray, List.set_cons_succ, List.set_cons_zero]
              refine q_take (.int .i64 (sta T S.length).words) rfl (fun w' hw' => e_load 3 (.tmp 80) ⟨gT, S.length * 43 + 39, none⟩ _ rfl (Tryz.isAgg3 _) (hw'.cell (ORel.cell IR.row hkT 1 (by omega)))) ?_; simp only [Act.put, List.setIfInBounds_toArray, List.set_cons_succ, List.set_cons_zero]
              refine q_move _ (.slice (some ⟨gT, 0, none⟩) T.length cT) rfl rfl ?_; simp only [Act.put, List.setIfInBounds_toArray, List.set_cons_succ, List.set_cons_zero]
              refine q_move _ (.int .i64 n) rfl rfl ?_; simp only [Act.put, List.setIfInBounds_toArray, List.set_cons_succ, List.set_cons_zero]
              refine q_take (.pointer (some ⟨gT, n * 43, none⟩)) rfl (fun w' hw' => e_val _ _ (Tryz.stix gT T.length cT n hnT _)) ?_; simp only [Act.put, List.setIfInBounds_toArray, List.set_cons_succ, List.set_cons_zero]
              refine q_take (.pointer (some ⟨gT, n * 43 + 39, none⟩)) rfl (fun w' hw' => e_val _ _ (Tryz.stf2 gT (n * 43) _)) ?_; simp only [Act.put, List.setIfInBounds_toArray, List.set_cons_succ, List.set_cons_zero]
              refine q_take (.int .i64 (sta T n).words) rfl (fun w' hw' => e_load 3 (.tmp 85) ⟨gT, n * 43 + 39, none⟩ _ rfl (Tryz.isAgg3 _) (hw'.cell (ORel.cell IR.row hnT 1 (by omega)))) ?_; simp only [Act.put, List.setIfInBounds_toArray, List.set_cons_succ, List.set_cons_zero]
              refine q_take (.int .i64 (wrap64 ((sta T S.length).words + (sta T n).words))) rfl (fun w' hw' => e_addw _ _ _ _ rfl rfl) ?_; simp only [Act.put, List.setIfInBounds_toArray, List.set_cons_succ, List.set_cons_zero]
              refine q_take (.pointer (some ⟨gT, S.length * 43, none⟩)) rfl (fun w' hw' => e_val _ _ (Tryz.stix gT T.length cT S.length hkT _)) ?_; simp only [Act.put, List.setIfInBounds_toArray, List.set_cons_succ, List.set_cons_zero]
              refine q_take (.pointer (some ⟨gT, S.length * 43 + 39, none⟩)) rfl (fun w' hw' => e_val _ _ (Tryz.stf2 gT (S.length * 43) _)) ?_; simp only [Act.put, List.setIfInBounds_toArray, List.set_cons_succ, List.set_cons_zero]
              refine wpQuiet_nil ?_; intro w11 g11
              have IR := IR.gr g11
              have mp := mp.gr g11
              have b4 := g11.keep b4
              have gg := gg.trans g11
              have z11 := g11.size
              refine r_store_flat 3 45 (.tmp 89) (.tmp 87) 43 gT S.length 39 T.length cT w.heap.size (rowsI T nx) rfl (.int .i64 (wrap64 ((sta T S.length).words + (sta T n).words))) rfl IR.row (rowsI_wide _ _) (rowsI_length _ _) hkT (by omega) Tryz.sizeOf3 rfl rfl ?_
              intro w12 u12 r12
              have IRA := IR.add hkT HFR.out u12 r12
              have mp := mp.row IR.row u12.grb
              have b4 := u12.keep b4 (fun e => own_neF IR.row b4 (by decide) (by rw [e]; rfl))
              have gg := u12.gr gg (own_gr IR.row (Nat.le_refl _) gT rfl)
              have z12 := u12.size
              obtain ⟨U, hU⟩ : ∃ U, U = addS T n S.length := ⟨_, rfl⟩
              rw [← hU] at IRA
              have hUl : U.length = T.length := by rw [hU, addS_length]
              have hnU : n < U.length := by rw [hUl]; exact hnT
              have hUn : (sta U n).next.length = d := by
                rw [hU, (sta_add T n S.length n hkT).2]
                exact HNL.out
              have c42 := ORel.cell (show w12.ownsRow w.heap.size 45 43 (.slice (some ⟨gT, 0, none⟩) U.length cT) U.length (rowsI U nx).flatten from by have r := IRA.row; rw [hUl] at r ⊢; exact r) hnU 4 (by omega)
              have hz12 : H0 ≤ w12.heap.size := by omega
              have hidx2 := Tryz.stix gT T.length cT n hnT
              go_wp2_with (first | (refine r_idx 36 _ _ (.slice (some ⟨gT, 0, none⟩) T.length cT) (.int .i64 n) _ rfl rfl (hidx2 _) rfl ?_) | (refine r_fld 45 _ 5 (.pointer (some ⟨gT, n * 43, none⟩)) (.pointer (some ⟨gT, n * 43 + 42, none⟩)) rfl (Tryz.stf5 gT (n * 43) _) rfl ?_) | (refine r_ldc 32 _ ⟨gT, n * 43 + 42, none⟩ (nx n) rfl (Tryz.isAgg32 _) c42 rfl ?_) | (refine r_slice1 32 3 (.tmp 97) (.int .i64 S.length) rfl (Tryz.bsi1 _ _) rfl ?_; intro w13 B13 N13; have g13 := N13.gr; have IRB := IRA.gr g13; have mp := mp.gr g13; have b4 := g13.keep b4; have gg := gg.trans g13; have z13 := g13.size; have hz13 : H0 ≤ w13.heap.size := (by omega)) | (refine r_append (.tmp 96) (.tmp 98) 32 3 _ 1 8 H0 Tryz.intsI (nx n) (sta U n).next.length (natsV (sta U n).next) rfl IRB.own ⟨B13, 0, none⟩ 1 1 [.int .i64 S.length] rfl rfl N13.cell1 (by intro u hu; simp at hu; subst hu; rfl) (by omega) (by decide) hz13 rfl ?_; intro v14 w14 own14 g14; have row14 := (IRB.app g14).1; have row15 : w14.ownsRow w.heap.size 45 43 (.slice (some ⟨gT, 0, none⟩) T.length cT) T.length (rowsI U nx).flatten := hUl ▸ row14) | (refine r_store_flat 32 45 (.tmp 101) (.tmp 99) 43 gT n 42 T.length cT w.heap.size (rowsI U nx) rfl v14 rfl row15 (rowsI_wide _ _) (by rw [rowsI_length]; exact hUl) hnT (by omega) Tryz.sizeOf32 (own_one own14) rfl ?_; intro w15 u15 r15))
              rw [natsV_app] at own14
              have IRF := IRB.push hUl.symm hnU g14 u15 own14 r15
              have mp := (mp.row IRB.own g14).row row15 u15.grb
              have b4 := u15.keep (g14.keep b4 (own_neF IRB.own b4 (by decide))) (fun e => own_neF row15 (g14.keep b4 (own_neF IRB.own b4 (by decide))) (by decide) (by rw [e]; rfl))
              have gg := u15.gr (g14.gr gg (own_gr IRB.own hbase)) (own_gr row15 (Nat.le_refl _) gT rfl)
              have z15 := u15.size
              have z14 := g14.size
              have mp := mp.congr (linkS_length T n S.length).symm (fun y => (findS_link T n S.length y hnT hkT).symm)
              have HFF := hidI (show (sta (linkS T n S.length) n).far = F from (sta_link T n S.length n hnT hkT).1.far.trans HFT.out)
              have IRG : IRel w.heap.size H0 w15 (.slice (some ⟨gT, 0, none⟩) T.length cT) (linkS T n S.length) (fun m => if m = n then v14 else nx m) n := by
                rw [show linkS T n S.length = pushS U n S.length from (congrArg (fun z => pushS z n S.length) hU).symm]
                exact IRF
              go_roundw
              case rel => exact ⟨d + 1, linkS T n S.length, fun m => if m = n then v14 else nx m, by go_num, by omega, by rw [linkS_length]; exact hnT, IRG, mp, b4, gg, by omega, HFF, HIN, HRN⟩
              case measure => simp [intOf]; omega
        · obtain rfl : d = 4 := by omega
          have HR2 := hidI (show R = runS tiltG (300 - n) (n + 1) S from HR.out)
          have HI2 := hidI (HI.out.next hn)
          have OR := IR.done hbase
          clear IR HR HI hlt
          go_wp2
          go_roundw
          case rel => exact ⟨n + 1, S, nx, by go_num, hn, OR, mp, gg, HI2, hidI (by rw [HR2.out, show 301 - (n + 1) = 300 - n by omega])⟩
          case measure => simp [intOf]; omega
    · obtain rfl : n = S.length := by omega
      have HV := hidI (show R = some S from by rw [HR.out, runS_done _ _ _ _ (Nat.lt_irrefl _)])
      clear hlt
      go_wp2
      go_ret2
      exact ⟨gg, by rw [HV.out]; exact ⟨_, nx, rfl, OR.row, OR.nxt⟩⟩
end Go.Proofs.YtpdmfbhjneodeaaGreatDoor
