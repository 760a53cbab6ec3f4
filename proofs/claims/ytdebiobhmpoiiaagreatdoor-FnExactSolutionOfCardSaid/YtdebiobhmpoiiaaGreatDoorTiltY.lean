/-
  A tray tilted along a word: in the program and in the model; still trays; the law on two words that do the same.
-/
import Derived.Test.YtdebiobhmpoiiaaGreatDoorTiltV
import Derived.Test.YtdebiobhmpoiiaaGreatDoorKeep
import Derived.Test.YtdebiobhmpoiiaaGreatDoorTiltYF
namespace Go.Proofs.YtdebiobhmpoiiaaGreatDoor
open Go.RowKit
/-- The directions of a word. -/
def wds (s : ByteArray) : List Nat := s.data.toList.map fun b => (dI b).toNat
theorem wds_length (s : ByteArray) : (wds s).length = s.size := by unfold wds; rw [List.length_map]; exact Array.length_toList
theorem wds_lt {s : ByteArray} (_h : wordB s = true) : ∀ d ∈ wds s, d < 4 := by
  intro d hd
  unfold wds at hd
  obtain ⟨b, hb, rfl⟩ := List.mem_map.1 hd
  have := dI_lt b
  omega
theorem wds_at {s : ByteArray} (h : wordB s = true) {j : Nat} (hj : j < s.size) : ∃ d, d < 4 ∧ at0 s.data.toList j = dB d ∧ dI (dB d) = d ∧ (wds s).getD j 0 = d ∧ (wds s).take (j + 1) = (wds s).take j ++ [d] := by
  have hl : s.data.toList.length = s.size := Array.length_toList
  obtain ⟨d, h4, h1, h2⟩ := dB_dI (word_at h j (by omega))
  have e : (wds s)[j]? = some d := by
    unfold wds
    rw [List.getElem?_map, List.getElem?_eq_getElem (by omega)]
    have : s.data.toList[j]'(by omega) = at0 s.data.toList j := by unfold at0; rw [List.getD_eq_getElem?_getD, List.getElem?_eq_getElem (by omega)]; rfl
    rw [this]
    show some (dI (at0 s.data.toList j)).toNat = some d
    rw [h1]
    rfl
  refine ⟨d, h4, h2, by rw [← h2]; exact h1, by rw [List.getD_eq_getElem?_getD, e]; rfl, ?_⟩
  rw [List.take_add_one, e]
  rfl
theorem word_of_bb {w : World} {B : Nat} {s : ByteArray} {e : TypeId} {cap : Nat} (hb : BB w B s.data.toList e) (h : wordB s = true) : WordAt w (.slice (some ⟨B, 0, none⟩) s.size cap) (wds s) := by
  refine ⟨some ⟨B, 0, none⟩, cap, by rw [wds_length], fun j hj => ?_⟩
  rw [wds_length] at hj
  obtain ⟨d, h4, h1, -, h2, -⟩ := wds_at h hj
  refine ⟨B, 0, rfl, ?_⟩
  have := hb.cell j (by rw [show s.data.toList.length = s.size from Array.length_toList]; exact hj)
  rw [Nat.zero_add, this, h2, h1]
theorem runG_take {s : ByteArray} (g : Grid) {j d : Nat} (h : (wds s).take (j + 1) = (wds s).take j ++ [d]) : runG ((wds s).take (j + 1)) g = tiltG d (runG ((wds s).take j) g) := by rw [h, runG_snoc]
theorem same_txt {g m : Grid} (hg : Cel g) (hm : Cel m) (g1 : 1 ≤ g.w) (gh : 1 ≤ g.h) (_m1 : 1 ≤ m.w) (mh : 1 ≤ m.h) : sameB g m = decide (txtB g.w g.h g.c = txtB m.w m.h m.c) := by
  rw [Bool.eq_iff_iff, decide_eq_true_eq]
  constructor
  · intro h
    unfold sameB at h
    rw [Bool.and_eq_true, Bool.and_eq_true, beq_iff_eq, beq_iff_eq, List.all_eq_true] at h
    obtain ⟨⟨h1, h2⟩, h3⟩ := h
    have hc : m.c = g.c := by
      apply list_ext (by rw [hm.len, hg.len, h1, h2])
      intro i hi
      have hi36 : i < 36 := by have := hm.len; have := hm.n36; omega
      have := h3 i (List.mem_range.2 hi36)
      rw [beq_iff_eq] at this
      exact UInt8.toNat_inj.1 (by omega)
    rw [← h1, ← h2, hc]
  · intro h
    have e : txtL g.w g.c g.h = txtL m.w m.c m.h := by rw [← txtB_data, ← txtB_data, h]
    obtain ⟨e1, e2, e3⟩ := txt_inj g1 gh mh hg.len hm.len (cell_plain hg.cells) (cell_plain hm.cells) e
    unfold sameB
    rw [e1, e2, e3]
    simp
theorem txt_of {s : ByteArray} {g : Grid} (hp : parse s.data.toList = some g) : s = txtB g.w g.h g.c := by
  apply ByteArray.ext
  apply Array.toList_inj.1
  rw [txtB_data, parse_text hp]
theorem e_eqlS {P : Program} {w : World} {a : Act} {dst : Option Tmp} {ty T yt : TypeId} {pos : String} {aft : Array Edge} {gd : Option (Nat × Bool)} (x y : Operand) (s t : ByteArray) (hx : a.eval x = .string s) (hy : a.eval y = .string t) :
    (execOp a.eval ⟨dst, .binOp .eql T x y yt, ty, pos, aft, gd⟩).run P w = .ok (.value (.bool (decide (s = t)))) w := by
  unfold execOp
  simp [hx, hy, eqGuard, binOp_string_eql, ← eql_bool]
set_option maxHeartbeats 2000000 in
set_option maxRecDepth 100000 in
theorem tiRun_any (g : Grid) (base : Nat) (s : ByteArray) (sl : Value) (w : World) (hg : Cel g) (hs : wordB s = true) (h1 : 0 < g.c.length) (hb : base ≤ w.heap.size) (hown : w.ownsRow base 5 1 sl g.c.length (cellsV g.c)) :
    Calls Tryz.prog 75 #[.agg (tg g.w g.h sl), .string s] w fun e w' => Gr w w' ∧ ∃ sl', e = .returned (.agg (tg g.w g.h sl')) ∧ w'.ownsRow base 5 1 sl' g.c.length (cellsV (runG (wds s) g).c) := by
  have gg := Gr.refl w
  have h40 := (wordB_iff.1 hs).1
  have hone := own_one hown
  obtain ⟨W, hW⟩ : ∃ W, W = g.w := ⟨_, rfl⟩
  obtain ⟨H, hH⟩ : ∃ H, H = g.h := ⟨_, rfl⟩
  obtain ⟨N, hN⟩ : ∃ N, N = g.c.length := ⟨_, rfl⟩
  rw [← hN] at h1 hown ⊢
  have hN1 : N = nn g.w g.h := by rw [hN, hg.len]
  have HS := hidI (fun j (hj : j < s.size) => wds_at hs hj)
  have HR := hidI (show ∀ j, Cel (runG ((wds s).take j) g) ∧ (runG ((wds s).take j) g).w = W ∧ (runG ((wds s).take j) g).h = H ∧ (runG ((wds s).take j) g).c.length = N from fun j => by
    have hc := hg.run ((wds s).take j) (fun d hd => wds_lt hs d (List.mem_of_mem_take hd))
    obtain ⟨e1, e2⟩ := runG_w ((wds s).take j) g
    exact ⟨hc, e1.trans hW.symm, e2.trans hH.symm, by rw [hc.len, e1, e2, hN1]⟩)
  have HE := hidI (show runG ((wds s).take s.size) g = runG (wds s) g from by rw [List.take_of_length_le (by rw [wds_length]; omega)])
  rw [← hW, ← hH]
  clear hs hg hW hH hN hN1
  have own0 : w.ownsRow base 5 1 sl N (cellsV (runG ((wds s).take 0) g).c) := hown
  go_enter Tryz.func75, Tryz.ntmps75
  go_wp2_with (first | (refine r_box 60 _ (tg (W) (H) (sl)) rfl rfl ?_; intro w1 B1 N1; have g1 := N1.gr; have b1 : Blk w1 B1 (tg (W) (H) (sl)) 60 := N1.blk; have l1 := N1.lo; have t1 := N1.hi; have z1 := g1.size; have gg := gg.trans g1; clear N1; obtain ⟨b1_0, b1_1, b1_2⟩ := tcells b1) | (refine r_alloc 60 _ Tryz.tzero rfl ?_; intro w2 B2 N2; have g2 := N2.gr; have b2 : Blk w2 B2 (tg 0 0 (.slice none 0 0)) 60 := N2.blk; have l2 := N2.lo; have t2 := N2.hi; have z2 := g2.size; have b1 := g2.blk b1; obtain ⟨b1_0, b1_1, b1_2⟩ := tcells b1; have gg := gg.trans g2; clear N2; obtain ⟨b2_0, b2_1, b2_2⟩ := tcells b2))
  have own0 := g2.row (g1.row own0)
  go_loopw [5] (fun iv wr => ∃ (j : Nat) (sl : Value), j ≤ s.size ∧ iv = .int .i64 j ∧ Blk wr B1 (tg W H sl) 60 ∧ Blk wr B2 (tg 0 0 (.slice none 0 0)) 60 ∧ wr.ownsRow base 5 1 sl N (cellsV (runG ((wds s).take j) g).c) ∧ Gr w wr) (fun iv _ => s.size - (intOf iv).toNat)
  case atStart => exact ⟨0, sl, Nat.zero_le _, rfl, b1, b2, own0, gg⟩
  case round =>
    obtain ⟨j, sl, hj, rfl, b1, b2, own, gg⟩ := hrel
    have lo1 : w.heap.size ≤ B1 := by omega
    have lo2 : w.heap.size ≤ B2 := by omega
    have zr := gg.size
    by_cases hlt : j < s.size
    · have hssub := Tryz.ssub s j hlt
      obtain ⟨d, h4, hat, hdi, -, htk⟩ := HS.out j hlt
      have hbs : s[j]'hlt = dB d := by
        rw [← hat, ByteArray.getElem_eq_getElem_data]
        show _ = s.data.toList.getD j 0
        rw [List.getD_eq_getElem?_getD, List.getElem?_eq_getElem (by rw [show s.data.toList.length = s.size from Array.length_toList]; exact hlt)]
        simp
      rw [hbs] at hssub
      have HDR := hidI (fun w => show Calls Tryz.prog 96 #[.string ⟨#[dB d]⟩] w (Ret (.int .i64 d) w) from (show dS ⟨#[dB d]⟩ = (d : Int) from hdi) ▸ tiDir_any ⟨#[dB d]⟩ w)
      obtain ⟨hc, hw, hh, hl⟩ := HR.out j
      have HT := hidI (runG_take g htk)
      obtain ⟨q, hq⟩ : ∃ q, q = runG ((wds s).take j) g := ⟨_, rfl⟩
      rw [← hq] at hc hw hh hl own HT
      have HTT := fun (w : World) (sl : Value) (own : w.ownsRow base 5 1 sl q.c.length (cellsV q.c)) => tiTilt_any q base d sl w hc h4 (by rw [hl]; exact h1) own
      rw [hw, hh, hl] at HTT
      have HTT := hidI HTT
      have HCL := hidI (show (tiltG d q).c.length = N from by have := (hc.tilt h4).len; rw [this]; show nn q.w q.h = N; rw [← hc.len, hl])
      have hone := own_one own
      clear hbs hat hdi hc hw hh hl hq htk
      generalize dB d = b at *
      go_wp2
      have gd := (Gr.refl wr).drew
      have b1 := gd.blk b1
      have b2 := gd.blk b2
      have own := gd.row own
      have gg := gg.trans gd
      have zd := gd.size
      refine F_begin (fun w => Blk w B1 (tg W H sl) 60) 8 9 #[false, false, false, false, false, false, false, false, false] rfl (by kernel_rfl) (by kernel_rfl) ?_
      generalize wr.drew = wd at *
      refine F_take (v := .agg (tg W H sl)) 0 #[true, false, false, false, false, false, false, false, false] rfl (by kernel_rfl) (fun _ _ _ h => h) rfl (fun w hF => e_load_row 60 (.tmp 2) B1 _ _ _ rfl hF Tryz.underlying60 rfl Tryz.tinfo) (b1) ?_; simp only [Act.put, List.setIfInBounds_toArray, List.set_cons_succ, List.set_cons_zero]
      refine F_free (v := .string s) 1 #[true, true, false, false, false, false, false, false, false] rfl (by kernel_rfl) (fun _ _ _ h => h) rfl (fun _ => rfl) (b1) ?_; simp only [Act.put, List.setIfInBounds_toArray, List.set_cons_succ, List.set_cons_zero]
      refine F_free (v := .int .i64 j) 2 #[true, true, true, false, false, false, false, false, false] rfl (by kernel_rfl) (fun _ _ _ h => h) rfl (fun _ => rfl) (b1) ?_; simp only [Act.put, List.setIfInBounds_toArray, List.set_cons_succ, List.set_cons_zero]
      refine F_free (v := .int .i64 j) 3 #[true, true, true, true, false, false, false, false, false] rfl (by kernel_rfl) (fun _ _ _ h => h) rfl (fun _ => rfl) (b1) ?_; simp only [Act.put, List.setIfInBounds_toArray, List.set_cons_succ, List.set_cons_zero]
      refine F_free (v := .int .i64 ((j : Int) + 1)) 4 #[true, true, true, true, true, false, false, false, false] rfl (by kernel_rfl) (fun _ _ _ h => h) rfl (fun _ => e_add _ _ _ _ _ rfl rfl rfl (by omega)) (b1) ?_; simp only [Act.put, List.setIfInBounds_toArray, List.set_cons_succ, List.set_cons_zero]
      refine F_free (v := .string ⟨#[b]⟩) 5 #[true, true, true, true, true, true, false, false, false] rfl (by kernel_rfl) (fun _ _ _ h => h) rfl (fun _ => e_val _ _ (hssub _)) (b1) ?_; simp only [Act.put, List.setIfInBounds_toArray, List.set_cons_succ, List.set_cons_zero]
      refine F_one 6 #[true, true, true, true, true, true, true, false, false] rfl (by kernel_rfl) ?_
      refine r_call 96 [.tmp 17] _ [.string ⟨#[b]⟩] (.int .i64 d) (fun w' => Gr wd w') Tryz.call96 rfl rfl (HDR.out wd) ?_
      intro w3 g3
      have b1 := g3.blk b1
      have b2 := g3.blk b2
      have own := g3.row own
      have gg := gg.trans g3
      have z3 := g3.size
      refine ⟨fun _ => b1, ?_⟩
      simp only [Act.put, List.setIfInBounds_toArray, List.set_cons_succ, List.set_cons_zero]
      refine F_one 7 #[true, true, true, true, true, true, true, true, false] rfl (by kernel_rfl) ?_
      refine r_callx 59 [.tmp 12, .tmp 18] _ [.agg (tg W H sl), .int .i64 d] (fun v w' => Gr w3 w' ∧ ∃ s4, v = .agg (tg W H s4) ∧ w'.ownsRow w3.heap.size 5 1 s4 (tiltG d q).c.length (cellsV (tiltG d q).c)) Tryz.call59 rfl rfl ((HTT.out w3 sl own).mono (fun e w' ⟨h1, s4, h2, h3⟩ => ⟨_, h2, h1, s4, rfl, h3⟩)) ?_
      rintro v4 w4 ⟨g4, s4, rfl, own4⟩
      rw [HCL.out, ← HT.out] at own4
      have own4 := own_up own4 (show base ≤ w3.heap.size by omega)
      have b1 := g4.blk b1
      have b2 := g4.blk b2
      have gg := gg.trans g4
      have z4 := g4.size
      have hone4 := own_one own4
      refine ⟨fun _ => b1, ?_⟩
      simp only [Act.put, List.setIfInBounds_toArray, List.set_cons_succ, List.set_cons_zero]
      refine F_one 8 #[true, true, true, true, true, true, true, true, true] rfl (by kernel_rfl) ?_
      refine r_store_row 60 60 _ _ B1 rfl (tg W H s4) _ rfl b1 Tryz.tsize rfl (tg_one hone4) rfl ?_
      intro w6 u6 b16
      refine ⟨fun h => (by cases h), ?_⟩
      simp only [Act.put]
      refine F_done (by kernel_rfl) ?_
      have own6 := u6.row own4 (own_ne own4 b1 (by decide))
      have b26 := u6.blk b2 (by omega)
      have gg := u6.gr gg lo1
      go_wp2
      go_roundw
      case rel => exact ⟨j + 1, s4, by omega, by go_num, b16, b26, own6, gg⟩
      case measure => simp [intOf]; omega
    · obtain rfl : j = s.size := by omega
      rw [HE.out] at own
      have hone := own_one own
      clear hlt
      obtain ⟨b1_0, b1_1, b1_2⟩ := tcells b1
      obtain ⟨b2_0, b2_1, b2_2⟩ := tcells b2
      go_wp2_with (first | (refine r_load_row 60 _ _ rfl _ _ _ b1 Tryz.underlying60 rfl Tryz.tinfo rfl ?_) | (refine r_store_row 60 60 _ _ B2 rfl (tg W H sl) _ rfl b2 Tryz.tsize rfl (tg_one hone) rfl ?_; intro w6 u6 b26))
      have own6 := u6.row own (own_ne own b2 (by decide))
      refine bodyPost_ret (results_row rfl _ _ _ _ _ _ rfl b26 Tryz.underlying60 rfl Tryz.tinfo) rfl ?_
      exact ⟨u6.gr gg lo2, _, rfl, own6⟩
def swOk (l : List UInt8) (v u : ByteArray) : Bool := rdOk l && wordB v && wordB u
def swB (l : List UInt8) (v u : ByteArray) : Bool := if swOk l v u then sameB (runG (wds v) (rdG l)) (runG (wds u) (rdG l)) else false
theorem fin_bb {a b c d : Bool} (h1 : a = c) (h2 : b = d) : Ending.returned (.tuple #[.bool a, .bool b]) = .returned (.tuple #[.bool c, .bool d]) := by rw [h1, h2]
end Go.Proofs.YtdebiobhmpoiiaaGreatDoor
