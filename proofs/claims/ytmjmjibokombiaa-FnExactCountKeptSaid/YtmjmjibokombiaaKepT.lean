/-
  How many trays a move keeps: the program's table, and its answer.
-/
import Derived.Test.YtmjmjibokombiaaKepI
namespace Go.Proofs.Ytmjmjibokombiaa
open Go.RowKit
def upK (T : Nat → Nat → Nat) (a b x : Nat) (c d : Nat) : Nat := if c = a ∧ d = b then x else T c d
theorem tabL_upK (T : Nat → Nat → Nat) {a b : Nat} (ha : a < 37) (hb : b < 37) (x : Nat) : (tabL T).set (a * 37 + b) (.int .i64 (x : Nat)) = tabL (upK T a b x) :=
  tabL_set T _ ha hb x fun _ _ _ _ => rfl
theorem upK_upK (T : Nat → Nat → Nat) (a b x y : Nat) : upK (upK T a b x) a b y = upK T a b y := by
  funext c d
  unfold upK
  by_cases h : c = a ∧ d = b
  · rw [if_pos h, if_pos h]
  · rw [if_neg h, if_neg h, if_neg h]
theorem upK_self (T : Nat → Nat → Nat) (a b : Nat) : upK T a b (T a b) = T := by
  funext c d
  unfold upK
  split
  · rename_i h
    rw [h.1, h.2]
  · rfl
theorem upK_next (L : List Nat) {A B k a b : Nat} (ha : a ≤ A) (hb : b ≤ B) : upK (ktT L A B k (a + 1) (b + 1)) a b (dpK L (k + 1) a b) = ktT L A B k (a + 1) b := by
  funext c d
  exact (ktT_next L ha hb c d).symm
def tbV (T : Nat → Nat → Nat) : Array Value := (tabL T).toArray
theorem tbV_size (T : Nat → Nat → Nat) : (tbV T).size = 1369 := by unfold tbV; rw [List.size_toArray, tabL_length]
theorem tbV_get (T : Nat → Nat → Nat) {a b : Nat} (ha : a < 37) (hb : b < 37) : (tbV T)[a * 37 + b]? = some (.int .i64 (T a b : Nat)) := by
  unfold tbV
  rw [List.getElem?_toArray]
  exact tabL_get T ha hb
theorem tbV_set (T : Nat → Nat → Nat) {a b : Nat} (ha : a < 37) (hb : b < 37) (x : Nat) : (tbV T).setIfInBounds (a * 37 + b) (.int .i64 (x : Nat)) = tbV (upK T a b x) := by
  unfold tbV
  rw [List.setIfInBounds_toArray, tabL_upK T ha hb]
theorem cyc_vals {T : TypeId} {base : Nat} {p : List Nat} {vs : List Value} {w : World} (h : RowsK T base (zzz (cyL p p.length)) 1 0 vs w) {j : Nat} (hj : j < (szs p).length) : ∃ pv kv, vs[j]? = some (.slice pv ((szs p).getD j 0) kv) := by
  have hj2 : j < (cyL p p.length).length := by unfold szs at hj; rwa [List.length_map] at hj
  have e : (zzz (cyL p p.length))[j]? = some (zz ((cyL p p.length)[j])) := by
    unfold zzz
    rw [List.getElem?_map, List.getElem?_eq_getElem hj2]
    rfl
  obtain ⟨v, hv, ov⟩ := h.at' j _ e
  obtain ⟨pv, nv, kv, rfl⟩ := own_slice ov
  have hl : nv = (zz ((cyL p p.length)[j])).length := own_len ov
  refine ⟨pv, kv, ?_⟩
  rw [hv, hl, zz_length]
  unfold szs
  rw [List.getD_eq_getElem?_getD, List.getElem?_map, List.getElem?_eq_getElem hj2]
  rfl
theorem ktT_rowF (L : List Nat) (A B k u : Nat) : ktT L A B k (u + 1) 0 = ktT L A B k u (B + 1) := by
  funext c d
  exact ktT_row L A B k u c d
theorem ktT_endF (L : List Nat) (A B k : Nat) : ktT L A B k 0 (B + 1) = ktT L A B (k + 1) (A + 1) (B + 1) := by
  funext c d
  exact ktT_end L A B k c d
theorem Try.kzero (w : World) : (zeroValue 47).run Try.prog w = .ok (.agg (tbV fun _ _ => 0)) w := by kernel_rfl
theorem Try.kixA (B k : Nat) (hk : k < 37) (w : World) : (Instr.indexAt 47 (.pointer (some ⟨B, 0, none⟩)) (.int .i64 k)).run Try.prog w = .ok (.pointer (some ⟨B, k * 37, none⟩)) w := by
  have hl : Try.prog.arrayLen 47 = 37 := by kernel_rfl
  have he : Try.prog.elem 47 = 46 := by kernel_rfl
  rw [run_indexAt_array w 47 ⟨B, 0, none⟩ .i64 k (by rw [hl, he]; exact Try.underlying47), if_pos (by rw [hl]; omega), he]
  have hs : (sizeOf 46).run Try.prog w = .ok 37 w := by kernel_rfl
  simp [hs, Result.andThen, Addr.add]
  exact fun h => h.symm
theorem Try.kixB (B o k : Nat) (hk : k < 37) (w : World) : (Instr.indexAt 46 (.pointer (some ⟨B, o, none⟩)) (.int .i64 k)).run Try.prog w = .ok (.pointer (some ⟨B, o + k, none⟩)) w := by
  have hl : Try.prog.arrayLen 46 = 37 := by kernel_rfl
  have he : Try.prog.elem 46 = 3 := by kernel_rfl
  rw [run_indexAt_array w 46 ⟨B, o, none⟩ .i64 k (by rw [hl, he]; exact Try.underlying46), if_pos (by rw [hl]; omega), he]
  have hs : (sizeOf 3).run Try.prog w = .ok 1 w := by kernel_rfl
  simp [hs, Result.andThen, Addr.add]
theorem Try.kix2 (B n cap x : Nat) (hx : x < n) (w : World) : (Instr.indexAt 48 (.slice (some ⟨B, 0, none⟩) n cap) (.int .i64 x)).run Try.prog w = .ok (.pointer (some ⟨B, x, none⟩)) w := by
  have he : Try.prog.elem 48 = 34 := by kernel_rfl
  have hu : Try.prog.underlying 48 = some (.slice (Try.prog.elem 48)) := by rw [he]; exact Try.underlying48
  have hs : (sizeOf 34).run Try.prog w = .ok 1 w := by kernel_rfl
  rw [run_indexAt_slice w 48 ⟨B, 0, none⟩ n cap .i64 x hu, if_pos (by omega), he]
  simp [hs, Result.andThen, add_flat]
set_option maxHeartbeats 4000000 in
set_option maxRecDepth 100000 in
theorem countKept_any (W H A B k : Nat) (w : World) (hg : PmG W H k) (h1 : 1 ≤ W) (h2 : 1 ≤ H) (hw : W ≤ 7) (hh : H ≤ 7) (n36 : nn W H ≤ 36) (hk : k < 8) (hs : szs (pmP W H k) = szs (pmM W H k)) (hA : A ≤ 36) (hB : B ≤ 36) :
    Calls Try.prog 18 #[.agg (fv W H A B), .int .i64 k] w (Ret (.int .i64 (dpK (szs (pmM W H k)) (szs (pmM W H k)).length A B : Nat)) w) := by
  have gg := Gr.refl w
  have HCB := hidI (fun w' => cellsBehind_any W H A B k w' hg h1 h2 hw hh n36 hk)
  have hlt0 : ∀ i, i < (pmP W H k).length → (pmP W H k).getD i 0 < (pmP W H k).length := fun i hi => by
    have := hg.p ((pmP W H k).getD i 0) (by rw [List.getD_eq_getElem?_getD, List.getElem?_eq_getElem hi]; exact List.getElem_mem hi)
    rw [hg.pl]
    exact this
  have HCY := hidI (fun (pv : Value) (b0 : Nat) w' (ho : w'.ownsRow b0 3 1 pv (pmP W H k).length (intsV (zz (pmP W H k)))) => cyclesOf_any (pmP W H k) b0 pv w' hlt0 (by rw [hg.pl]; exact n36) ho)
  obtain ⟨Z, hZ⟩ : ∃ Z, Z = szs (pmM W H k) := ⟨_, rfl⟩
  obtain ⟨p, hp⟩ : ∃ p, p = pmP W H k := ⟨_, rfl⟩
  obtain ⟨m, hm⟩ : ∃ m, m = Z.length := ⟨_, rfl⟩
  have hm36 : m ≤ 36 := by rw [hm, hZ]; exact hg.le
  rw [← hp] at hs HCB HCY
  rw [← hZ] at hs ⊢
  have HZ1 := hidI (fun j (hj : j < m) => show 1 ≤ Z.getD j 0 from hg.one _ (by rw [← hZ, List.getD_eq_getElem?_getD, List.getElem?_eq_getElem (by omega)]; exact List.getElem_mem _))
  have HCV := hidI (fun (vs : List Value) (base : Nat) (w' : World) (h : RowsK 3 base (zzz (cyL p p.length)) 1 0 vs w') j (hj : j < m) => show ∃ pv kv, vs[j]? = some (.slice pv (Z.getD j 0) kv) from by
    have := cyc_vals h (j := j) (by rw [hs]; omega)
    rwa [hs] at this)
  have HML := hidI (show (zzz (cyL p p.length)).length = m from by
    rw [zzz_length, hm, ← hs]
    unfold szs
    rw [List.length_map])
  rw [← hm]
  have HB36 := hidI (fun j (hj : j ≤ m) a b => dpK_le36 Z (k := j) (by omega) a b)
  have HDP := hidI (fun j a b => show dpK Z (j + 1) a b = dpK Z j a b + (if Z.getD j 0 ≤ a then dpK Z j (a - Z.getD j 0) b else 0) + (if Z.getD j 0 ≤ b then dpK Z j a (b - Z.getD j 0) else 0) from rfl)
  have HT0 := hidI (show upK (fun _ _ => 0) 0 0 1 = ktT Z A B 0 (A + 1) (B + 1) from by
    funext c d
    rw [ktT_zero]
    rfl)
  clear hZ hp hm hs hlt0 hg h1 h2 hw hh n36 hk
  go_enter Try.func18, Try.ntmps18
  go_wp2_with (first | (refine r_box 30 _ (fv W H A B) rfl rfl ?_; intro w1 B1 N1; have g1 := N1.gr; have z1 := g1.size; have b1 : Blk w1 B1 (fv W H A B) 30 := N1.blk; have t1 := b1.lt; have l1 := N1.lo; have gg := gg.trans g1; clear N1) | (refine r_alloc 47 _ Try.kzero rfl ?_; intro w5 B5 N5; have g5 := N5.gr; have b5 : Blk w5 B5 (tbV fun _ _ => 0) 47 := N5.blk; have l5 := N5.lo; have t5 := N5.hi; have z5 := g5.size; have b1 := g5.blk b1; have gg := gg.trans g5; clear N5) | (refine r_store_cell 3 47 _ _ B5 0 rfl (.int .i64 1) rfl _ b5 (by rw [tbV_size]; decide) Try.sizeOf3 rfl rfl ?_; intro w6 u6 b6; have b6 : Blk w6 B5 ((tbV fun _ _ => 0).setIfInBounds (0 * 37 + 0) (.int .i64 ((1 : Nat) : Int))) 47 := b6; rw [tbV_set (fun _ _ => 0) (a := 0) (b := 0) (by decide) (by decide) 1, HT0.out] at b6; have b1 := u6.blk b1 (by omega); have z6 := u6.size; have gg := u6.gr gg (by omega)) | (refine r_load_row 30 _ _ rfl _ _ _ b1 Try.underlying30 rfl (Try.finfo _ _ _ _) rfl ?_) | (go_at_call 27; refine (HCB.out _).mono ?_; rintro e w7 ⟨g7, pv, rfl, own7⟩; have b1 := g7.blk b1; have b6 := g7.blk b6; have z7 := g7.size; have gg := gg.trans g7) | (go_at_call 26; refine (HCY.out _ _ _ own7).mono ?_; rintro e w8 ⟨g8, v8, vs, rfl, own8, R8⟩; have b1 := g8.blk b1; have b6 := g8.blk b6; have z8 := g8.size; have gg := gg.trans g8; rw [HML.out] at own8; have HVS := hidI (HCV.out vs _ _ R8); clear R8 own7; obtain ⟨p8, n8, c8, rfl⟩ := own_slice own8; obtain rfl : m = n8 := (own_len own8).symm; have own8 := own_up own8 (show w.heap.size ≤ w7.heap.size by omega)))
  have lo5 : w.heap.size ≤ B5 := by omega
  have hB15 : B1 < B5 := by omega
  go_loopw [18] (fun iv wr => ∃ j : Nat, j ≤ m ∧ iv = .int .i64 j ∧ Blk wr B5 (tbV (ktT Z A B j (A + 1) (B + 1))) 47 ∧ Blk wr B1 (fv W H A B) 30 ∧ wr.ownsRow w.heap.size 34 1 (.slice p8 m c8) m vs ∧ Gr w wr) (fun iv _ => m - (intOf iv).toNat)
  case atStart => exact ⟨0, Nat.zero_le _, rfl, b6, b1, own8, gg⟩
  case round =>
    clear b1 b6 own8 gg
    obtain ⟨j, hj, rfl, b5, b1, own, gg⟩ := hrel
    by_cases hlt : j < m
    · obtain ⟨pv, kv, hv⟩ := HVS.out j hlt
      obtain ⟨G2, c9, e9, -, -⟩ := own_shape own (by omega)
      cases e9
      have cv := own_val own j _ hlt hv
      have hn1 := HZ1.out j hlt
      have HBJ := hidI (HB36.out j (by omega))
      have HBK := hidI (HB36.out (j + 1) hlt)
      have HDJ := hidI (HDP.out j)
      obtain ⟨n, hn⟩ : ∃ n, n = Z.getD j 0 := ⟨_, rfl⟩
      rw [← hn] at cv hn1 HDJ
      clear hn hv
      obtain ⟨b1_0, b1_1, b1_2, b1_3⟩ := fcells b1
      go_wp2_with (first | (refine r_idx 48 _ _ (.slice (some ⟨G2, 0, none⟩) m c8) (.int .i64 j) _ rfl rfl (Try.kix2 G2 m c8 j hlt _) rfl ?_) | (refine r_ldc 34 _ ⟨G2, j, none⟩ (.slice pv n kv) rfl (Try.isAgg34 _) cv rfl ?_))
      go_loopw [9] (fun av wp => ∃ u : Nat, u ≤ A + 1 ∧ av = .int .i64 ((u : Int) - 1) ∧ Blk wp B5 (tbV (ktT Z A B j u (B + 1))) 47 ∧ Blk wp B1 (fv W H A B) 30 ∧ wp.ownsRow w.heap.size 34 1 (.slice (some ⟨G2, 0, none⟩) m c8) m vs ∧ Gr w wp) (fun av _ => (intOf av + 1).toNat)
      case atStart => exact ⟨A + 1, Nat.le_refl _, by rw [show ((A + 1 : Nat) : Int) - 1 = (A : Int) by omega], b5, b1, own, gg⟩
      case round =>
        clear b1 b5 own gg b1_0 b1_1 b1_2 b1_3 cv
        obtain ⟨u, hu, rfl, b5, b1, own, gg⟩ := hrel
        obtain ⟨b1_0, b1_1, b1_2, b1_3⟩ := fcells b1
        rcases Nat.eq_zero_or_pos u with hu0 | hu0
        · subst hu0
          rw [ktT_endF] at b5
          go_wp2
          go_roundw
          case rel => exact ⟨j + 1, by omega, by go_num, b5, b1, own, gg⟩
          case measure => first | (simp [intOf]; done) | (simp [intOf]; omega)
        · obtain ⟨a, rfl⟩ : ∃ a, u = a + 1 := ⟨u - 1, by omega⟩
          have ha : a ≤ A := by omega
          have ha37 : a < 37 := by omega
          rw [show ((a + 1 : Nat) : Int) - 1 = (a : Int) by omega]
          go_wp2
          go_loopw [10] (fun bv wi => ∃ v : Nat, v ≤ B + 1 ∧ bv = .int .i64 ((v : Int) - 1) ∧ Blk wi B5 (tbV (ktT Z A B j (a + 1) v)) 47 ∧ Blk wi B1 (fv W H A B) 30 ∧ wi.ownsRow w.heap.size 34 1 (.slice (some ⟨G2, 0, none⟩) m c8) m vs ∧ Gr w wi) (fun bv _ => (intOf bv + 1).toNat)
          case atStart => exact ⟨B + 1, Nat.le_refl _, by rw [show ((B + 1 : Nat) : Int) - 1 = (B : Int) by omega], b5, b1, own, gg⟩
          case round =>
            clear b1 b5 own gg b1_0 b1_1 b1_2 b1_3
            obtain ⟨v, hv, rfl, b5, b1, own, gg⟩ := hrel
            rcases Nat.eq_zero_or_pos v with hv0 | hv0
            · subst hv0
              rw [ktT_rowF] at b5
              go_wp2
              go_roundw
              case rel => exact ⟨a, by omega, by go_num, b5, b1, own, gg⟩
              case measure => first | (simp [intOf]; done) | (simp [intOf]; omega)
            · obtain ⟨b, rfl⟩ : ∃ b, v = b + 1 := ⟨v - 1, by omega⟩
              have hb : b ≤ B := by omega
              have hb37 : b < 37 := by omega
              rw [show ((b + 1 : Nat) : Int) - 1 = (b : Int) by omega]
              have HFIN := hidI (fun x (hx : x = dpK Z (j + 1) a b) => show upK (ktT Z A B j (a + 1) (b + 1)) a b x = ktT Z A B j (a + 1) b from by rw [hx]; exact upK_next Z ha hb)
              have HTA := hidI (ktT_old Z (A := A) (B := B) (k := j) (u := a + 1) (v := b + 1) (a := a) (b := b) ha hb (by omega))
              have HTB := hidI (fun (h : n ≤ a) => ktT_old Z (A := A) (B := B) (k := j) (u := a + 1) (v := b + 1) (a := a - n) (b := b) (by omega) hb (by omega))
              have HTC := hidI (fun (h : n ≤ b) => ktT_old Z (A := A) (B := B) (k := j) (u := a + 1) (v := b + 1) (a := a) (b := b - n) ha (by omega) (by omega))
              have HDQ := hidI (HDJ.out a b)
              obtain ⟨T, hT⟩ : ∃ T, T = ktT Z A B j (a + 1) (b + 1) := ⟨_, rfl⟩
              rw [← hT] at b5 HFIN HTA HTB HTC
              obtain ⟨X0, hX0⟩ : ∃ X0, X0 = dpK Z j a b := ⟨_, rfl⟩
              have hX0b := HBJ.out a b
              rw [← hX0] at hX0b HTA HDQ
              have HL0 := hidI (fun (w' : World) (h : Blk w' B5 (tbV T) 47) => show w'.cell? ⟨B5, a * 37 + b, none⟩ = some (.int .i64 (X0 : Nat)) from by rw [h.cell, tbV_get _ ha37 hb37, HTA.out])
              clear hT hX0
              by_cases hna : n ≤ a
              · obtain ⟨c, hc⟩ : ∃ c, c = a - n := ⟨_, rfl⟩
                have hc37 : c < 37 := by omega
                have HC := hidI (show (a : Int) - (n : Int) = (c : Int) from by omega)
                have HTV := HTB.out hna
                rw [← hc] at HTV
                rw [if_pos hna, ← hc] at HDQ
                obtain ⟨Y1, hY1⟩ : ∃ Y1, Y1 = dpK Z j c b := ⟨_, rfl⟩
                have hY1b := HBJ.out c b
                rw [← hY1] at hY1b HTV HDQ
                have HL1 := hidI (fun (w' : World) (h : Blk w' B5 (tbV T) 47) => show w'.cell? ⟨B5, c * 37 + b, none⟩ = some (.int .i64 (Y1 : Nat)) from by rw [h.cell, tbV_get _ hc37 hb37, HTV])
                obtain ⟨X1, hX1⟩ : ∃ X1, X1 = X0 + Y1 := ⟨_, rfl⟩
                have HX1 := hidI (show (X0 : Int) + (Y1 : Int) = (X1 : Int) from by omega)
                rw [← hX1] at HDQ
                have hX1b : X1 ≤ 300189270593998242 := by omega
                have HV0 := hidI (show upK T a b X1 a b = X1 from by unfold upK; rw [if_pos ⟨rfl, rfl⟩])
                have HV2 := hidI (fun d (h : d ≠ b) => show upK T a b X1 a d = T a d from by unfold upK; rw [if_neg (by omega)])
                clear hc hY1 hX1 HTV
                by_cases hnb : n ≤ b
                · obtain ⟨d, hd⟩ : ∃ d, d = b - n := ⟨_, rfl⟩
                  have hd37 : d < 37 := by omega
                  have HD := hidI (show (b : Int) - (n : Int) = (d : Int) from by omega)
                  have HTV := HTC.out hnb
                  rw [← hd] at HTV
                  rw [if_pos hnb, ← hd] at HDQ
                  obtain ⟨Y2, hY2⟩ : ∃ Y2, Y2 = dpK Z j a d := ⟨_, rfl⟩
                  have hY2b := HBJ.out a d
                  rw [← hY2] at hY2b HTV HDQ
                  have HV1 := hidI (show upK T a b X1 a d = Y2 from by rw [HV2.out d (by omega), HTV])
                  obtain ⟨X2, hX2⟩ : ∃ X2, X2 = X1 + Y2 := ⟨_, rfl⟩
                  have HX2 := hidI (show (X1 : Int) + (Y2 : Int) = (X2 : Int) from by omega)
                  rw [← hX2] at HDQ
                  have hX2b : X2 ≤ 450283905890997363 := by omega
                  clear hd hY2 hX2 HTV
                  go_wp2
                  refine F_begin (fun w => Blk w B5 (tbV T) 47) 15 16 #[false, false, false, false, false, false, false, false, false, false, false, false, false, false, false, false] rfl (by kernel_rfl) (by kernel_rfl) ?_
                  have gd := (Gr.refl wr).drew
                  have b5 := gd.blk b5
                  have b1 := gd.blk b1
                  have own := gd.row own
                  have gg := gg.trans gd
                  generalize wr.drew = wd at *
                  refine F_free (v := .int .i64 a) 0 #[true, false, false, false, false, false, false, false, false, false, false, false, false, false, false, false] rfl (by kernel_rfl) (fun _ _ _ h => h) rfl (fun _ => rfl) (b5) ?_; simp only [Act.put, List.setIfInBounds_toArray, List.set_cons_succ, List.set_cons_zero]
                  refine F_free (v := .int .i64 b) 1 #[true, true, false, false, false, false, false, false, false, false, false, false, false, false, false, false] rfl (by kernel_rfl) (fun _ _ _ h => h) rfl (fun _ => rfl) (b5) ?_; simp only [Act.put, List.setIfInBounds_toArray, List.set_cons_succ, List.set_cons_zero]
                  refine F_free (v := .pointer (some ⟨B5, a * 37, Option.none⟩)) 2 #[true, true, true, false, false, false, false, false, false, false, false, false, false, false, false, false] rfl (by kernel_rfl) (fun _ _ _ h => h) rfl (fun _ => e_idxK _ _ _ _ _ rfl rfl (Try.kixA B5 a ha37 _)) (b5) ?_; simp only [Act.put, List.setIfInBounds_toArray, List.set_cons_succ, List.set_cons_zero]
                  refine F_free (v := .pointer (some ⟨B5, a * 37 + b, Option.none⟩)) 3 #[true, true, true, true, false, false, false, false, false, false, false, false, false, false, false, false] rfl (by kernel_rfl) (fun _ _ _ h => h) rfl (fun _ => e_idxK _ _ _ _ _ rfl rfl (Try.kixB B5 (a * 37) b hb37 _)) (b5) ?_; simp only [Act.put, List.setIfInBounds_toArray, List.set_cons_succ, List.set_cons_zero]
                  refine F_take (v := .int .i64 X0) 4 #[true, true, true, true, true, false, false, false, false, false, false, false, false, false, false, false] rfl (by kernel_rfl) (fun _ _ _ h => h) rfl (fun w hF => e_load 3 (.tmp 42) _ _ rfl (Try.isAgg3 _) (HL0.out _ hF)) (b5) ?_; simp only [Act.put, List.setIfInBounds_toArray, List.set_cons_succ, List.set_cons_zero]
                  refine F_free (v := .int .i64 a) 5 #[true, true, true, true, true, true, false, false, false, false, false, false, false, false, false, false] rfl (by kernel_rfl) (fun _ _ _ h => h) rfl (fun _ => rfl) (b5) ?_; simp only [Act.put, List.setIfInBounds_toArray, List.set_cons_succ, List.set_cons_zero]
                  refine F_free (v := .int .i64 n) 6 #[true, true, true, true, true, true, true, false, false, false, false, false, false, false, false, false] rfl (by kernel_rfl) (fun _ _ _ h => h) rfl (fun _ => rfl) (b5) ?_; simp only [Act.put, List.setIfInBounds_toArray, List.set_cons_succ, List.set_cons_zero]
                  refine F_free (v := .int .i64 c) 7 #[true, true, true, true, true, true, true, true, false, false, false, false, false, false, false, false] rfl (by kernel_rfl) (fun _ _ _ h => h) rfl (fun _ => e_subF' _ _ (a : Int) (n : Int) (c : Int) rfl rfl HC.out (by omega)) (b5) ?_; simp only [Act.put, List.setIfInBounds_toArray, List.set_cons_succ, List.set_cons_zero]
                  refine F_free (v := .int .i64 b) 8 #[true, true, true, true, true, true, true, true, true, false, false, false, false, false, false, false] rfl (by kernel_rfl) (fun _ _ _ h => h) rfl (fun _ => rfl) (b5) ?_; simp only [Act.put, List.setIfInBounds_toArray, List.set_cons_succ, List.set_cons_zero]
                  refine F_free (v := .pointer (some ⟨B5, c * 37, Option.none⟩)) 9 #[true, true, true, true, true, true, true, true, true, true, false, false, false, false, false, false] rfl (by kernel_rfl) (fun _ _ _ h => h) rfl (fun _ => e_idxK _ _ _ _ _ rfl rfl (Try.kixA B5 c hc37 _)) (b5) ?_; simp only [Act.put, List.setIfInBounds_toArray, List.set_cons_succ, List.set_cons_zero]
                  refine F_free (v := .pointer (some ⟨B5, c * 37 + b, Option.none⟩)) 10 #[true, true, true, true, true, true, true, true, true, true, true, false, false, false, false, false] rfl (by kernel_rfl) (fun _ _ _ h => h) rfl (fun _ => e_idxK _ _ _ _ _ rfl rfl (Try.kixB B5 (c * 37) b hb37 _)) (b5) ?_; simp only [Act.put, List.setIfInBounds_toArray, List.set_cons_succ, List.set_cons_zero]
                  refine F_take (v := .int .i64 Y1) 11 #[true, true, true, true, true, true, true, true, true, true, true, true, false, false, false, false] rfl (by kernel_rfl) (fun _ _ _ h => h) rfl (fun w hF => e_load 3 (.tmp 49) _ _ rfl (Try.isAgg3 _) (HL1.out _ hF)) (b5) ?_; simp only [Act.put, List.setIfInBounds_toArray, List.set_cons_succ, List.set_cons_zero]
                  refine F_free (v := .int .i64 X1) 12 #[true, true, true, true, true, true, true, true, true, true, true, true, true, false, false, false] rfl (by kernel_rfl) (fun _ _ _ h => h) rfl (fun _ => e_addK _ _ (X0 : Int) (Y1 : Int) (X1 : Int) rfl rfl HX1.out (by omega)) (b5) ?_; simp only [Act.put, List.setIfInBounds_toArray, List.set_cons_succ, List.set_cons_zero]
                  refine F_free (v := .pointer (some ⟨B5, a * 37, Option.none⟩)) 13 #[true, true, true, true, true, true, true, true, true, true, true, true, true, true, false, false] rfl (by kernel_rfl) (fun _ _ _ h => h) rfl (fun _ => e_idxK _ _ _ _ _ rfl rfl (Try.kixA B5 a ha37 _)) (b5) ?_; simp only [Act.put, List.setIfInBounds_toArray, List.set_cons_succ, List.set_cons_zero]
                  refine F_free (v := .pointer (some ⟨B5, a * 37 + b, Option.none⟩)) 14 #[true, true, true, true, true, true, true, true, true, true, true, true, true, true, true, false] rfl (by kernel_rfl) (fun _ _ _ h => h) rfl (fun _ => e_idxK _ _ _ _ _ rfl rfl (Try.kixB B5 (a * 37) b hb37 _)) (b5) ?_; simp only [Act.put, List.setIfInBounds_toArray, List.set_cons_succ, List.set_cons_zero]
                  refine F_one 15 #[true, true, true, true, true, true, true, true, true, true, true, true, true, true, true, true] rfl (by kernel_rfl) ?_
                  have hne := own_ne own b5 (by decide)
                  refine r_store_cell 3 47 _ _ B5 (a * 37 + b) rfl (.int .i64 X1) rfl _ b5 (by rw [tbV_size]; omega) Try.sizeOf3 rfl rfl ?_
                  intro w6 u6 b6
                  rw [tbV_set T ha37 hb37] at b6
                  have b1 := u6.blk b1 (by omega)
                  have own := u6.row own hne
                  have gg := u6.gr gg lo5
                  refine ⟨fun h => (by cases h), ?_⟩
                  simp only [Act.put]
                  refine F_done (by kernel_rfl) ?_
                  clear b5
                  have b5 := b6
                  clear b6
                  go_wp2
                  have HM0 := hidI (fun (w' : World) (h : Blk w' B5 (tbV (upK T a b X1)) 47) => show w'.cell? ⟨B5, a * 37 + b, none⟩ = some (.int .i64 (X1 : Nat)) from by rw [h.cell, tbV_get _ ha37 hb37, HV0.out])
                  have HM1 := hidI (fun (w' : World) (h : Blk w' B5 (tbV (upK T a b X1)) 47) => show w'.cell? ⟨B5, a * 37 + d, none⟩ = some (.int .i64 (Y2 : Nat)) from by rw [h.cell, tbV_get _ ha37 hd37, HV1.out])
                  refine F_begin (fun w => Blk w B5 (tbV (upK T a b X1)) 47) 15 16 #[false, false, false, false, false, false, false, false, false, false, false, false, false, false, false, false] rfl (by kernel_rfl) (by kernel_rfl) ?_
                  have gd := (Gr.refl w6).drew
                  have b5 := gd.blk b5
                  have b1 := gd.blk b1
                  have own := gd.row own
                  have gg := gg.trans gd
                  generalize (w6).drew = we at *
                  refine F_free (v := .int .i64 a) 0 #[true, false, false, false, false, false, false, false, false, false, false, false, false, false, false, false] rfl (by kernel_rfl) (fun _ _ _ h => h) rfl (fun _ => rfl) (b5) ?_; simp only [Act.put, List.setIfInBounds_toArray, List.set_cons_succ, List.set_cons_zero]
                  refine F_free (v := .int .i64 b) 1 #[true, true, false, false, false, false, false, false, false, false, false, false, false, false, false, false] rfl (by kernel_rfl) (fun _ _ _ h => h) rfl (fun _ => rfl) (b5) ?_; simp only [Act.put, List.setIfInBounds_toArray, List.set_cons_succ, List.set_cons_zero]
                  refine F_free (v := .pointer (some ⟨B5, a * 37, Option.none⟩)) 2 #[true, true, true, false, false, false, false, false, false, false, false, false, false, false, false, false] rfl (by kernel_rfl) (fun _ _ _ h => h) rfl (fun _ => e_idxK _ _ _ _ _ rfl rfl (Try.kixA B5 a ha37 _)) (b5) ?_; simp only [Act.put, List.setIfInBounds_toArray, List.set_cons_succ, List.set_cons_zero]
                  refine F_free (v := .pointer (some ⟨B5, a * 37 + b, Option.none⟩)) 3 #[true, true, true, true, false, false, false, false, false, false, false, false, false, false, false, false] rfl (by kernel_rfl) (fun _ _ _ h => h) rfl (fun _ => e_idxK _ _ _ _ _ rfl rfl (Try.kixB B5 (a * 37) b hb37 _)) (b5) ?_; simp only [Act.put, List.setIfInBounds_toArray, List.set_cons_succ, List.set_cons_zero]
                  refine F_take (v := .int .i64 X1) 4 #[true, true, true, true, true, false, false, false, false, false, false, false, false, false, false, false] rfl (by kernel_rfl) (fun _ _ _ h => h) rfl (fun w hF => e_load 3 (.tmp 60) _ _ rfl (Try.isAgg3 _) (HM0.out _ hF)) (b5) ?_; simp only [Act.put, List.setIfInBounds_toArray, List.set_cons_succ, List.set_cons_zero]
                  refine F_free (v := .int .i64 a) 5 #[true, true, true, true, true, true, false, false, false, false, false, false, false, false, false, false] rfl (by kernel_rfl) (fun _ _ _ h => h) rfl (fun _ => rfl) (b5) ?_; simp only [Act.put, List.setIfInBounds_toArray, List.set_cons_succ, List.set_cons_zero]
                  refine F_free (v := .int .i64 b) 6 #[true, true, true, true, true, true, true, false, false, false, false, false, false, false, false, false] rfl (by kernel_rfl) (fun _ _ _ h => h) rfl (fun _ => rfl) (b5) ?_; simp only [Act.put, List.setIfInBounds_toArray, List.set_cons_succ, List.set_cons_zero]
                  refine F_free (v := .int .i64 n) 7 #[true, true, true, true, true, true, true, true, false, false, false, false, false, false, false, false] rfl (by kernel_rfl) (fun _ _ _ h => h) rfl (fun _ => rfl) (b5) ?_; simp only [Act.put, List.setIfInBounds_toArray, List.set_cons_succ, List.set_cons_zero]
                  refine F_free (v := .int .i64 d) 8 #[true, true, true, true, true, true, true, true, true, false, false, false, false, false, false, false] rfl (by kernel_rfl) (fun _ _ _ h => h) rfl (fun _ => e_subF' _ _ (b : Int) (n : Int) (d : Int) rfl rfl HD.out (by omega)) (b5) ?_; simp only [Act.put, List.setIfInBounds_toArray, List.set_cons_succ, List.set_cons_zero]
                  refine F_free (v := .pointer (some ⟨B5, a * 37, Option.none⟩)) 9 #[true, true, true, true, true, true, true, true, true, true, false, false, false, false, false, false] rfl (by kernel_rfl) (fun _ _ _ h => h) rfl (fun _ => e_idxK _ _ _ _ _ rfl rfl (Try.kixA B5 a ha37 _)) (b5) ?_; simp only [Act.put, List.setIfInBounds_toArray, List.set_cons_succ, List.set_cons_zero]
                  refine F_free (v := .pointer (some ⟨B5, a * 37 + d, Option.none⟩)) 10 #[true, true, true, true, true, true, true, true, true, true, true, false, false, false, false, false] rfl (by kernel_rfl) (fun _ _ _ h => h) rfl (fun _ => e_idxK _ _ _ _ _ rfl rfl (Try.kixB B5 (a * 37) d hd37 _)) (b5) ?_; simp only [Act.put, List.setIfInBounds_toArray, List.set_cons_succ, List.set_cons_zero]
                  refine F_take (v := .int .i64 Y2) 11 #[true, true, true, true, true, true, true, true, true, true, true, true, false, false, false, false] rfl (by kernel_rfl) (fun _ _ _ h => h) rfl (fun w hF => e_load 3 (.tmp 67) _ _ rfl (Try.isAgg3 _) (HM1.out _ hF)) (b5) ?_; simp only [Act.put, List.setIfInBounds_toArray, List.set_cons_succ, List.set_cons_zero]
                  refine F_free (v := .int .i64 X2) 12 #[true, true, true, true, true, true, true, true, true, true, true, true, true, false, false, false] rfl (by kernel_rfl) (fun _ _ _ h => h) rfl (fun _ => e_addK _ _ (X1 : Int) (Y2 : Int) (X2 : Int) rfl rfl HX2.out (by omega)) (b5) ?_; simp only [Act.put, List.setIfInBounds_toArray, List.set_cons_succ, List.set_cons_zero]
                  refine F_free (v := .pointer (some ⟨B5, a * 37, Option.none⟩)) 13 #[true, true, true, true, true, true, true, true, true, true, true, true, true, true, false, false] rfl (by kernel_rfl) (fun _ _ _ h => h) rfl (fun _ => e_idxK _ _ _ _ _ rfl rfl (Try.kixA B5 a ha37 _)) (b5) ?_; simp only [Act.put, List.setIfInBounds_toArray, List.set_cons_succ, List.set_cons_zero]
                  refine F_free (v := .pointer (some ⟨B5, a * 37 + b, Option.none⟩)) 14 #[true, true, true, true, true, true, true, true, true, true, true, true, true, true, true, false] rfl (by kernel_rfl) (fun _ _ _ h => h) rfl (fun _ => e_idxK _ _ _ _ _ rfl rfl (Try.kixB B5 (a * 37) b hb37 _)) (b5) ?_; simp only [Act.put, List.setIfInBounds_toArray, List.set_cons_succ, List.set_cons_zero]
                  refine F_one 15 #[true, true, true, true, true, true, true, true, true, true, true, true, true, true, true, true] rfl (by kernel_rfl) ?_
                  have hne := own_ne own b5 (by decide)
                  refine r_store_cell 3 47 _ _ B5 (a * 37 + b) rfl (.int .i64 X2) rfl _ b5 (by rw [tbV_size]; omega) Try.sizeOf3 rfl rfl ?_
                  intro w7 u7 b7
                  rw [tbV_set _ ha37 hb37] at b7
                  have b1 := u7.blk b1 (by omega)
                  have own := u7.row own hne
                  have gg := u7.gr gg lo5
                  refine ⟨fun h => (by cases h), ?_⟩
                  simp only [Act.put]
                  refine F_done (by kernel_rfl) ?_
                  clear b5
                  have b5 := b7
                  clear b7
                  rw [upK_upK, HFIN.out X2 HDQ.out.symm] at b5
                  go_wp2
                  go_roundw
                  case rel => exact ⟨b, by omega, by go_num, b5, b1, own, gg⟩
                  case measure => first | (simp [intOf]; done) | (simp [intOf]; omega)
                · rw [if_neg hnb] at HDQ
                  simp only [Nat.add_zero] at HDQ
                  go_wp2
                  refine F_begin (fun w => Blk w B5 (tbV T) 47) 15 16 #[false, false, false, false, false, false, false, false, false, false, false, false, false, false, false, false] rfl (by kernel_rfl) (by kernel_rfl) ?_
                  have gd := (Gr.refl wr).drew
                  have b5 := gd.blk b5
                  have b1 := gd.blk b1
                  have own := gd.row own
                  have gg := gg.trans gd
                  generalize wr.drew = wd at *
                  refine F_free (v := .int .i64 a) 0 #[true, false, false, false, false, false, false, false, false, false, false, false, false, false, false, false] rfl (by kernel_rfl) (fun _ _ _ h => h) rfl (fun _ => rfl) (b5) ?_; simp only [Act.put, List.setIfInBounds_toArray, List.set_cons_succ, List.set_cons_zero]
                  refine F_free (v := .int .i64 b) 1 #[true, true, false, false, false, false, false, false, false, false, false, false, false, false, false, false] rfl (by kernel_rfl) (fun _ _ _ h => h) rfl (fun _ => rfl) (b5) ?_; simp only [Act.put, List.setIfInBounds_toArray, List.set_cons_succ, List.set_cons_zero]
                  refine F_free (v := .pointer (some ⟨B5, a * 37, Option.none⟩)) 2 #[true, true, true, false, false, false, false, false, false, false, false, false, false, false, false, false] rfl (by kernel_rfl) (fun _ _ _ h => h) rfl (fun _ => e_idxK _ _ _ _ _ rfl rfl (Try.kixA B5 a ha37 _)) (b5) ?_; simp only [Act.put, List.setIfInBounds_toArray, List.set_cons_succ, List.set_cons_zero]
                  refine F_free (v := .pointer (some ⟨B5, a * 37 + b, Option.none⟩)) 3 #[true, true, true, true, false, false, false, false, false, false, false, false, false, false, false, false] rfl (by kernel_rfl) (fun _ _ _ h => h) rfl (fun _ => e_idxK _ _ _ _ _ rfl rfl (Try.kixB B5 (a * 37) b hb37 _)) (b5) ?_; simp only [Act.put, List.setIfInBounds_toArray, List.set_cons_succ, List.set_cons_zero]
                  refine F_take (v := .int .i64 X0) 4 #[true, true, true, true, true, false, false, false, false, false, false, false, false, false, false, false] rfl (by kernel_rfl) (fun _ _ _ h => h) rfl (fun w hF => e_load 3 (.tmp 42) _ _ rfl (Try.isAgg3 _) (HL0.out _ hF)) (b5) ?_; simp only [Act.put, List.setIfInBounds_toArray, List.set_cons_succ, List.set_cons_zero]
                  refine F_free (v := .int .i64 a) 5 #[true, true, true, true, true, true, false, false, false, false, false, false, false, false, false, false] rfl (by kernel_rfl) (fun _ _ _ h => h) rfl (fun _ => rfl) (b5) ?_; simp only [Act.put, List.setIfInBounds_toArray, List.set_cons_succ, List.set_cons_zero]
                  refine F_free (v := .int .i64 n) 6 #[true, true, true, true, true, true, true, false, false, false, false, false, false, false, false, false] rfl (by kernel_rfl) (fun _ _ _ h => h) rfl (fun _ => rfl) (b5) ?_; simp only [Act.put, List.setIfInBounds_toArray, List.set_cons_succ, List.set_cons_zero]
                  refine F_free (v := .int .i64 c) 7 #[true, true, true, true, true, true, true, true, false, false, false, false, false, false, false, false] rfl (by kernel_rfl) (fun _ _ _ h => h) rfl (fun _ => e_subF' _ _ (a : Int) (n : Int) (c : Int) rfl rfl HC.out (by omega)) (b5) ?_; simp only [Act.put, List.setIfInBounds_toArray, List.set_cons_succ, List.set_cons_zero]
                  refine F_free (v := .int .i64 b) 8 #[true, true, true, true, true, true, true, true, true, false, false, false, false, false, false, false] rfl (by kernel_rfl) (fun _ _ _ h => h) rfl (fun _ => rfl) (b5) ?_; simp only [Act.put, List.setIfInBounds_toArray, List.set_cons_succ, List.set_cons_zero]
                  refine F_free (v := .pointer (some ⟨B5, c * 37, Option.none⟩)) 9 #[true, true, true, true, true, true, true, true, true, true, false, false, false, false, false, false] rfl (by kernel_rfl) (fun _ _ _ h => h) rfl (fun _ => e_idxK _ _ _ _ _ rfl rfl (Try.kixA B5 c hc37 _)) (b5) ?_; simp only [Act.put, List.setIfInBounds_toArray, List.set_cons_succ, List.set_cons_zero]
                  refine F_free (v := .pointer (some ⟨B5, c * 37 + b, Option.none⟩)) 10 #[true, true, true, true, true, true, true, true, true, true, true, false, false, false, false, false] rfl (by kernel_rfl) (fun _ _ _ h => h) rfl (fun _ => e_idxK _ _ _ _ _ rfl rfl (Try.kixB B5 (c * 37) b hb37 _)) (b5) ?_; simp only [Act.put, List.setIfInBounds_toArray, List.set_cons_succ, List.set_cons_zero]
                  refine F_take (v := .int .i64 Y1) 11 #[true, true, true, true, true, true, true, true, true, true, true, true, false, false, false, false] rfl (by kernel_rfl) (fun _ _ _ h => h) rfl (fun w hF => e_load 3 (.tmp 49) _ _ rfl (Try.isAgg3 _) (HL1.out _ hF)) (b5) ?_; simp only [Act.put, List.setIfInBounds_toArray, List.set_cons_succ, List.set_cons_zero]
                  refine F_free (v := .int .i64 X1) 12 #[true, true, true, true, true, true, true, true, true, true, true, true, true, false, false, false] rfl (by kernel_rfl) (fun _ _ _ h => h) rfl (fun _ => e_addK _ _ (X0 : Int) (Y1 : Int) (X1 : Int) rfl rfl HX1.out (by omega)) (b5) ?_; simp only [Act.put, List.setIfInBounds_toArray, List.set_cons_succ, List.set_cons_zero]
                  refine F_free (v := .pointer (some ⟨B5, a * 37, Option.none⟩)) 13 #[true, true, true, true, true, true, true, true, true, true, true, true, true, true, false, false] rfl (by kernel_rfl) (fun _ _ _ h => h) rfl (fun _ => e_idxK _ _ _ _ _ rfl rfl (Try.kixA B5 a ha37 _)) (b5) ?_; simp only [Act.put, List.setIfInBounds_toArray, List.set_cons_succ, List.set_cons_zero]
                  refine F_free (v := .pointer (some ⟨B5, a * 37 + b, Option.none⟩)) 14 #[true, true, true, true, true, true, true, true, true, true, true, true, true, true, true, false] rfl (by kernel_rfl) (fun _ _ _ h => h) rfl (fun _ => e_idxK _ _ _ _ _ rfl rfl (Try.kixB B5 (a * 37) b hb37 _)) (b5) ?_; simp only [Act.put, List.setIfInBounds_toArray, List.set_cons_succ, List.set_cons_zero]
                  refine F_one 15 #[true, true, true, true, true, true, true, true, true, true, true, true, true, true, true, true] rfl (by kernel_rfl) ?_
                  have hne := own_ne own b5 (by decide)
                  refine r_store_cell 3 47 _ _ B5 (a * 37 + b) rfl (.int .i64 X1) rfl _ b5 (by rw [tbV_size]; omega) Try.sizeOf3 rfl rfl ?_
                  intro w6 u6 b6
                  rw [tbV_set T ha37 hb37] at b6
                  have b1 := u6.blk b1 (by omega)
                  have own := u6.row own hne
                  have gg := u6.gr gg lo5
                  refine ⟨fun h => (by cases h), ?_⟩
                  simp only [Act.put]
                  refine F_done (by kernel_rfl) ?_
                  clear b5
                  have b5 := b6
                  clear b6
                  rw [HFIN.out X1 HDQ.out.symm] at b5
                  go_wp2
                  go_roundw
                  case rel => exact ⟨b, by omega, by go_num, b5, b1, own, gg⟩
                  case measure => first | (simp [intOf]; done) | (simp [intOf]; omega)
              · rw [if_neg hna] at HDQ
                simp only [Nat.add_zero] at HDQ
                by_cases hnb : n ≤ b
                · obtain ⟨d, hd⟩ : ∃ d, d = b - n := ⟨_, rfl⟩
                  have hd37 : d < 37 := by omega
                  have HD := hidI (show (b : Int) - (n : Int) = (d : Int) from by omega)
                  have HTV := HTC.out hnb
                  rw [← hd] at HTV
                  rw [if_pos hnb, ← hd] at HDQ
                  obtain ⟨Y2, hY2⟩ : ∃ Y2, Y2 = dpK Z j a d := ⟨_, rfl⟩
                  have hY2b := HBJ.out a d
                  rw [← hY2] at hY2b HTV HDQ
                  have HV0 := HTA
                  have HV1 := hidI HTV
                  obtain ⟨X2, hX2⟩ : ∃ X2, X2 = X0 + Y2 := ⟨_, rfl⟩
                  have HX2 := hidI (show (X0 : Int) + (Y2 : Int) = (X2 : Int) from by omega)
                  rw [← hX2] at HDQ
                  have hX2b : X2 ≤ 450283905890997363 := by omega
                  clear hd hY2 hX2 HTV
                  go_wp2
                  have HM0 := hidI (fun (w' : World) (h : Blk w' B5 (tbV (T)) 47) => show w'.cell? ⟨B5, a * 37 + b, none⟩ = some (.int .i64 (X0 : Nat)) from by rw [h.cell, tbV_get _ ha37 hb37, HV0.out])
                  have HM1 := hidI (fun (w' : World) (h : Blk w' B5 (tbV (T)) 47) => show w'.cell? ⟨B5, a * 37 + d, none⟩ = some (.int .i64 (Y2 : Nat)) from by rw [h.cell, tbV_get _ ha37 hd37, HV1.out])
                  refine F_begin (fun w => Blk w B5 (tbV (T)) 47) 15 16 #[false, false, false, false, false, false, false, false, false, false, false, false, false, false, false, false] rfl (by kernel_rfl) (by kernel_rfl) ?_
                  have gd := (Gr.refl wr).drew
                  have b5 := gd.blk b5
                  have b1 := gd.blk b1
                  have own := gd.row own
                  have gg := gg.trans gd
                  generalize (wr).drew = we at *
                  refine F_free (v := .int .i64 a) 0 #[true, false, false, false, false, false, false, false, false, false, false, false, false, false, false, false] rfl (by kernel_rfl) (fun _ _ _ h => h) rfl (fun _ => rfl) (b5) ?_; simp only [Act.put, List.setIfInBounds_toArray, List.set_cons_succ, List.set_cons_zero]
                  refine F_free (v := .int .i64 b) 1 #[true, true, false, false, false, false, false, false, false, false, false, false, false, false, false, false] rfl (by kernel_rfl) (fun _ _ _ h => h) rfl (fun _ => rfl) (b5) ?_; simp only [Act.put, List.setIfInBounds_toArray, List.set_cons_succ, List.set_cons_zero]
                  refine F_free (v := .pointer (some ⟨B5, a * 37, Option.none⟩)) 2 #[true, true, true, false, false, false, false, false, false, false, false, false, false, false, false, false] rfl (by kernel_rfl) (fun _ _ _ h => h) rfl (fun _ => e_idxK _ _ _ _ _ rfl rfl (Try.kixA B5 a ha37 _)) (b5) ?_; simp only [Act.put, List.setIfInBounds_toArray, List.set_cons_succ, List.set_cons_zero]
                  refine F_free (v := .pointer (some ⟨B5, a * 37 + b, Option.none⟩)) 3 #[true, true, true, true, false, false, false, false, false, false, false, false, false, false, false, false] rfl (by kernel_rfl) (fun _ _ _ h => h) rfl (fun _ => e_idxK _ _ _ _ _ rfl rfl (Try.kixB B5 (a * 37) b hb37 _)) (b5) ?_; simp only [Act.put, List.setIfInBounds_toArray, List.set_cons_succ, List.set_cons_zero]
                  refine F_take (v := .int .i64 X0) 4 #[true, true, true, true, true, false, false, false, false, false, false, false, false, false, false, false] rfl (by kernel_rfl) (fun _ _ _ h => h) rfl (fun w hF => e_load 3 (.tmp 60) _ _ rfl (Try.isAgg3 _) (HM0.out _ hF)) (b5) ?_; simp only [Act.put, List.setIfInBounds_toArray, List.set_cons_succ, List.set_cons_zero]
                  refine F_free (v := .int .i64 a) 5 #[true, true, true, true, true, true, false, false, false, false, false, false, false, false, false, false] rfl (by kernel_rfl) (fun _ _ _ h => h) rfl (fun _ => rfl) (b5) ?_; simp only [Act.put, List.setIfInBounds_toArray, List.set_cons_succ, List.set_cons_zero]
                  refine F_free (v := .int .i64 b) 6 #[true, true, true, true, true, true, true, false, false, false, false, false, false, false, false, false] rfl (by kernel_rfl) (fun _ _ _ h => h) rfl (fun _ => rfl) (b5) ?_; simp only [Act.put, List.setIfInBounds_toArray, List.set_cons_succ, List.set_cons_zero]
                  refine F_free (v := .int .i64 n) 7 #[true, true, true, true, true, true, true, true, false, false, false, false, false, false, false, false] rfl (by kernel_rfl) (fun _ _ _ h => h) rfl (fun _ => rfl) (b5) ?_; simp only [Act.put, List.setIfInBounds_toArray, List.set_cons_succ, List.set_cons_zero]
                  refine F_free (v := .int .i64 d) 8 #[true, true, true, true, true, true, true, true, true, false, false, false, false, false, false, false] rfl (by kernel_rfl) (fun _ _ _ h => h) rfl (fun _ => e_subF' _ _ (b : Int) (n : Int) (d : Int) rfl rfl HD.out (by omega)) (b5) ?_; simp only [Act.put, List.setIfInBounds_toArray, List.set_cons_succ, List.set_cons_zero]
                  refine F_free (v := .pointer (some ⟨B5, a * 37, Option.none⟩)) 9 #[true, true, true, true, true, true, true, true, true, true, false, false, false, false, false, false] rfl (by kernel_rfl) (fun _ _ _ h => h) rfl (fun _ => e_idxK _ _ _ _ _ rfl rfl (Try.kixA B5 a ha37 _)) (b5) ?_; simp only [Act.put, List.setIfInBounds_toArray, List.set_cons_succ, List.set_cons_zero]
                  refine F_free (v := .pointer (some ⟨B5, a * 37 + d, Option.none⟩)) 10 #[true, true, true, true, true, true, true, true, true, true, true, false, false, false, false, false] rfl (by kernel_rfl) (fun _ _ _ h => h) rfl (fun _ => e_idxK _ _ _ _ _ rfl rfl (Try.kixB B5 (a * 37) d hd37 _)) (b5) ?_; simp only [Act.put, List.setIfInBounds_toArray, List.set_cons_succ, List.set_cons_zero]
                  refine F_take (v := .int .i64 Y2) 11 #[true, true, true, true, true, true, true, true, true, true, true, true, false, false, false, false] rfl (by kernel_rfl) (fun _ _ _ h => h) rfl (fun w hF => e_load 3 (.tmp 67) _ _ rfl (Try.isAgg3 _) (HM1.out _ hF)) (b5) ?_; simp only [Act.put, List.setIfInBounds_toArray, List.set_cons_succ, List.set_cons_zero]
                  refine F_free (v := .int .i64 X2) 12 #[true, true, true, true, true, true, true, true, true, true, true, true, true, false, false, false] rfl (by kernel_rfl) (fun _ _ _ h => h) rfl (fun _ => e_addK _ _ (X0 : Int) (Y2 : Int) (X2 : Int) rfl rfl HX2.out (by omega)) (b5) ?_; simp only [Act.put, List.setIfInBounds_toArray, List.set_cons_succ, List.set_cons_zero]
                  refine F_free (v := .pointer (some ⟨B5, a * 37, Option.none⟩)) 13 #[true, true, true, true, true, true, true, true, true, true, true, true, true, true, false, false] rfl (by kernel_rfl) (fun _ _ _ h => h) rfl (fun _ => e_idxK _ _ _ _ _ rfl rfl (Try.kixA B5 a ha37 _)) (b5) ?_; simp only [Act.put, List.setIfInBounds_toArray, List.set_cons_succ, List.set_cons_zero]
                  refine F_free (v := .pointer (some ⟨B5, a * 37 + b, Option.none⟩)) 14 #[true, true, true, true, true, true, true, true, true, true, true, true, true, true, true, false] rfl (by kernel_rfl) (fun _ _ _ h => h) rfl (fun _ => e_idxK _ _ _ _ _ rfl rfl (Try.kixB B5 (a * 37) b hb37 _)) (b5) ?_; simp only [Act.put, List.setIfInBounds_toArray, List.set_cons_succ, List.set_cons_zero]
                  refine F_one 15 #[true, true, true, true, true, true, true, true, true, true, true, true, true, true, true, true] rfl (by kernel_rfl) ?_
                  have hne := own_ne own b5 (by decide)
                  refine r_store_cell 3 47 _ _ B5 (a * 37 + b) rfl (.int .i64 X2) rfl _ b5 (by rw [tbV_size]; omega) Try.sizeOf3 rfl rfl ?_
                  intro w7 u7 b7
                  rw [tbV_set _ ha37 hb37] at b7
                  have b1 := u7.blk b1 (by omega)
                  have own := u7.row own hne
                  have gg := u7.gr gg lo5
                  refine ⟨fun h => (by cases h), ?_⟩
                  simp only [Act.put]
                  refine F_done (by kernel_rfl) ?_
                  clear b5
                  have b5 := b7
                  clear b7
                  rw [HFIN.out X2 HDQ.out.symm] at b5
                  go_wp2
                  go_roundw
                  case rel => exact ⟨b, by omega, by go_num, b5, b1, own, gg⟩
                  case measure => first | (simp [intOf]; done) | (simp [intOf]; omega)
                · rw [if_neg hnb] at HDQ
                  simp only [Nat.add_zero] at HDQ
                  have b5 : Blk wr B5 (tbV (ktT Z A B j (a + 1) b)) 47 := by
                    rw [← HFIN.out X0 HDQ.out.symm, ← HTA.out, upK_self]
                    exact b5
                  go_wp2
                  go_roundw
                  case rel => exact ⟨b, by omega, by go_num, b5, b1, own, gg⟩
                  case measure => first | (simp [intOf]; done) | (simp [intOf]; omega)
    · obtain rfl : j = m := by omega
      have HE := hidI (show ktT Z A B j (A + 1) (B + 1) A B = dpK Z j A B from ktT_old Z (Nat.le_refl _) (Nat.le_refl _) (by omega))
      have HLE := hidI (fun (w' : World) (h : Blk w' B5 (tbV (ktT Z A B j (A + 1) (B + 1))) 47) => show w'.cell? ⟨B5, A * 37 + B, none⟩ = some (.int .i64 (dpK Z j A B : Nat)) from by rw [h.cell, tbV_get _ (by omega) (by omega), HE.out])
      have hA37 : A < 37 := by omega
      have hB37 : B < 37 := by omega
      obtain ⟨T, hT⟩ : ∃ T, T = ktT Z A B j (A + 1) (B + 1) := ⟨_, rfl⟩
      rw [← hT] at b5 HLE
      obtain ⟨r, hr⟩ : ∃ r, r = dpK Z j A B := ⟨_, rfl⟩
      rw [← hr] at HLE
      have HR := hidI hr
      clear hT hr HE hlt
      go_wp2
      refine F_begin (fun w => (Blk w B5 (tbV T) 47 ∧ Blk w B1 (fv W H A B) 30)) 7 8 #[false, false, false, false, false, false, false, false] rfl (by kernel_rfl) (by kernel_rfl) ?_
      have gd := (Gr.refl wr).drew
      have b5 := gd.blk b5
      have b1 := gd.blk b1
      have gg := gg.trans gd
      generalize wr.drew = wd at *
      refine F_free (v := .pointer (some ⟨B1, 2, Option.none⟩)) 0 #[true, false, false, false, false, false, false, false] rfl (by kernel_rfl) (fun _ _ _ h => h) rfl (fun _ => e_val _ _ (Try.ff2 B1 _)) (⟨b5, b1⟩) ?_; simp only [Act.put, List.setIfInBounds_toArray, List.set_cons_succ, List.set_cons_zero]
      refine F_take (v := .int .i64 A) 1 #[true, true, false, false, false, false, false, false] rfl (by kernel_rfl) (fun _ _ _ h => h) rfl (fun w hF => e_load 3 (.tmp 73) _ _ rfl (Try.isAgg3 _) (fcells hF.2).2.2.1) (⟨b5, b1⟩) ?_; simp only [Act.put, List.setIfInBounds_toArray, List.set_cons_succ, List.set_cons_zero]
      refine F_free (v := .pointer (some ⟨B1, 3, Option.none⟩)) 2 #[true, true, true, false, false, false, false, false] rfl (by kernel_rfl) (fun _ _ _ h => h) rfl (fun _ => e_val _ _ (Try.ff3 B1 _)) (⟨b5, b1⟩) ?_; simp only [Act.put, List.setIfInBounds_toArray, List.set_cons_succ, List.set_cons_zero]
      refine F_take (v := .int .i64 B) 3 #[true, true, true, true, false, false, false, false] rfl (by kernel_rfl) (fun _ _ _ h => h) rfl (fun w hF => e_load 3 (.tmp 75) _ _ rfl (Try.isAgg3 _) (fcells hF.2).2.2.2) (⟨b5, b1⟩) ?_; simp only [Act.put, List.setIfInBounds_toArray, List.set_cons_succ, List.set_cons_zero]
      refine F_free (v := .pointer (some ⟨B5, A * 37, Option.none⟩)) 4 #[true, true, true, true, true, false, false, false] rfl (by kernel_rfl) (fun _ _ _ h => h) rfl (fun _ => e_idxK _ _ _ _ _ rfl rfl (Try.kixA B5 A hA37 _)) (⟨b5, b1⟩) ?_; simp only [Act.put, List.setIfInBounds_toArray, List.set_cons_succ, List.set_cons_zero]
      refine F_free (v := .pointer (some ⟨B5, A * 37 + B, Option.none⟩)) 5 #[true, true, true, true, true, true, false, false] rfl (by kernel_rfl) (fun _ _ _ h => h) rfl (fun _ => e_idxK _ _ _ _ _ rfl rfl (Try.kixB B5 (A * 37) B hB37 _)) (⟨b5, b1⟩) ?_; simp only [Act.put, List.setIfInBounds_toArray, List.set_cons_succ, List.set_cons_zero]
      refine F_take (v := .int .i64 r) 6 #[true, true, true, true, true, true, true, false] rfl (by kernel_rfl) (fun _ _ _ h => h) rfl (fun w hF => e_load 3 (.tmp 78) _ _ rfl (Try.isAgg3 _) (HLE.out _ hF.1)) (⟨b5, b1⟩) ?_; simp only [Act.put, List.setIfInBounds_toArray, List.set_cons_succ, List.set_cons_zero]
      refine F_one 7 #[true, true, true, true, true, true, true, true] rfl (by kernel_rfl) ?_
      refine r_val (.int .i64 r) rfl rfl ?_
      refine ⟨fun h => (by cases h), ?_⟩
      simp only [Act.put, List.setIfInBounds_toArray, List.set_cons_succ, List.set_cons_zero]
      refine F_done (by kernel_rfl) ?_
      go_wp2
      go_ret
      exact ⟨by rw [← HR.out]; rfl, gg⟩
end Go.Proofs.Ytmjmjibokombiaa
