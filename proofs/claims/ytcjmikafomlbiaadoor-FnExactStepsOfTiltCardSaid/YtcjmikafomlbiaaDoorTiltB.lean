/-
  A single step of a tray: in the program and in the model, and the law.
-/
import Derived.Test.YtcjmikafomlbiaaDoorTiltV
namespace Go.Proofs.YtcjmikafomlbiaaDoor
open Go.RowKit
/-- The program's step along a stretch: the places before j are done. -/
def stTo (o : List UInt8) (s : List Nat) : Nat → List UInt8
  | 0 => o
  | j + 1 => if 0 < j ∧ at0 (stTo o s j) (s.getD (j - 1) 0) = 46 then swC (stTo o s j) (s.getD j 0) (s.getD (j - 1) 0) else stTo o s j
/-- The model's. -/
def suTo (c o : List UInt8) (s : List Nat) : Nat → List UInt8
  | 0 => o
  | j + 1 => if isBallB (at0 c (s.getD j 0)) = true ∧ nbTo c s j < j then ((suTo c o s j).set (s.getD (j - 1) 0) (at0 c (s.getD j 0))).set (s.getD j 0) 46 else suTo c o s j
theorem stTo_length (o : List UInt8) (s : List Nat) (j : Nat) : (stTo o s j).length = o.length := by
  induction j with
  | zero => rfl
  | succ j ih => unfold stTo; split <;> simp [swC_length, ih]
theorem suTo_length (c o : List UInt8) (s : List Nat) (j : Nat) : (suTo c o s j).length = o.length := by
  induction j with
  | zero => rfl
  | succ j ih => unfold suTo; split <;> simp [ih]
theorem stTo_one (o : List UInt8) (s : List Nat) : stTo o s 1 = o := by
  rw [stTo, if_neg (fun h => Nat.lt_irrefl _ h.1)]
  rfl
theorem stTo_out {o : List UInt8} {s : List Nat} (hl : ∀ x ∈ s, x < o.length) {i : Nat} (hi : i ∉ s) (j : Nat) (hj : j ≤ s.length) : at0 (stTo o s j) i = at0 o i := by
  induction j with
  | zero => rfl
  | succ j ih =>
    unfold stTo
    split
    · have h1 := getD_mem (show j < s.length by omega)
      have h2 := getD_mem (show j - 1 < s.length by omega)
      rw [swC_at (by rw [stTo_length]; exact hl _ h1) (by rw [stTo_length]; exact hl _ h2), if_neg (fun e => hi (by rw [← e]; exact h2)), if_neg (fun e => hi (by rw [← e]; exact h1))]
      exact ih (by omega)
    · exact ih (by omega)
theorem st_main {c o : List UInt8} {s : List Nat} (hs : Str c s) (hl : o.length = c.length) (ho : ∀ i ∈ s, at0 o i = at0 c i) (j : Nat) (hj : j ≤ s.length) :
    suTo c o s j = stTo o s j ∧ (∀ k, j ≤ k → k < s.length → at0 (stTo o s j) (s.getD k 0) = at0 c (s.getD k 0)) ∧ (0 < j → (at0 (stTo o s j) (s.getD (j - 1) 0) = 46 ↔ nbTo c s j < j)) := by
  induction j with
  | zero => exact ⟨rfl, fun k _ hk => ho _ (getD_mem hk), fun h => absurd h (Nat.lt_irrefl _)⟩
  | succ j ih =>
    obtain ⟨i1, i2, i3⟩ := ih (by omega)
    have hjl : j < s.length := by omega
    have hnb := nbTo_le c s j
    have ha := getD_mem hjl
    have hal := hs.lt _ ha
    have hok := hs.ok _ ha
    have hXa := i2 j (Nat.le_refl _) hjl
    have hXl : (stTo o s j).length = c.length := by rw [stTo_length, hl]
    have h46 : isBallB 46 = false := by decide
    have hnS : nbTo c s (j + 1) = nbTo c s j + if isBallB (at0 c (s.getD j 0)) = true then 1 else 0 := rfl
    have h3 : j + 1 - 1 = j := by omega
    rw [h3]
    by_cases hP : 0 < j ∧ at0 (stTo o s j) (s.getD (j - 1) 0) = 46
    · obtain ⟨hj0, hP⟩ := hP
      have hn : nbTo c s j < j := (i3 hj0).1 hP
      have hbm := getD_mem (show j - 1 < s.length by omega)
      have hbl := hs.lt _ hbm
      have hab : s.getD (j - 1) 0 ≠ s.getD j 0 := fun e => by
        have := getD_inj hs.nd (show j - 1 < s.length by omega) hjl e
        omega
      have eS : stTo o s (j + 1) = swC (stTo o s j) (s.getD j 0) (s.getD (j - 1) 0) := by rw [stTo, if_pos ⟨hj0, hP⟩]
      have hat : ∀ i, at0 (swC (stTo o s j) (s.getD j 0) (s.getD (j - 1) 0)) i = if s.getD (j - 1) 0 = i then at0 c (s.getD j 0) else if s.getD j 0 = i then 46 else at0 (stTo o s j) i := by
        intro i
        rw [swC_at (by rw [hXl]; exact hal) (by rw [hXl]; exact hbl), hP, hXa]
      rw [eS]
      refine ⟨?_, ?_, ?_⟩
      · by_cases hb : isBallB (at0 c (s.getD j 0)) = true
        · rw [suTo, if_pos ⟨hb, hn⟩, i1]
          unfold swC
          rw [hP, hXa, List.set_comm _ _ hab]
        · have hc : at0 c (s.getD j 0) = 46 := by
            rcases hok with h | h
            · exact h
            · exact absurd h hb
          rw [suTo, if_neg (fun h => hb h.1), i1]
          refine list_ext (by rw [swC_length]) fun i _ => ?_
          rw [hat, hc]
          split
          · rename_i e; rw [← e, hP]
          · split
            · rename_i e; rw [← e, hXa, hc]
            · rfl
      · intro k hk hkl
        have n1 : s.getD (j - 1) 0 ≠ s.getD k 0 := fun e => by
          have := getD_inj hs.nd (show j - 1 < s.length by omega) hkl e
          omega
        have n2 : s.getD j 0 ≠ s.getD k 0 := fun e => by
          have := getD_inj hs.nd hjl hkl e
          omega
        rw [hat, if_neg n1, if_neg n2]
        exact i2 k (by omega) hkl
      · intro _
        rw [hat, if_neg hab, if_pos rfl]
        refine ⟨fun _ => ?_, fun _ => rfl⟩
        rw [hnS]
        split <;> omega
    · have eS : stTo o s (j + 1) = stTo o s j := by rw [stTo, if_neg hP]
      have hn : ¬ nbTo c s j < j := by
        intro h
        rcases Nat.eq_zero_or_pos j with e | e
        · omega
        · exact hP ⟨e, (i3 e).2 h⟩
      rw [eS]
      refine ⟨?_, fun k hk hkl => i2 k (by omega) hkl, fun _ => ?_⟩
      · rw [suTo, if_neg (fun h => hn h.2), i1]
      · rw [hXa, hnS]
        rcases hok with h | h
        · rw [h, h46]
          refine ⟨fun _ => ?_, fun _ => rfl⟩
          simp
          omega
        · rw [h]
          refine ⟨fun e => ?_, fun e => ?_⟩
          · rw [e, h46] at h; cases h
          · simp at e
            omega
def stAll (c : List UInt8) (L : List (List Nat)) : List UInt8 := L.foldl (fun c s => stTo c s s.length) c
theorem stAll_length (L : List (List Nat)) (c : List UInt8) : (stAll c L).length = c.length := by
  induction L generalizing c with
  | nil => rfl
  | cons s L ih => exact (ih _).trans (stTo_length _ _ _)
theorem stAll_take {c : List UInt8} {L : List (List Nat)} {k : Nat} {s : List Nat} (h : L[k]? = some s) : stAll c (L.take (k + 1)) = stTo (stAll c (L.take k)) s s.length := by
  rw [List.take_add_one, h]
  unfold stAll
  rw [List.foldl_append]
  rfl
theorem stAll_out {i : Nat} (L : List (List Nat)) : ∀ (c : List UInt8), (∀ s ∈ L, ∀ x ∈ s, x < c.length) → (∀ s ∈ L, i ∉ s) → at0 (stAll c L) i = at0 c i := by
  induction L with
  | nil => intro c _ _; rfl
  | cons s L ih =>
    intro c h1 h2
    have e : stAll c (s :: L) = stAll (stTo c s s.length) L := rfl
    rw [e, ih _ (fun t ht x hx => by rw [stTo_length]; exact h1 t (by simp [ht]) x hx) (fun t ht => h2 t (by simp [ht])), stTo_out (h1 s (by simp)) (h2 s (by simp)) _ (Nat.le_refl _)]
theorem Strs.stepB {W H : Nat} {c : List UInt8} {d : Nat} {L : List (List Nat)} (h : Strs W H c d L) {k : Nat} {s : List Nat} (hk : L[k]? = some s) : ∀ i ∈ s, at0 (stAll c (L.take k)) i = at0 c i := by
  intro i hi
  have hkl : k < L.length := by
    rcases Nat.lt_or_ge k L.length with h | h
    · exact h
    · rw [List.getElem?_eq_none h] at hk; cases hk
  refine stAll_out _ _ (fun t ht x hx => (h.str t (List.mem_of_mem_take ht)).lt x hx) fun t ht hit => ?_
  obtain ⟨j, hj, rfl⟩ := List.getElem_of_mem ht
  have hjk : j < k := by rw [List.length_take] at hj; omega
  rw [List.getElem_take] at hit
  have := List.pairwise_iff_getElem.1 h.apart j k (by omega) hkl hjk
  rw [List.getElem?_eq_getElem hkl] at hk
  rw [Option.some.inj hk] at this
  exact this i hit hi
/-- A tray behind a step. -/
def stepG (d : Nat) (g : Grid) : Grid := ⟨g.w, g.h, stAll g.c (strL g.w g.h g.c d)⟩
set_option maxHeartbeats 4000000 in
set_option maxRecDepth 100000 in
theorem tiStep_any (g : Grid) (base d : Nat) (sl : Value) (w : World) (hg : Cel g) (hd : d < 4) (h1 : 0 < g.c.length) (hown0 : w.ownsRow base 5 1 sl g.c.length (cellsV g.c)) :
    Calls Tryd.prog 33 #[.agg (tg g.w g.h sl), .int .i64 d] w (RetG 5 g.w g.h (stepG d g).c w) := by
  have gg := Gr.refl w
  obtain ⟨G, cap, rfl, -, -⟩ := own_shape hown0 h1
  have hown := hown0
  have hS := hg.strs hd
  have HT := hidI (show (stepG d g).c = stAll g.c (strL g.w g.h g.c d) from rfl)
  have w7 := hg.w7
  have h7 := hg.h7
  have n36 := hg.n36
  have hlen := hg.len
  have h36 : g.c.length ≤ 36 := by omega
  have hcells := hg.cells
  obtain ⟨W, hW⟩ : ∃ W, W = g.w := ⟨_, rfl⟩
  obtain ⟨H, hH⟩ : ∃ H, H = g.h := ⟨_, rfl⟩
  obtain ⟨c, hc⟩ : ∃ c, c = g.c := ⟨_, rfl⟩
  rw [← hW] at w7 n36 hlen hS HT ⊢
  rw [← hH] at h7 n36 hlen hS HT ⊢
  rw [← hc] at h1 hown hlen hcells h36 hS HT ⊢
  obtain ⟨L, hL⟩ : ∃ L, L = strL W H c d := ⟨_, rfl⟩
  rw [← hL] at hS HT
  have HS := hidI hS
  have HLEN := hidI hlen
  have HCELLS := hidI hcells
  have HL := hidI hL
  clear hW hH hc hL hS hlen hcells hown0
  go_enter Tryd.func33, Tryd.ntmps33
  go_wp2_with (first | (refine r_box 31 _ (tg (W) (H) (.slice (some ⟨G, 0, none⟩) c.length cap)) rfl rfl ?_; intro w1 B1 N1; have g1 := N1.gr; have b1 : Blk w1 B1 (tg (W) (H) (.slice (some ⟨G, 0, none⟩) c.length cap)) 31 := N1.blk; have l1 := N1.lo; have t1 := N1.hi; have z1 := g1.size; have gg := gg.trans g1; clear N1; obtain ⟨b1_0, b1_1, b1_2⟩ := tcells b1) | (refine r_alloc 31 _ Tryd.tzero rfl ?_; intro w2 B2 N2; have g2 := N2.gr; have b2 : Blk w2 B2 (tg 0 0 (.slice none 0 0)) 31 := N2.blk; have l2 := N2.lo; have t2 := N2.hi; have z2 := g2.size; have b1 := g2.blk b1; obtain ⟨b1_0, b1_1, b1_2⟩ := tcells b1; have gg := gg.trans g2; clear N2; obtain ⟨b2_0, b2_1, b2_2⟩ := tcells b2) | (refine r_load_row 31 _ _ rfl _ _ _ b1 Tryd.underlying31 rfl Tryd.tinfo rfl ?_))
  refine (tyCopy_any W H base c G cap _ h36 (gg.row hown)).mono ?_
  rintro e w3 ⟨g3, s3, rfl, own3⟩
  have b1 := g3.blk b1
  have b2 := g3.blk b2
  have z3 := g3.size
  have gg := gg.trans g3
  obtain ⟨G3, cap3, rfl, hG3, hcap3⟩ := own_shape own3 h1
  have hG3l := (own3.lt G3 rfl).2
  go_wp2_with (first | (refine r_alloc (dst := some 5) 31 _ Tryd.tzero rfl ?_; intro w4 B4 N4; have g4 := N4.gr; have b4 : Blk w4 B4 (tg 0 0 (.slice none 0 0)) 31 := N4.blk; have l4 := N4.lo; have t4 := N4.hi; have z4 := g4.size; have b1 := g4.blk b1; obtain ⟨b1_0, b1_1, b1_2⟩ := tcells b1; have b2 := g4.blk b2; have gg := gg.trans g4; clear N4; obtain ⟨b4_0, b4_1, b4_2⟩ := tcells b4) | (refine r_store_row 31 31 _ _ _ rfl (tg _ _ _) _ rfl b4 Tryd.tsize rfl (tg_one rfl) rfl ?_; intro w5 u5 b4'; have z5 := u5.size; have gg := u5.gr gg (by omega); have b1 := u5.blk b1 (by omega); obtain ⟨b1_0, b1_1, b1_2⟩ := tcells b1; have b2 := u5.blk b2 (by omega); clear b4; have b4 := b4'; clear b4'; obtain ⟨b4_0, b4_1, b4_2⟩ := tcells b4) | (refine r_load_row 31 _ _ rfl _ _ _ b1 Tryd.underlying31 rfl Tryd.tinfo rfl ?_))
  have own3 := u5.row (g4.row own3) (own_new own3 l4)
  have own3 := own_up own3 (show w.heap.size ≤ w2.heap.size by omega)
  refine (tiStretches_any W H base d c G cap _ hd w7 h7 h36 HLEN.out HCELLS.out (gg.row hown)).mono ?_
  rintro e w6 ⟨g6, sv, vs, rfl, own, R⟩
  rw [← HL.out] at own R
  rw [zzz_length] at own
  have hsmall := HS.out.small
  obtain ⟨p6, n6, k6, rfl⟩ := own_slice own
  obtain rfl : n6 = L.length := own_len own
  have b1 := g6.blk b1
  have b2 := g6.blk b2
  have b4 := g6.blk b4
  have own3 := g6.row own3
  have z6 := g6.size
  have gg := gg.trans g6
  have lo3 : w.heap.size ≤ G3 := by omega
  go_wp2
  have hb6 : w.heap.size ≤ w5.heap.size := by omega
  go_loopw [17] (fun iv wr => ∃ m : Nat, m ≤ L.length ∧ iv = .int .i64 m ∧ Blk wr B1 (tg W H (.slice (some ⟨G, 0, none⟩) c.length cap)) 31 ∧ Blk wr B2 (tg 0 0 (.slice none 0 0)) 31 ∧ Blk wr B4 (tg W H (.slice (some ⟨G3, 0, none⟩) c.length cap3)) 31 ∧
      wr.ownsRow w.heap.size 5 1 (.slice (some ⟨G3, 0, none⟩) c.length cap3) c.length (cellsV (stAll c (L.take m))) ∧ wr.ownsRow w5.heap.size 45 1 (.slice p6 L.length k6) L.length vs ∧ RowsK 3 w5.heap.size (zzz L) 1 0 vs wr ∧ Gr w wr) (fun iv _ => L.length - (intOf iv).toNat)
  case atStart => exact ⟨0, Nat.zero_le _, rfl, b1, b2, b4, own3, own, R, gg⟩
  case round =>
    obtain ⟨m, hm, rfl, b1, b2, b4, own3, own, R, gg⟩ := hrel
    by_cases hlm : m < L.length
    · obtain ⟨s, hs⟩ : ∃ s, L[m]? = some s := ⟨L[m], List.getElem?_eq_getElem hlm⟩
      obtain ⟨v, hv, ov⟩ := R.get hs
      obtain ⟨g1', c1', e1, -, -⟩ := own_shape own (by omega)
      cases e1
      have hcv := own_val own m v hlm hv
      have hsm := List.mem_of_getElem? hs
      have hstr := HS.out.str s hsm
      have hs7 := HS.out.len7 s hsm
      have hsame := HS.out.stepB hs
      obtain ⟨gs, cs, rfl, -, -⟩ := own_shape ov hs7.1
      obtain ⟨q, hq⟩ : ∃ q, q = stAll c (L.take m) := ⟨_, rfl⟩
      have hql : q.length = c.length := by rw [hq, stAll_length]
      have HT1 := hidI (show suTo c q s s.length = stAll c (L.take (m + 1)) from by
        rw [stAll_take hs, hq]
        exact (st_main hstr (by rw [stAll_length]) hsame s.length (Nat.le_refl _)).1)
      rw [← hq] at own3
      have HQL := hidI hql
      have HSTR := hidI hstr
      obtain ⟨hs1, hs7⟩ := hs7
      have ov := own_up ov (Nat.zero_le _)
      clear hs hv hsm hql hq hstr hsame
      go_wp2
      go_loopw [8, 23] (fun fv jv wr => ∃ j : Nat, j ≤ s.length ∧ jv = .int .i64 j ∧ fv = .bool (decide (nbTo c s j < j)) ∧ Blk wr B1 (tg W H (.slice (some ⟨G, 0, none⟩) c.length cap)) 31 ∧ Blk wr B2 (tg 0 0 (.slice none 0 0)) 31 ∧ Blk wr B4 (tg W H (.slice (some ⟨G3, 0, none⟩) c.length cap3)) 31 ∧
        wr.ownsRow w.heap.size 5 1 (.slice (some ⟨G3, 0, none⟩) c.length cap3) c.length (cellsV (suTo c q s j)) ∧ wr.ownsRow w5.heap.size 45 1 (.slice (some ⟨g1', 0, none⟩) L.length k6) L.length vs ∧ RowsK 3 w5.heap.size (zzz L) 1 0 vs wr ∧ wr.ownsRow 0 3 1 (.slice (some ⟨gs, 0, none⟩) s.length cs) s.length (intsV (zz s)) ∧ Gr w wr) (fun _ jv _ => s.length - (intOf jv).toNat)
      case atStart => exact ⟨0, Nat.zero_le _, rfl, rfl, b1, b2, b4, own3, own, R, ov, gg⟩
      case round =>
        obtain ⟨j, hj, rfl, rfl, b1, b2, b4, own3, own, R, ov, gg⟩ := hrel
        have hnb := nbTo_le c s j
        by_cases hlj : j < s.length
        · obtain ⟨x, hx⟩ : ∃ x, x = s.getD j 0 := ⟨_, rfl⟩
          have hcs := own_int ov j hlj (zz_length s).symm
          rw [zz_get hlj, ← hx] at hcs
          have hxl := HSTR.out.lt x (by rw [hx]; exact getD_mem hlj)
          have hcx := own_cell (gg.row hown) x hxl rfl
          have hix := Tryd.six0 G c.length cap x hxl
          have hixx := Tryd.six0 G3 c.length cap3 x hxl
          obtain ⟨b1_0, b1_1, b1_2⟩ := tcells b1
          obtain ⟨b4_0, b4_1, b4_2⟩ := tcells b4
          by_cases hb : isBallB (at0 c x) = true
          · have hb' : isBallB (at0 c (s.getD j 0)) = true := by rw [← hx]; exact hb
            have hnS : nbTo c s (j + 1) = nbTo c s j + 1 := by rw [nbTo, if_pos hb']
            have hdd : decide (nbTo c s (j + 1) < j + 1) = decide (nbTo c s j < j) := decide_eq_decide.2 (by rw [hnS]; omega)
            by_cases hf : nbTo c s j < j
            · have hpl : j - 1 < s.length := by omega
              obtain ⟨y, hy⟩ : ∃ y, y = s.getD (j - 1) 0 := ⟨_, rfl⟩
              have hyl := HSTR.out.lt y (by rw [hy]; exact getD_mem hpl)
              have hcy := own_int ov (j - 1) hpl (zz_length s).symm
              rw [zz_get hpl, ← hy] at hcy
              have HST := hidI (show suTo c q s (j + 1) = ((suTo c q s j).set y (at0 c x)).set x 46 from by rw [suTo, if_pos ⟨hb', hf⟩, ← hx, ← hy])
              have hdt : decide (nbTo c s j < j) = true := decide_eq_true hf
              rw [hdt] at hdd ⊢
              have HDD := hidI hdd
              have HB := hidI hb
              have hj1 : 1 ≤ j := by omega
              clear hb hb' hx hy hf hnS hdt hdd
              go_wp2_with (go_at_call 52; refine (tyBall_any _ _).mono ?_; rintro e wSame ⟨rfl, rfl⟩; rw [HB.out])
              refine q_begin 13 (by kernel_rfl) (by kernel_rfl) ?_; simp only [List.take_succ_cons, List.take_zero, List.drop_succ_cons, List.drop_zero]
              refine q_take (.pointer (some ⟨B4, 2, none⟩)) rfl (fun w' hw' => e_val _ _ (Tryd.tf2 B4 _)) ?_; simp only [Act.put, List.setIfInBounds_toArray, List.set_cons_succ, List.set_cons_zero]
              refine q_take (.slice (some ⟨G3, 0, none⟩) c.length cap3) rfl (fun w' hw' => e_load 29 (.tmp 36) ⟨B4, 2, none⟩ _ rfl (Tryd.isAgg29 _) (hw'.cell b4_2)) ?_; simp only [Act.put, List.setIfInBounds_toArray, List.set_cons_succ, List.set_cons_zero]
              refine q_move _ (.slice (some ⟨gs, 0, none⟩) s.length cs) rfl rfl ?_; simp only [Act.put, List.setIfInBounds_toArray, List.set_cons_succ, List.set_cons_zero]
              refine q_move _ (.int .i64 j) rfl rfl ?_; simp only [Act.put, List.setIfInBounds_toArray, List.set_cons_succ, List.set_cons_zero]
              refine q_sub _ _ _ _ (j) (1) (((j - 1 : Nat) : Int)) rfl rfl (by omega) (by omega) rfl ?_; simp only [Act.put, List.setIfInBounds_toArray, List.set_cons_succ, List.set_cons_zero]
              refine q_take (.pointer (some ⟨gs, j - 1, none⟩)) rfl (fun w' hw' => e_val _ _ (Tryd.nsix gs s.length cs (j - 1) hpl _)) ?_; simp only [Act.put, List.setIfInBounds_toArray, List.set_cons_succ, List.set_cons_zero]
              refine q_take (.int .i64 y) rfl (fun w' hw' => e_load 3 (.tmp 41) ⟨gs, j - 1, none⟩ _ rfl (Tryd.isAgg3 _) (hw'.cell hcy)) ?_; simp only [Act.put, List.setIfInBounds_toArray, List.set_cons_succ, List.set_cons_zero]
              refine q_take (.pointer (some ⟨B1, 2, none⟩)) rfl (fun w' hw' => e_val _ _ (Tryd.tf2 B1 _)) ?_; simp only [Act.put, List.setIfInBounds_toArray, List.set_cons_succ, List.set_cons_zero]
              refine q_take (.slice (some ⟨G, 0, none⟩) c.length cap) rfl (fun w' hw' => e_load 29 (.tmp 43) ⟨B1, 2, none⟩ _ rfl (Tryd.isAgg29 _) (hw'.cell b1_2)) ?_; simp only [Act.put, List.setIfInBounds_toArray, List.set_cons_succ, List.set_cons_zero]
              refine q_move _ (.int .i64 x) rfl rfl ?_; simp only [Act.put, List.setIfInBounds_toArray, List.set_cons_succ, List.set_cons_zero]
              refine q_take (.pointer (some ⟨G, x, none⟩)) rfl (fun w' hw' => e_val _ _ (Tryd.six0 G c.length cap x hxl _)) ?_; simp only [Act.put, List.setIfInBounds_toArray, List.set_cons_succ, List.set_cons_zero]
              refine q_take (.int .u8 (at0 c x).toNat) rfl (fun w' hw' => e_load 5 (.tmp 46) ⟨G, x, none⟩ _ rfl (Tryd.isAgg5 _) (hw'.cell hcx)) ?_; simp only [Act.put, List.setIfInBounds_toArray, List.set_cons_succ, List.set_cons_zero]
              refine q_take (.pointer (some ⟨G3, y, none⟩)) rfl (fun w' hw' => e_val _ _ (Tryd.six0 G3 c.length cap3 y hyl _)) ?_; simp only [Act.put, List.setIfInBounds_toArray, List.set_cons_succ, List.set_cons_zero]
              refine wpQuiet_nil ?_
              intro w7 g7
              have b1 := g7.blk b1
              have b2 := g7.blk b2
              have b4 := g7.blk b4
              have own3 := g7.row own3
              have own := g7.row own
              have R := R.gr g7
              have ov := g7.row ov
              have gg := gg.trans g7
              have n1 : B1 ≠ G3 := fun e => own_ne own3 b1 (by decide) (by rw [e]; rfl)
              have n2 : B2 ≠ G3 := fun e => own_ne own3 b2 (by decide) (by rw [e]; rfl)
              have n4 : B4 ≠ G3 := fun e => own_ne own3 b4 (by decide) (by rw [e]; rfl)
              go_wp2_with (first | (refine r_store_own 5 5 _ _ G3 y c.length cap3 w.heap.size (cellsV (suTo c q s j)) rfl (byteV (at0 c x)) rfl own3 hyl Tryd.sizeOf5 rfl rfl ?_; intro w10 u10 own10; rw [cellsV_set] at own10; have own := u10.grb.row own (own_ne2 own own3 (by decide)); have R := R.grb own3 (by decide) u10.grb; have ov := u10.grb.row ov (own_ne2 ov own3 (by decide)); have b1 := u10.blk b1 n1; have b2 := u10.blk b2 n2; have b4 := u10.blk b4 n4; have gg := u10.gr gg lo3; obtain ⟨b4_0, b4_1, b4_2⟩ := tcells b4) | (refine r_store_own 5 5 _ _ G3 x c.length cap3 w.heap.size _ rfl (byteV 46) rfl own10 hxl Tryd.sizeOf5 rfl rfl ?_; intro w11 u11 own11; rw [cellsV_set, ← HST.out] at own11))
              have ownA := u11.grb.row own (own_ne2 own own10 (by decide))
              have RA := R.grb own10 (by decide) u11.grb
              have ovA := u11.grb.row ov (own_ne2 ov own10 (by decide))
              go_roundw
              case rel => exact ⟨j + 1, by omega, by go_num, by rw [HDD.out], u11.blk b1 n1, u11.blk b2 n2, u11.blk b4 n4, own11, ownA, RA, ovA, u11.gr gg lo3⟩
              case measure => simp [intOf]; omega
            · have HST := hidI (show suTo c q s (j + 1) = suTo c q s j from by rw [suTo, if_neg (fun h => hf h.2)])
              have hdt : decide (nbTo c s j < j) = false := decide_eq_false hf
              rw [hdt] at hdd ⊢
              have HDD := hidI hdd
              have HB := hidI hb
              clear hb hb' hx hf hnS hdt hdd
              go_wp2_with (go_at_call 52; refine (tyBall_any _ _).mono ?_; rintro e wSame ⟨rfl, rfl⟩; rw [HB.out])
              go_roundw
              case rel => exact ⟨j + 1, by omega, by go_num, by rw [HDD.out], b1, b2, b4, by rw [HST.out]; exact own3, own, R, ov, gg⟩
              case measure => simp [intOf]; omega
          · have hb' : ¬ isBallB (at0 c (s.getD j 0)) = true := by rw [← hx]; exact hb
            have HST := hidI (show suTo c q s (j + 1) = suTo c q s j from by rw [suTo, if_neg (fun h => hb' h.1)])
            have HDD := hidI (show decide (nbTo c s (j + 1) < j + 1) = true from by rw [nbTo, if_neg hb', decide_eq_true_eq]; omega)
            have HB := hidI (show isBallB (at0 c x) = false from by simpa using hb)
            clear hb hb' hx
            go_wp2_with (go_at_call 52; refine (tyBall_any _ _).mono ?_; rintro e wSame ⟨rfl, rfl⟩; rw [HB.out])
            go_roundw
            case rel => exact ⟨j + 1, by omega, by go_num, by rw [HDD.out], b1, b2, b4, by rw [HST.out]; exact own3, own, R, ov, gg⟩
            case measure => simp [intOf]; omega
        · obtain rfl : j = s.length := by omega
          rw [HT1.out] at own3
          clear hlj
          go_wp2
          go_roundw
          case rel => exact ⟨m + 1, by omega, by go_num, b1, b2, b4, own3, own, R, gg⟩
          case measure => simp [intOf]; omega
    · obtain rfl : m = L.length := by omega
      rw [List.take_length, ← HT.out] at own3
      have lo2 : w.heap.size ≤ B2 := by omega
      clear hlm
      go_wp2_with (first | (refine r_load_row 31 _ _ rfl _ _ _ b4 Tryd.underlying31 rfl Tryd.tinfo rfl ?_) | (refine r_store_row 31 31 _ _ B2 rfl (tg W H (.slice (some ⟨G3, 0, none⟩) c.length cap3)) _ rfl b2 Tryd.tsize rfl (tg_one rfl) rfl ?_; intro w17 u17 b17))
      refine bodyPost_ret (results_row rfl _ _ _ _ _ _ rfl b17 Tryd.underlying31 rfl Tryd.tinfo) rfl ?_
      have hlc : (stepG d g).c.length = c.length := by rw [HT.out, stAll_length]
      refine ⟨u17.gr gg lo2, .slice (some ⟨G3, 0, none⟩) c.length cap3, rfl, ?_⟩
      rw [hlc]
      exact u17.row own3 (own_ne own3 b2 (by decide))
def steB (l : List UInt8) (dir : ByteArray) : ByteArray := if dtOk l dir then txtG (stepG (dS dir).toNat (rdG l)) else ⟨#[]⟩
theorem ste_no {l : List UInt8} {dir : ByteArray} (h : dtOk l dir = false) : steB l dir = ⟨#[]⟩ := by unfold steB; rw [h]; rfl
theorem ste_yes {l : List UInt8} {dir : ByteArray} {g : Grid} {d : Nat} (hy : dtOk l dir = true) (hg : rdG l = g) (hd : dS dir = (d : Nat)) : steB l dir = txtB g.w g.h (stepG d g).c := by unfold steB; rw [hy, hg, hd]; rfl
theorem dS_at {d : Nat} (h : d < 4) : dS ⟨#[dB d]⟩ = (d : Nat) := by
  rcases dB_cases h with ⟨rfl, e⟩ | ⟨rfl, e⟩ | ⟨rfl, e⟩ | ⟨rfl, e⟩ <;> rfl
end Go.Proofs.YtcjmikafomlbiaaDoor
