/-
  A tilt again changes nothing; so a tray comes again exactly when one of its tilts leaves it as it is.
-/
import Derived.Test.YtcldlnleiiloaaaGreatDoorReachR
import Derived.Test.YtcldlnleiiloaaaGreatDoorReachM
namespace Go.Proofs.YtcldlnleiiloaaaGreatDoor
open Go.RowKit
section
variable {W H : Nat} {c c' : List UInt8} {d : Nat}
theorem nx_mask (h : ∀ i, at0 c i = 35 ↔ at0 c' i = 35) (d i : Nat) : nx W H c d i = nx W H c' d i := by
  unfold nx opn
  simp only [h]
theorem ln_mask (h : ∀ i, at0 c i = 35 ↔ at0 c' i = 35) (d i : Nat) : ln W H c d i = ln W H c' d i := by
  unfold ln
  rw [show nx W H c d = nx W H c' d from funext fun i => nx_mask h d i]
theorem strTo_mask (h : ∀ i, at0 c i = 35 ↔ at0 c' i = 35) (d k : Nat) : strTo W H c d k = strTo W H c' d k := by
  induction k with
  | zero => rfl
  | succ k ih =>
    unfold strTo
    rw [ih, ln_mask h, nx_mask h]
    simp only [ne_eq, h]
theorem strL_mask (h : ∀ i, at0 c i = 35 ↔ at0 c' i = 35) (d : Nat) : strL W H c d = strL W H c' d := by
  unfold strL
  rw [strTo_mask h]
theorem slid_bs {s : List Nat} {B : List UInt8} (hB : ∀ b ∈ B, isBallB b = true) (hc : ∀ k, k < s.length → at0 c' (s.getD k 0) = if k < B.length then B.getD k 0 else 46) (j : Nat) (hj : j ≤ s.length) : bsTo c' s j = B.take j := by
  induction j with
  | zero => rfl
  | succ j ih =>
    unfold bsTo
    rw [ih (by omega), hc j (by omega)]
    by_cases h : j < B.length
    · rw [if_pos h, List.getD_eq_getElem?_getD, List.getElem?_eq_getElem h]
      show (if isBallB B[j] = true then B.take j ++ [B[j]] else B.take j) = _
      rw [if_pos (hB _ (List.getElem_mem h)), List.take_succ_eq_append_getElem h]
    · rw [if_neg h, if_neg (by decide), List.take_of_length_le (by omega), List.take_of_length_le (by omega)]
theorem fin_slid {s : List Nat} (hc : ∀ k, k < s.length → at0 c' (s.getD k 0) = fin c s k) (k : Nat) : fin c' s k = fin c s k := by
  have hl := bsTo_length c s s.length
  have hle := nbTo_le c s s.length
  have e := slid_bs (c' := c') (s := s) (B := bsTo c s s.length) (bsTo_cell s s.length) (fun k hk => by rw [hc k hk]; unfold fin; rw [hl]) s.length (Nat.le_refl _)
  rw [List.take_of_length_le (by omega)] at e
  have n : nbTo c' s s.length = nbTo c s s.length := by rw [← bsTo_length, ← bsTo_length, e]
  unfold fin
  rw [n, e]
end
theorem fin_ne (c : List UInt8) (s : List Nat) (k : Nat) : fin c s k ≠ 35 := by
  unfold fin
  split
  · rename_i h
    intro e
    have hb := bsTo_cell (c := c) s s.length ((bsTo c s s.length).getD k 0) (by
      rw [List.getD_eq_getElem?_getD, List.getElem?_eq_getElem (by rw [bsTo_length]; exact h)]
      exact List.getElem_mem _)
    rw [e] at hb
    exact absurd hb (by decide)
  · decide
theorem tilt_again {g : Grid} (hg : Cel g) {d : Nat} (hd : d < 4) : tiltG d (tiltG d g) = tiltG d g := by
  have hs := hg.strs hd
  obtain ⟨a1, a2⟩ := slAll_at _ g.c hs.str hs.apart
  obtain ⟨c', hc'⟩ : ∃ c', c' = slAll g.c (strL g.w g.h g.c d) := ⟨_, rfl⟩
  rw [← hc'] at a1 a2
  have hm : ∀ i, at0 g.c i = 35 ↔ at0 c' i = 35 := by
    intro i
    by_cases h : ∃ s ∈ strL g.w g.h g.c d, i ∈ s
    · obtain ⟨s, h1, h2⟩ := h
      have ho := (hs.str s h1).ok i h2
      obtain ⟨k, hk, rfl⟩ := mem_getD h2
      rw [a2 s h1 k hk]
      constructor
      · intro e
        rw [e] at ho
        exact absurd ho (by decide)
      · intro e; exact absurd e (fin_ne _ _ _)
    · rw [a1 i (fun s h1 h2 => h ⟨s, h1, h2⟩)]
  have ht : tiltG d g = ⟨g.w, g.h, c'⟩ := by rw [hc']; rfl
  have hcel : Cel ⟨g.w, g.h, c'⟩ := by rw [← ht]; exact hg.tilt hd
  have hs' := hcel.strs hd
  obtain ⟨b1, b2⟩ := slAll_at _ c' hs'.str hs'.apart
  have hL : strL g.w g.h c' d = strL g.w g.h g.c d := (strL_mask hm d).symm
  show Grid.mk g.w g.h (slAll (slAll g.c (strL g.w g.h g.c d)) (strL g.w g.h (slAll g.c (strL g.w g.h g.c d)) d)) = Grid.mk g.w g.h (slAll g.c (strL g.w g.h g.c d))
  rw [← hc']
  congr 1
  have b1 : ∀ i, (∀ s ∈ strL g.w g.h c' d, i ∉ s) → at0 (slAll c' (strL g.w g.h c' d)) i = at0 c' i := b1
  have b2 : ∀ s ∈ strL g.w g.h c' d, ∀ k, k < s.length → at0 (slAll c' (strL g.w g.h c' d)) (s.getD k 0) = fin c' s k := b2
  rw [hL] at b1 b2 ⊢
  have hat : ∀ i, at0 (slAll c' (strL g.w g.h g.c d)) i = at0 c' i := by
    intro i
    by_cases h : ∃ s ∈ strL g.w g.h g.c d, i ∈ s
    · obtain ⟨s, h1, h2⟩ := h
      obtain ⟨k, hk, rfl⟩ := mem_getD h2
      rw [b2 s h1 k hk, a2 s h1 k hk]
      exact fin_slid (a2 s h1) k
    · exact b1 i (fun s h1 h2 => h ⟨s, h1, h2⟩)
  apply List.ext_getElem (slAll_length _ _)
  intro i h1 h2
  have := hat i
  unfold at0 at this
  rw [List.getD_eq_getElem?_getD, List.getD_eq_getElem?_getD, List.getElem?_eq_getElem h1, List.getElem?_eq_getElem h2] at this
  exact this
/-- A tray that comes again is left as it is by one of its tilts. -/
theorem again_iff {x : Grid} {S : List (Sta Grid)} (hi : InvS (Sized x.w x.h) tiltG x S.length 0 S) {n : Nat} (hn : n < S.length) : (∃ e ∈ (sta S n).next, GReach S e n) ↔ n ∈ (sta S n).next := by
  have hnl : ∀ j, j < S.length → (sta S j).next.length = 4 := fun j hj => by have := hi.nl j hj; rw [if_pos hj] at this; exact this
  have hlt : ∀ j, j < S.length → ∀ e ∈ (sta S j).next, e < S.length := fun j hj e he => (hi.edge hj he).1
  constructor
  · rintro ⟨e, he, hr⟩
    have hall : ∀ m, GReach S e m → m < S.length := fun m h => by
      induction h with
      | refl => exact hlt n hn e he
      | step _ h2 ih => exact hlt _ ih _ h2
    cases hr with
    | refl => exact he
    | step h1 h2 =>
      rename_i j
      have hj := hall j h1
      obtain ⟨d, hd, hv⟩ := mem_getD h2
      have hd4 : d < 4 := by have := hnl j hj; omega
      have t1 := (hi.nx j d hj hd).2
      rw [hv] at t1
      have hdn : d < (sta S n).next.length := by rw [hnl n hn]; exact hd4
      obtain ⟨q1, q2⟩ := hi.nx n d hn hdn
      have hid : tiltG d (sta S n).t = (sta S n).t := by rw [t1]; exact tilt_again (hi.good j hj).cel hd4
      rw [hid] at q2
      have hq : (sta S n).next.getD d 0 = n := by
        rcases Nat.lt_trichotomy ((sta S n).next.getD d 0) n with h | h | h
        · exact absurd q2 (hi.ne _ _ h hn)
        · exact h
        · exact absurd q2.symm (hi.ne _ _ h q1)
      have z := getD_mem hdn
      rwa [hq] at z
  · intro h
    exact ⟨n, h, GReach.refl⟩
/-- Those of the first k states that come again. -/
def lasN (S : List (Sta Grid)) : Nat → List Nat
  | 0 => []
  | k + 1 => if k ∈ (sta S k).next then lasN S k ++ [k] else lasN S k
theorem lasN_le (S : List (Sta Grid)) (k : Nat) : (lasN S k).length ≤ k := by
  induction k with
  | zero => exact Nat.le_refl _
  | succ k ih =>
    unfold lasN
    split
    · rw [List.length_append]; exact Nat.succ_le_succ ih
    · omega
theorem lasN_lt (S : List (Sta Grid)) (k : Nat) : ∀ n ∈ lasN S k, n < k := by
  induction k with
  | zero => intro n hn; cases hn
  | succ k ih =>
    intro n hn
    unfold lasN at hn
    split at hn
    · rcases List.mem_append.1 hn with h | h
      · have := ih n h; omega
      · rw [List.mem_singleton] at h; omega
    · have := ih n hn; omega
def rowsN (S : List (Sta Grid)) (nx : Nat → Value) (N : List Nat) : List (List Value) := N.map fun n => cellS (sta S n) (nx n)
theorem rowsN_snoc (S : List (Sta Grid)) (nx : Nat → Value) (N : List Nat) (k : Nat) : (rowsN S nx N).flatten ++ cellS (sta S k) (nx k) = (rowsN S nx (N ++ [k])).flatten := by simp [rowsN]
theorem sta_map (S : List (Sta Grid)) (N : List Nat) (j : Nat) (h : j < N.length) : sta (N.map (sta S)) j = sta S (N.getD j 0) := by
  conv => lhs; unfold sta
  rw [List.getD_eq_getElem?_getD, List.getElem?_map, List.getElem?_eq_getElem h, List.getD_eq_getElem?_getD, List.getElem?_eq_getElem h]
  rfl
theorem map_getD (N : List Nat) : (List.range N.length).map (fun j => N.getD j 0) = N := by
  apply List.ext_getElem (by simp)
  intro i h1 h2
  simp [List.getD_eq_getElem?_getD, h2]
theorem rowsI_map (S : List (Sta Grid)) (nx : Nat → Value) (N : List Nat) : rowsI (N.map (sta S)) (fun j => nx (N.getD j 0)) = rowsN S nx N := by
  unfold rowsI rowsN
  rw [List.length_map]
  conv => rhs; rw [← map_getD N]
  rw [List.map_map]
  apply List.map_congr_left
  intro j hj
  rw [sta_map S N j (List.mem_range.1 hj)]
  rfl
def txN (S : List (Sta Grid)) (N : List Nat) : List (List UInt8) := N.map fun n => txG (sta S n)
theorem txN_snoc (S : List (Sta Grid)) (N : List Nat) (k : Nat) : strV (txN S N) ++ [tx (txG (sta S k))] = strV (txN S (N ++ [k])) := by simp [strV, txN]
theorem trT_map (S : List (Sta Grid)) (N : List Nat) : trT (N.map (sta S)) N.length = txN S N := by
  unfold trT txN
  conv => rhs; rw [← map_getD N]
  rw [List.map_map]
  apply List.map_congr_left
  intro j hj
  rw [sta_map S N j (List.mem_range.1 hj)]
  rfl
def laL (l : List UInt8) : List (List UInt8) := match rcS l with
  | none => []
  | some S => srtT (txN S (lasN S S.length))
theorem laL_le (l : List UInt8) : (laL l).length ≤ 300 := by
  unfold laL
  cases h : rcS l with
  | none => exact Nat.zero_le _
  | some S =>
    obtain ⟨g, -, hi⟩ := rcS_inv h
    show (srtT (txN S (lasN S S.length))).length ≤ 300
    rw [srtT_length]
    unfold txN
    rw [List.length_map]
    exact Nat.le_trans (lasN_le _ _) hi.le
theorem contains_nats (Q : List Nat) (j : Nat) : ((Q.map fun q : Nat => (q : Int)).take Q.length).contains (j : Int) = decide (j ∈ Q) := by
  rw [List.take_of_length_le (by simp), Bool.eq_iff_iff, List.contains_iff_mem, decide_eq_true_eq, List.mem_map]
  constructor
  · rintro ⟨q, h1, h2⟩
    have : q = j := by omega
    rwa [← this]
  · intro h; exact ⟨j, h, rfl⟩
theorem Tryz.sts1C (g : Grid) (a b c d v : Value) (w : World) : (Instr.buildSlice 51 1 #[(0, .agg ((gvG g).toList ++ [a, b, c, d, v]).toArray)]).run Tryz.prog w = .ok (.slice (some ⟨w.heap.size, 0, none⟩) 1 1) (w.alloc (.cells ((gvG g).toList ++ [a, b, c, d, v]).toArray 63)) := by kernel_rfl
theorem ISt.grb {base : Nat} {w w' : World} {v : Value} {S : List (Sta Grid)} {nx : Nat → Value} {B : Option Nat} (h : ISt base w v S nx) (g : Grb B w w') (h1 : v.ownBlock = none ∨ v.ownBlock ≠ B) (h2 : ∀ j, j < S.length → (nx j).ownBlock = none ∨ (nx j).ownBlock ≠ B) : ISt base w' v S nx :=
  ⟨g.row h.row h1, fun j hj => g.row (h.nxt j hj) (h2 j hj)⟩
theorem ISt.grow' {base : Nat} {w w' : World} {v : Value} {S : List (Sta Grid)} {nx : Nat → Value} (h : ISt base w v S nx) (g : Gr w w') : ISt base w' v S nx :=
  ⟨g.row h.row, fun j hj => g.row (h.nxt j hj)⟩
theorem range_all {w : World} {B : Nat} {cs : Array Value} {T : TypeId} (b : Blk w B cs T) : w.rangeAt B 0 cs.toList := fun j u hj => by
  rw [Nat.zero_add, b.cell j, ← hj, Array.getElem?_toList]
set_option maxHeartbeats 4000000 in
set_option maxRecDepth 100000 in
theorem iLastingTrays (s : ByteArray) (w : World) (hm : ML w) (hs : s.size ≤ 1048576) : Calls Tryz.prog 21 #[.string s] w (RetStrs 9 (laL s.data.toList) (crOk s.data.toList) w) := by
  have gg := Gr.refl w
  have HA := readStates_any s w hm hs
  unfold RetI at HA
  cases hR : rcS s.data.toList with
  | none =>
    rw [hR] at HA
    have HN := hidI (show laL s.data.toList = [] from by unfold laL; rw [hR])
    have HO := hidI (show crOk s.data.toList = false from by unfold crOk; rw [hR]; rfl)
    have HT := hidI (fun (w : World) => textsOf_any (.slice none 0 0) [] (fun _ => .slice none 0 0) 0 w (World.ownsRow_nil _ _ _ _) (fun j hj => by cases hj) (fun j hj => by cases hj) (by decide))
    clear hR
    go_enter Tryz.func21, Tryz.ntmps21
    go_wp2_with (go_at_call 29; refine HA.mono ?_; rintro e w1 ⟨g1, rfl⟩)
    have gg := gg.trans g1
    have z1 := g1.size
    go_loopw [6, 16] (fun ov iv wr => ov = .slice none 0 0 ∧ iv = .int .i64 0 ∧ wr = w1) (fun _ _ _ => 0)
    case atStart => exact ⟨rfl, rfl, rfl⟩
    case round =>
      obtain ⟨rfl, rfl, rfl⟩ := hrel
      go_wp2_with (go_at_call 30; refine (HT.out _).mono ?_; rintro e w2 ⟨g2, u2, rfl, own2⟩; have gg := gg.trans g2)
      go_ret2
      exact ⟨gg, _, fin_vb HO.out.symm, by
        rw [HN.out]
        have z := own_up own2 (b0 := w.heap.size) (by omega)
        simpa [srtT, trT, strV] using z⟩
  | some S =>
    rw [hR] at HA
    obtain ⟨g, -, hi⟩ := rcS_inv hR
    have h0 := hi.pos
    have h300 := hi.le
    have HNL := hidI (fun j (hj : j < S.length) => show (sta S j).next.length = 4 from by have := hi.nl j hj; rw [if_pos hj] at this; exact this)
    have HN := hidI (show laL s.data.toList = srtT (txN S (lasN S S.length)) from by unfold laL; rw [hR])
    have HO := hidI (show crOk s.data.toList = true from by unfold crOk; rw [hR]; rfl)
    have HK := hidI (rcS_okt hR)
    clear hR hi
    go_enter Tryz.func21, Tryz.ntmps21
    go_wp2_with (go_at_call 29; refine HA.mono ?_; rintro e w1 ⟨g1, v, nx, rfl, IS⟩; obtain ⟨gB, cap, rfl, hlo, hcap⟩ := own_shape IS.row h0; have gg := gg.trans g1)
    have z1 := g1.size
    have HRW := hidI IS.row
    have HON := hidI (fun j (hj : j < S.length) => own_one (IS.nxt j hj))
    have own0 : w1.ownsRow w1.heap.size 63 43 (.slice none 0 0) (lasN S 0).length (rowsN S nx (lasN S 0)).flatten := World.ownsRow_nil _ _ _ _
    go_loopw [6, 16] (fun ov iv wr => ∃ j : Nat, j ≤ S.length ∧ iv = .int .i64 j ∧ wr.ownsRow w1.heap.size 63 43 ov (lasN S j).length (rowsN S nx (lasN S j)).flatten ∧ ISt w.heap.size wr (.slice (some ⟨gB, 0, none⟩) S.length cap) S nx ∧ w1.heap.size ≤ wr.heap.size ∧ Gr w wr) (fun _ iv _ => S.length - (intOf iv).toNat)
    case atStart => exact ⟨0, Nat.zero_le _, rfl, own0, IS, Nat.le_refl _, gg⟩
    case round =>
      clear own0 IS gg
      obtain ⟨j, hj, rfl, own, IS, zw, gg⟩ := hrel
      have zr := gg.size
      by_cases hlt : j < S.length
      · have cr := wholeR IS.row hlt
        have hgB := (IS.row.lt gB rfl).2
        obtain ⟨N, hN⟩ : ∃ N, N = lasN S j := ⟨_, rfl⟩
        have hNl : N.length ≤ 300 := by rw [hN]; have := lasN_le S j; omega
        have HS1 := hidI (show lasN S (j + 1) = if j ∈ (sta S j).next then N ++ [j] else N from by rw [hN]; rfl)
        rw [← hN] at own
        obtain ⟨cs, hcs⟩ : ∃ cs, cs = cellS (sta S j) (nx j) := ⟨_, rfl⟩
        have HFL := hidI (show (rowsN S nx N).flatten ++ cs = (rowsN S nx (N ++ [j])).flatten from by rw [hcs]; exact rowsN_snoc _ _ _ _)
        have HCN := hidI (show ∀ u ∈ cs, u.oneCell' = true from by rw [hcs]; exact cellS_one _ _ (HON.out j hlt))
        have HCL := hidI (show cs.length = 43 from by rw [hcs]; exact cellS_length _ _)
        have HCO := hidI (show ∀ u ∈ cs.toArray.toList, u.oneCell' = true from HCN.out)
        have HSZ := hidI (show cs.toArray.size = 43 from by rw [List.size_toArray]; exact HCL.out)
        have HB := hidI (show cs.toArray[0 + 42]? = some (nx j) from by rw [List.getElem?_toArray, hcs]; exact cellS_tl _ _ 4)
        have HBS := hidI (fun (w : World) => show (Instr.buildSlice 51 1 #[(0, .agg cs.toArray)]).run Tryz.prog w = .ok (.slice (some ⟨w.heap.size, 0, none⟩) 1 1) (w.alloc (.cells cs.toArray 63)) from by rw [hcs]; exact Tryz.sts1C _ _ _ _ _ _ w)
        have HQ := hidI (fun (W : World) (I : ISt w.heap.size W (.slice (some ⟨gB, 0, none⟩) S.length cap) S nx) => show Calls Tryz.prog 42 #[nx j, .int .i64 j] W fun e w' => e = .returned (.bool (decide (j ∈ (sta S j).next))) ∧ w' = W from by
          obtain ⟨g4, c4, e4, -, -⟩ := own_shape (I.nxt j hlt) (by rw [HNL.out j hlt]; decide)
          have o := I.nxt j hlt
          rw [e4] at o ⊢
          have z := Tryz.slices_Contains_int g4 0 (sta S j).next.length c4 ((sta S j).next.map fun q : Nat => (q : Int)) j W (by simp) (by rw [HNL.out j hlt]; decide) (fun k hk => by
            rw [List.length_map] at hk
            rw [Nat.zero_add, natsV_get o rfl k hk]
            simp [List.getD_eq_getElem?_getD, hk])
          rw [contains_nats] at z
          exact z)
        rw [← hcs] at cr
        obtain ⟨bb, hbb⟩ : ∃ bb, bb = decide (j ∈ (sta S j).next) := ⟨_, rfl⟩
        rw [← hbb] at HQ
        have HBB := hidI hbb
        clear hcs hN hbb
        cases hb : bb with
        | true =>
          subst hb
          have hmem : j ∈ (sta S j).next := of_decide_eq_true HBB.out.symm
          have HS2 := hidI (show lasN S (j + 1) = N ++ [j] from by rw [HS1.out, if_pos hmem])
          clear hmem
          go_wp2_with (first | (refine r_idx 51 _ _ (.slice (some ⟨gB, 0, none⟩) S.length cap) (.int .i64 j) _ rfl rfl (Tryz.stix gB S.length cap j hlt _) rfl ?_) | (refine r_ldm 63 _ gB (j * 43) cs.toArray _ rfl cr Tryz.underlying63 rfl (by rw [HSZ.out]; exact Tryz.stinfoR) rfl ?_) | (refine r_alloc 63 _ Tryz.stzeroR rfl ?_; intro w8 B8 N8; have g8 := N8.gr; have b8 : Blk w8 B8 (newL ⟨0, 0, []⟩ 0 0 0 0).toArray 63 := N8.blk; have l8 := N8.lo; have z8 := g8.size; have hfr := (own_far own (show w8.ownsRow w8.heap.size 3 1 (.slice none 0 0) 0 [] from World.ownsRow_nil _ _ _ _) z8); have hob : ∀ k, Value.ownBlock _ = some k → k < B8 := (fun k hk => Nat.lt_of_lt_of_le (own.lt k hk).2 l8); have own := g8.row own; have IS := IS.grow' g8; have gg := gg.trans g8; have hB8 : gB ≠ B8 := (by omega); clear N8) | (refine r_store_row 63 63 _ _ B8 rfl cs.toArray _ rfl b8 (by intro w; rw [HSZ.out]; exact Tryz.sizeOf63 w) (by rw [HSZ.out, List.size_toArray, newL_length]) HCO.out rfl ?_; intro w9 u9 b9; have own := u9.row own (fun e => Nat.lt_irrefl _ (hob _ e)); have IS := IS.grb u9.grb (.inr (fun e => by cases e; exact hB8 rfl)) (fun k hk => .inr (own_ne (IS.nxt k hk) b8 (by decide))); have z9 := u9.size; have gg := u9.gr gg (by omega)) | (refine r_fld 63 _ 5 (.pointer (some ⟨B8, 0, none⟩)) (.pointer (some ⟨B8, 0 + 42, none⟩)) rfl (Tryz.stf5 B8 0 _) rfl ?_) | (refine r_ldc 35 _ ⟨B8, 0 + 42, none⟩ (nx j) rfl (Tryz.isAgg35 _) ((b9.cell (0 + 42)).trans HB.out) rfl ?_) | (go_at_call 42; refine (HQ.out _ IS).mono ?_; rintro e w10 ⟨rfl, rfl⟩) | (refine r_ldm 63 _ B8 0 cs.toArray _ rfl (range_all b9) Tryz.underlying63 rfl (by rw [HSZ.out]; exact Tryz.stinfoR) rfl ?_) | (refine r_slice1s 51 63 (.tmp 26) (.agg cs.toArray) cs.toArray rfl (HBS.out _) rfl ?_; intro w11 B11 N11; have g11 := N11.gr; have own := g11.row own; have IS := IS.grow' g11; have gg := gg.trans g11; have z11 := g11.size) | (refine r_append (.tmp 25) (.tmp 27) 51 63 _ 43 112 w1.heap.size Tryz.stI _ N.length (rowsN S nx N).flatten rfl own ⟨B11, 0, none⟩ 1 1 cs rfl (by rw [HCL.out]) N11.cellN HCN.out (by omega) (by decide) (by omega) rfl ?_; intro v12 w12 own12 g12))
          have IS := IS.grb g12 (own_far HRW.out own (Nat.le_refl _)) (fun k hk => own_ne2 (IS.nxt k hk) own (by decide))
          have z12 := g12.size
          have gg := g12.gr gg (own_gr own z1)
          rw [HFL.out] at own12
          go_roundw
          case rel => exact ⟨j + 1, by omega, by go_num, by rw [HS2.out, List.length_append]; exact own12, IS, by omega, gg⟩
          case measure => simp [intOf]; omega
        | false =>
          subst hb
          have hmem : ¬ j ∈ (sta S j).next := of_decide_eq_false HBB.out.symm
          have HS2 := hidI (show lasN S (j + 1) = N from by rw [HS1.out, if_neg hmem])
          clear hmem
          go_wp2_with (first | (refine r_idx 51 _ _ (.slice (some ⟨gB, 0, none⟩) S.length cap) (.int .i64 j) _ rfl rfl (Tryz.stix gB S.length cap j hlt _) rfl ?_) | (refine r_ldm 63 _ gB (j * 43) cs.toArray _ rfl cr Tryz.underlying63 rfl (by rw [HSZ.out]; exact Tryz.stinfoR) rfl ?_) | (refine r_alloc 63 _ Tryz.stzeroR rfl ?_; intro w8 B8 N8; have g8 := N8.gr; have b8 : Blk w8 B8 (newL ⟨0, 0, []⟩ 0 0 0 0).toArray 63 := N8.blk; have l8 := N8.lo; have z8 := g8.size; have hfr := (own_far own (show w8.ownsRow w8.heap.size 3 1 (.slice none 0 0) 0 [] from World.ownsRow_nil _ _ _ _) z8); have hob : ∀ k, Value.ownBlock _ = some k → k < B8 := (fun k hk => Nat.lt_of_lt_of_le (own.lt k hk).2 l8); have own := g8.row own; have IS := IS.grow' g8; have gg := gg.trans g8; have hB8 : gB ≠ B8 := (by omega); clear N8) | (refine r_store_row 63 63 _ _ B8 rfl cs.toArray _ rfl b8 (by intro w; rw [HSZ.out]; exact Tryz.sizeOf63 w) (by rw [HSZ.out, List.size_toArray, newL_length]) HCO.out rfl ?_; intro w9 u9 b9; have own := u9.row own (fun e => Nat.lt_irrefl _ (hob _ e)); have IS := IS.grb u9.grb (.inr (fun e => by cases e; exact hB8 rfl)) (fun k hk => .inr (own_ne (IS.nxt k hk) b8 (by decide))); have z9 := u9.size; have gg := u9.gr gg (by omega)) | (refine r_fld 63 _ 5 (.pointer (some ⟨B8, 0, none⟩)) (.pointer (some ⟨B8, 0 + 42, none⟩)) rfl (Tryz.stf5 B8 0 _) rfl ?_) | (refine r_ldc 35 _ ⟨B8, 0 + 42, none⟩ (nx j) rfl (Tryz.isAgg35 _) ((b9.cell (0 + 42)).trans HB.out) rfl ?_) | (go_at_call 42; refine (HQ.out _ IS).mono ?_; rintro e w10 ⟨rfl, rfl⟩))
          go_roundw
          case rel => exact ⟨j + 1, by omega, by go_num, by rw [HS2.out]; exact own, IS, by omega, gg⟩
          case measure => simp [intOf]; omega
      · obtain rfl : j = S.length := by omega
        clear hlt
        obtain ⟨N, hN⟩ : ∃ N, N = lasN S S.length := ⟨_, rfl⟩
        have hNl : N.length ≤ 300 := by rw [hN]; have := lasN_le S S.length; omega
        have HNT := hidI (show ∀ k, k < N.length → N.getD k 0 < S.length from fun k hk => by
          have := getD_mem hk
          rw [hN] at this ⊢
          exact lasN_lt _ _ _ this)
        rw [← hN] at own HN
        clear hN
        obtain ⟨p5, n5, k5, rfl⟩ := own_slice own
        obtain rfl : n5 = N.length := own_len own
        have own' : wr.ownsRow w1.heap.size 63 43 (.slice p5 N.length k5) (N.map (sta S)).length (rowsI (N.map (sta S)) (fun k => nx (N.getD k 0))).flatten := by rw [rowsI_map, List.length_map]; exact own
        have HT := hidI (textsOf_any _ (N.map (sta S)) (fun k => nx (N.getD k 0)) _ wr own' (fun k hk => by rw [List.length_map] at hk; exact HON.out _ (HNT.out k hk)) (fun k hk => by rw [List.length_map] at hk; rw [sta_map S N k hk]; exact HK.out _ (HNT.out k hk)) (by rw [List.length_map]; exact hNl))
        rw [List.length_map, trT_map] at HT
        clear own own'
        go_wp2_with (go_at_call 30; refine HT.out.mono ?_; rintro e w2 ⟨g2, u2, rfl, own2⟩; have gg := gg.trans g2)
        go_ret2
        exact ⟨gg, _, fin_vb HO.out.symm, by
          rw [HN.out, srtT_length]
          have e : (txN S N).length = N.length := by simp [txN]
          rw [e]
          exact own_up own2 (by omega)⟩
/-- Whether the first i of the states behind k lead back to it. -/
def agB (S : List (Sta Grid)) (k i : Nat) : Prop := ∃ e ∈ (sta S k).next.take i, GReach S e k
theorem agB_zero (S : List (Sta Grid)) (k : Nat) : ¬ agB S k 0 := fun ⟨_, h, _⟩ => by simp at h
theorem agB_succ (S : List (Sta Grid)) (k i : Nat) (hi : i < (sta S k).next.length) : agB S k (i + 1) ↔ agB S k i ∨ GReach S ((sta S k).next.getD i 0) k := by
  unfold agB
  rw [List.take_succ_eq_append_getElem hi, List.getD_eq_getElem?_getD, List.getElem?_eq_getElem hi]
  constructor
  · rintro ⟨e, he, hr⟩
    rcases List.mem_append.1 he with h | h
    · exact .inl ⟨e, h, hr⟩
    · rw [List.mem_singleton] at h; subst h; exact .inr hr
  · rintro (⟨e, he, hr⟩ | hr)
    · exact ⟨e, List.mem_append_left _ he, hr⟩
    · exact ⟨_, List.mem_append_right _ (List.mem_singleton.2 rfl), hr⟩
theorem SNx.gr' {base : Nat} {w w' : World} {S : List (Sta Grid)} {nx : Nat → Value} (h : SNx base w S nx) (g : Gr w w') : SNx base w' S nx := ⟨fun j hj => g.row (h.nxt j hj)⟩
theorem SNx.grb {base : Nat} {w w' : World} {S : List (Sta Grid)} {nx : Nat → Value} {b n : Nat} {o : Value} {xs : List Value} (h : SNx base w S nx) (ho : w.ownsRow b 9 1 o n xs) (g : Grb o.ownBlock w w') : SNx base w' S nx := ⟨fun j hj => g.row (h.nxt j hj) (own_ne2 (h.nxt j hj) ho (by decide))⟩
set_option maxHeartbeats 4000000 in
set_option maxRecDepth 100000 in
theorem sLastingTrays (s : ByteArray) (w : World) (hs : s.size ≤ 1048576) : Calls Tryz.prog 20 #[.string s] w (RetStrs 9 (laL s.data.toList) (crOk s.data.toList) w) := by
  have gg := Gr.refl w
  have HA := reAll_any s w hs
  unfold RetM at HA
  cases hR : rcS s.data.toList with
  | none =>
    rw [hR] at HA
    have HN := hidI (show laL s.data.toList = [] from by unfold laL; rw [hR])
    have HO := hidI (show crOk s.data.toList = false from by unfold crOk; rw [hR]; rfl)
    have HT := hidI (fun (w : World) => reSorted_any (.slice none 0 0) [] 0 w (World.ownsRow_nil _ _ _ _) (by decide))
    clear hR
    go_enter Tryz.func20, Tryz.ntmps20
    go_wp2_with (go_at_call 27; refine HA.mono ?_; rintro e w1 ⟨g1, rfl⟩)
    have gg := gg.trans g1
    have z1 := g1.size
    go_loopw [6, 19] (fun ov iv wr => ov = .slice none 0 0 ∧ iv = .int .i64 0 ∧ wr = w1) (fun _ _ _ => 0)
    case atStart => exact ⟨rfl, rfl, rfl⟩
    case round =>
      obtain ⟨rfl, rfl, rfl⟩ := hrel
      go_wp2_with (go_at_call 28; refine (HT.out _).mono ?_; rintro e w2 ⟨g2, u2, base2, rfl, hb2, own2⟩; have gg := gg.trans g2)
      go_ret2
      exact ⟨gg, _, fin_vb HO.out.symm, by
        rw [HN.out]
        have z := own_up own2 (b0 := w.heap.size) (by omega)
        simpa [srtT, trT, strV] using z⟩
  | some S =>
    rw [hR] at HA
    obtain ⟨g, -, hi⟩ := rcS_inv hR
    have h0 := hi.pos
    have h300 := hi.le
    have HNX := hidI (fun j (hj : j < S.length) e (he : e ∈ (sta S j).next) => (hi.edge hj he).1)
    have HNL := hidI (fun j (hj : j < S.length) => show (sta S j).next.length = 4 from by have := hi.nl j hj; rw [if_pos hj] at this; exact this)
    have HAG := hidI (fun j (hj : j < S.length) => show agB S j 4 ↔ j ∈ (sta S j).next from by
      have h4 : (sta S j).next.length = 4 := by have := hi.nl j hj; rw [if_pos hj] at this; exact this
      unfold agB
      rw [List.take_of_length_le (by omega)]
      exact again_iff hi hj)
    have HN := hidI (show laL s.data.toList = srtT (txN S (lasN S S.length)) from by unfold laL; rw [hR])
    have HO := hidI (show crOk s.data.toList = true from by unfold crOk; rw [hR]; rfl)
    clear hR hi
    go_enter Tryz.func20, Tryz.ntmps20
    go_wp2_with (first | (go_at_call 27; refine HA.mono ?_; rintro e w1 ⟨g1, v, bk, sl, nx, rfl, M, X⟩; obtain ⟨gB, cap, rfl, hlo, hcap⟩ := own_shape M.row h0; have gg := gg.trans g1; have z1 := g1.size))
    have own0 : w1.ownsRow w.heap.size 9 1 (.slice none 0 0) (lasN S 0).length (strV (txN S (lasN S 0))) := World.ownsRow_nil _ _ _ _
    go_loopw [6, 19] (fun ov iv wr => ∃ j : Nat, j ≤ S.length ∧ iv = .int .i64 j ∧ wr.ownsRow w.heap.size 9 1 ov (lasN S j).length (strV (txN S (lasN S j))) ∧ SSt w.heap.size wr (.slice (some ⟨gB, 0, none⟩) S.length cap) S bk sl nx ∧ SNx w.heap.size wr S nx ∧ Gr w wr) (fun _ iv _ => S.length - (intOf iv).toNat)
    case atStart => exact ⟨0, Nat.zero_le _, rfl, own0, M, X, gg⟩
    case round =>
      clear own0 M X gg
      obtain ⟨j, hj, rfl, own, M, X, gg⟩ := hrel
      have zr := gg.size
      by_cases hlt : j < S.length
      · obtain ⟨b, hb⟩ : ∃ b, b = bk j := ⟨_, rfl⟩
        obtain ⟨t, ht⟩ : ∃ t, t = txG (sta S j) := ⟨_, rfl⟩
        obtain ⟨N, hN⟩ : ∃ N, N = lasN S j := ⟨_, rfl⟩
        have hNl : N.length ≤ 300 := by rw [hN]; have := lasN_le S j; omega
        have HS1 := hidI (show lasN S (j + 1) = if j ∈ (sta S j).next then N ++ [j] else N from by rw [hN]; rfl)
        have HSU := hidI (show strV (txN S N) ++ [tx t] = strV (txN S (N ++ [j])) from by rw [ht]; exact txN_snoc S N j)
        have HC3 := hidI (fun (w' : World) (m : SSt w.heap.size w' (.slice (some ⟨gB, 0, none⟩) S.length cap) S bk sl nx) => show w'.cell? ⟨b, 3, none⟩ = some (tx t) from by rw [hb, ht]; exact m.cell hlt 3)
        have HCP := hidI (fun (w' : World) (m : SSt w.heap.size w' (.slice (some ⟨gB, 0, none⟩) S.length cap) S bk sl nx) => show w'.cell? ⟨gB, j, none⟩ = some (ptrV b) from by rw [hb]; exact m.ptr hlt)
        have HC8 := hidI (fun (w' : World) (m : SSt w.heap.size w' (.slice (some ⟨gB, 0, none⟩) S.length cap) S bk sl nx) => show w'.cell? ⟨b, 8, none⟩ = some (nx j) from by rw [hb]; exact m.cell hlt 8)
        rw [← hN] at own
        clear hb ht hN
        obtain ⟨p5, n5, k5, rfl⟩ := own_slice own
        obtain rfl : n5 = N.length := own_len own
        have cp := HCP.out _ M
        have c8 := HC8.out _ M
        have oj := X.nxt j hlt
        obtain ⟨g4, c4, e4, -, -⟩ := own_shape oj (by rw [HNL.out j hlt]; decide)
        rw [e4] at oj c8
        rw [HNL.out j hlt] at oj c8
        have OJ := hidI oj
        clear oj
        go_wp2_with (first | (refine r_idx 41 _ _ (.slice (some ⟨gB, 0, none⟩) S.length cap) (.int .i64 j) _ rfl rfl (Tryz.psix gB S.length cap j hlt _) rfl ?_) | (refine r_ldc 44 _ ⟨gB, j, none⟩ (ptrV b) rfl (Tryz.isAgg44 _) cp rfl ?_) | (refine r_nil _ ⟨b, 0, none⟩ rfl rfl ?_) | (refine r_fld 49 _ 6 (.pointer (some ⟨b, 0, none⟩)) (.pointer (some ⟨b, 8, none⟩)) rfl (Tryz.rf6 _ _) rfl ?_) | (refine r_ldc 35 _ ⟨b, 8, none⟩ (.slice (some ⟨g4, 0, none⟩) 4 c4) rfl (Tryz.isAgg35 _) c8 rfl ?_))
        obtain ⟨wj, rfl⟩ : ∃ wj : World, wj = wr := ⟨_, rfl⟩
        go_loopw [9, 29] (fun av iv wi => ∃ (i : Nat) (a : Bool), i ≤ 4 ∧ iv = .int .i64 i ∧ av = .bool a ∧ Hid (a = true ↔ agB S j i) ∧ Gr wj wi) (fun _ iv _ => 4 - (intOf iv).toNat)
        case atStart => exact ⟨0, false, by omega, rfl, rfl, hidI ⟨fun h => (by cases h), fun h => absurd h (agB_zero S j)⟩, Gr.refl _⟩
        case round =>
          obtain ⟨i, a, hi4, rfl, rfl, HA1, gi⟩ := hrel
          have own := gi.row own
          have M := M.gr gi
          have X := X.gr' gi
          have gg := gg.trans gi
          have oj := gi.row OJ.out
          by_cases hil : i < 4
          · have hle4 : (sta S j).next.length = 4 := HNL.out j hlt
            obtain ⟨q, hq⟩ : ∃ q, q = (sta S j).next.getD i 0 := ⟨_, rfl⟩
            have ci := natsV_get oj hle4 i hil
            rw [← hq] at ci
            have hqS : q < S.length := by rw [hq]; exact HNX.out j hlt _ (getD_mem (by omega))
            have HSC := hidI (show agB S j (i + 1) ↔ agB S j i ∨ GReach S q j from by rw [hq]; exact agB_succ S j i (by omega))
            clear hq
            cases ha : a with
            | true =>
              subst ha
              go_wp2_with (first | (refine r_idx 35 _ _ (.slice (some ⟨g4, 0, none⟩) 4 c4) (.int .i64 i) _ rfl rfl (Tryz.isixA g4 4 c4 i hil _) rfl ?_) | (refine r_ldc 3 _ ⟨g4, i, none⟩ (.int .i64 q) rfl (Tryz.isAgg3 _) ci rfl ?_))
              go_roundw
              case rel => exact ⟨i + 1, true, by omega, by go_num, rfl, hidI ⟨fun _ => HSC.out.2 (.inl (HA1.out.1 rfl)), fun _ => rfl⟩, gi⟩
              case measure => simp [intOf]; omega
            | false =>
              subst ha
              go_wp2_with (first | (refine r_idx 35 _ _ (.slice (some ⟨g4, 0, none⟩) 4 c4) (.int .i64 i) _ rfl rfl (Tryz.isixA g4 4 c4 i hil _) rfl ?_) | (refine r_ldc 3 _ ⟨g4, i, none⟩ (.int .i64 q) rfl (Tryz.isAgg3 _) ci rfl ?_) | (go_at_call 36; refine (reFrom_any S _ q (.slice (some ⟨gB, 0, none⟩) S.length cap) bk sl nx _ M X hqS h300 HNX.out HNL.out).mono ?_; rintro e w3 ⟨g3, v3, f, rfl, own3, hf3⟩; have gi := gi.trans g3; obtain ⟨B3, c3, rfl, -, -⟩ := own_shape own3 h0; have c0 := own_val own3 j _ hlt (boolsV_get _ _ j hlt)) | (refine r_idx 66 _ _ (.slice (some ⟨B3, 0, none⟩) S.length c3) (.int .i64 j) _ rfl rfl (Tryz.boix B3 S.length c3 j hlt _) rfl ?_) | (refine r_ldc 4 _ ⟨B3, j, none⟩ (.bool (f j)) rfl (Tryz.isAgg4 _) c0 rfl ?_))
              go_roundw
              case rel => exact ⟨i + 1, f j, by omega, by go_num, rfl, hidI ⟨fun h => HSC.out.2 (.inr ((hf3 j hlt).1 h)), fun h => (hf3 j hlt).2 ((HSC.out.1 h).resolve_left (fun h' => by have := HA1.out.2 h'; cases this))⟩, gi⟩
              case measure => simp [intOf]; omega
          · obtain rfl : i = 4 := by omega
            clear hil
            have c3 := HC3.out _ M
            cases ha : a with
            | true =>
              subst ha
              have hmem := (HAG.out j hlt).1 (HA1.out.1 rfl)
              have HS2 := hidI (show lasN S (j + 1) = N ++ [j] from by rw [HS1.out, if_pos hmem])
              clear hmem
              go_wp2_with (first | (refine r_nil _ ⟨b, 0, none⟩ rfl rfl ?_) | (refine r_fld 49 _ 1 (.pointer (some ⟨b, 0, none⟩)) (.pointer (some ⟨b, 3, none⟩)) rfl (Tryz.rf1 _ _) rfl ?_) | (refine r_ldc 9 _ ⟨b, 3, none⟩ (tx t) rfl (Tryz.isAgg9 _) c3 rfl ?_) | (refine r_slice1 22 9 (.tmp 48) (tx t) rfl (Tryz.bstr1 _ _) rfl ?_; intro w11 B11 N11; have g11 := N11.gr; have own := g11.row own; have M := M.gr g11; have X := X.gr' g11; have gg := gg.trans g11; have z11 := g11.size) | (refine r_append (.tmp 44) (.tmp 49) 22 9 _ 1 16 w.heap.size Tryz.strJ (.slice p5 N.length k5) N.length (strV (txN S N)) rfl own ⟨B11, 0, none⟩ 1 1 [tx t] rfl rfl N11.cell1 (by intro u hu; simp at hu; subst hu; rfl) (by omega) (by decide) (by have := gg.size; omega) rfl ?_; intro v12 w12 own12 g12))
              have M := M.keepT own g12
              have X := X.grb own g12
              have gg := g12.gr gg (own_gr own (Nat.le_refl _))
              rw [HSU.out] at own12
              go_roundw
              case rel => exact ⟨j + 1, by omega, by go_num, by rw [HS2.out, List.length_append]; exact own12, M, X, gg⟩
              case measure => simp [intOf]; omega
            | false =>
              subst ha
              have hmem : ¬ j ∈ (sta S j).next := fun h => by have := HA1.out.2 ((HAG.out j hlt).2 h); cases this
              have HS2 := hidI (show lasN S (j + 1) = N from by rw [HS1.out, if_neg hmem])
              clear hmem
              go_wp2
              go_roundw
              case rel => exact ⟨j + 1, by omega, by go_num, by rw [HS2.out]; exact own, M, X, gg⟩
              case measure => simp [intOf]; omega
      · obtain rfl : j = S.length := by omega
        clear hlt
        obtain ⟨T0, hT0⟩ : ∃ T0, T0 = txN S (lasN S S.length) := ⟨_, rfl⟩
        have hTl : T0.length = (lasN S S.length).length := by rw [hT0]; simp [txN]
        have hLl := lasN_le S S.length
        rw [← hT0] at own HN
        rw [← hTl] at own hLl
        clear hT0 hTl
        obtain ⟨p5, n5, k5, rfl⟩ := own_slice own
        obtain rfl : n5 = T0.length := own_len own
        have HOW := hidI own
        have hT3 : T0.length ≤ 65536 := by omega
        clear own
        go_wp2_with (go_at_call 28; refine (reSorted_any _ T0 _ _ HOW.out hT3).mono ?_; rintro e w2 ⟨g2, u2, base2, rfl, hb2, own2⟩; have gg := gg.trans g2)
        go_ret2
        exact ⟨gg, _, fin_vb HO.out.symm, by
          rw [HN.out, srtT_length]
          exact own_up own2 (by omega)⟩
set_option maxHeartbeats 4000000 in
set_option maxRecDepth 100000 in
theorem lawLastingTrays (s : ByteArray) (w : World) (hm : ML w) : Calls Tryz.prog 6 #[.string s] w (Ret (.bool true) w) := by
  have gg := Gr.refl w
  by_cases hs : 1048576 < s.size
  · go_enter Tryz.func6, Tryz.ntmps6
    go_wp2
    go_ret
    exact ⟨rfl, gg⟩
  · have hs' : s.size ≤ 1048576 := by omega
    have hle := laL_le s.data.toList
    clear hs
    obtain ⟨L, hL⟩ : ∃ L, L = laL s.data.toList := ⟨_, rfl⟩
    obtain ⟨ok, hok⟩ : ∃ ok, ok = crOk s.data.toList := ⟨_, rfl⟩
    have HL := hidI hL
    have HOK := hidI hok
    rw [← hL] at hle
    clear hL hok
    go_enter Tryz.func6, Tryz.ntmps6
    go_wp2_with fail
    refine (sLastingTrays s _ hs').mono ?_
    rintro e w1 ⟨g1, v1, rfl, own1⟩
    rw [← HL.out] at own1
    have gg := gg.trans g1
    rw [← HOK.out]
    go_wp2_with fail
    refine (iLastingTrays s _ (gg.ml hm) hs').mono ?_
    rintro e w2 ⟨g2, v2, rfl, own2⟩
    rw [← HL.out] at own2
    rw [← HOK.out]
    have gg := gg.trans g2
    have HAP := hidI (own_far own1 own2 (Nat.le_refl _))
    have own1 := g2.row own1
    go_wp2_with fail
    refine (eqStringS_any v2 v1 L _ _ _ own2 own1 (by omega)).mono ?_
    rintro e w3 ⟨rfl, g3⟩
    have own1 := g3.row own1
    have own2 := g3.row own2
    have gg := gg.trans g3
    go_wp2_with fail
    refine (markStringS_any v2 L _ _ own2 (by omega)).mono ?_
    rintro e w4 ⟨rfl, own2', g4⟩
    have own1 := g4.row own1 HAP.out
    have gg := g4.gr gg (own_gr own2 (by have := g1.size; omega))
    obtain ⟨Mk, hMk⟩ : ∃ Mk, Mk = markST L 1 L.length := ⟨_, rfl⟩
    rw [← hMk] at own2'
    have HML := hidI (show Mk.length = L.length from by rw [hMk, markST_length])
    have HMA := hidI (show ∀ i, i < Mk.length → ts Mk i = mkT (1 + i) from fun i hi => by
      rw [HML.out] at hi
      rw [hMk]
      exact markST_at L 1 L.length i (Nat.le_refl _) hi)
    have own2 := own2'
    rw [← HML.out] at own2
    clear own2' hMk
    have hM8 : Mk.length ≤ 800 := by rw [HML.out]; omega
    obtain ⟨n, hn⟩ : ∃ n : Nat, n = 1 + L.length := ⟨_, rfl⟩
    rw [← hn]
    have HN := hidI (show 1 + Mk.length = n from by rw [HML.out, hn])
    have hn2 : n ≤ 302 := by omega
    clear hn
    go_wp2_with fail
    refine (heldStringS_any v2 Mk _ _ own2 HMA.out hM8).mono ?_
    rintro e w5 ⟨rfl, g5⟩
    rw [HN.out]
    have own1 := g5.row own1
    have own2 := g5.row own2
    have gg := gg.trans g5
    go_wp2_with fail
    refine (iLastingTrays s _ (gg.ml hm) hs').mono ?_
    rintro e w6 ⟨g6, v6, rfl, own6⟩
    rw [← HL.out] at own6
    rw [← HOK.out]
    have gg := gg.trans g6
    have own1 := g6.row own1
    have own2 := g6.row own2
    go_wp2_with fail
    refine (eqStringS_any v6 v1 L _ _ _ own6 own1 (by omega)).mono ?_
    rintro e w7 ⟨rfl, g7⟩
    have own2 := g7.row own2
    have gg := gg.trans g7
    go_wp2_with fail
    refine (heldStringS_any v2 Mk _ _ own2 HMA.out hM8).mono ?_
    rintro e w8 ⟨rfl, g8⟩
    rw [HN.out]
    have gg := gg.trans g8
    go_wp2
    go_ret
    exact ⟨rfl, gg⟩
end Go.Proofs.YtcldlnleiiloaaaGreatDoor
