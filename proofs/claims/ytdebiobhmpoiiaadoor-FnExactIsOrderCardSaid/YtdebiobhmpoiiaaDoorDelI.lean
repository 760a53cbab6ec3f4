/-
  slices.IndexFunc and slices.DeleteFunc over a row of numbers, with a predicate that makes memory.
-/
import Derived.Test.YtdebiobhmpoiiaaDoorCallC
import Derived.Test.YtdebiobhmpoiiaaDoorBLa
import Derived.Test.YtdebiobhmpoiiaaDoorWayR
import Derived.Lib.SliceRun
namespace Go.Proofs.YtdebiobhmpoiiaaDoor
open Go.RowKit
theorem intsV_getO (L : List Int) (j : Nat) (h : j < L.length) : (intsV L)[j]? = some (.int .i64 (gi L j)) := by
  unfold intsV gi
  rw [List.getElem?_map, List.getElem?_eq_getElem h, List.getD_eq_getElem?_getD, List.getElem?_eq_getElem h]
  rfl
theorem intsV_setO (L : List Int) (i : Nat) (x : Int) : (intsV L).set i (.int .i64 x) = intsV (L.set i x) := by
  unfold intsV
  rw [List.map_set]
theorem own_slO {w : World} {base n : Nat} {e : TypeId} {v : Value} {xs : List Value} (h : w.ownsRow base e 1 v n xs) : ∃ p k, v = .slice p n k := by
  obtain ⟨p, m, k, rfl⟩ := own_slice h
  obtain rfl : m = n := own_len h
  exact ⟨p, k, rfl⟩
/-- The first place below n where p holds; -1 if there is none. -/
def fiO (p : Nat → Bool) (n : Nat) : Int := match (List.range n).find? p with
  | some j => j
  | none => -1
theorem fiO_at {p : Nat → Bool} {n j : Nat} (h : ∀ k, k < j → p k = false) (hp : p j = true) (hj : j < n) : fiO p n = j := by
  unfold fiO
  have e : (List.range n).find? p = some j := by
    rw [List.find?_range_eq_some]
    exact ⟨hp, List.mem_range.2 hj, fun k hk => by rw [h k hk]; rfl⟩
  rw [e]
theorem fiO_no {p : Nat → Bool} {n : Nat} (h : ∀ k, k < n → p k = false) : fiO p n = -1 := by
  unfold fiO
  have e : (List.range n).find? p = none := by
    rw [List.find?_eq_none]
    intro k hk
    rw [h k (List.mem_range.1 hk)]
    simp
  rw [e]
theorem setCells_blkO {B : Nat} {T : TypeId} : ∀ (vs : List Value) (o : Nat) (w : World) (cs : Array Value), Blk w B cs T → o + vs.length ≤ cs.size →
    Upd B w (w.setCells B o vs) ∧ ∃ cs' : Array Value, Blk (w.setCells B o vs) B cs' T ∧ cs'.size = cs.size ∧ ∀ k, k < o → cs'[k]? = cs[k]?
  | [], o, w, cs, hb, _ => ⟨⟨rfl, rfl, rfl, rfl, fun _ _ => rfl⟩, cs, hb, rfl, fun _ _ => rfl⟩
  | v :: r, o, w, cs, hb, hl => by
    have hl' : o + (r.length + 1) ≤ cs.size := hl
    have hu : Upd B w (w.setCell ⟨B, o, none⟩ v) := Upd.setCell w ⟨B, o, none⟩ v
    have hb1 : Blk (w.setCell ⟨B, o, none⟩ v) B (cs.setIfInBounds o v) T := heap_setCell_same w B o cs T v hb
    obtain ⟨u2, cs', b2, hs, hk⟩ := setCells_blkO r (o + 1) (w.setCell ⟨B, o, none⟩ v) (cs.setIfInBounds o v) hb1 (by rw [Array.size_setIfInBounds]; omega)
    refine ⟨?_, cs', b2, by rw [hs, Array.size_setIfInBounds], fun k hk' => ?_⟩
    · exact ⟨u2.os.trans hu.os, u2.tape.trans hu.tape, u2.output.trans hu.output, hu.size.trans u2.size, fun k h => (u2.block k h).trans (hu.block k h)⟩
    · rw [hk k (by omega), Array.getElem?_setIfInBounds, if_neg (by omega)]
theorem mem_giO {L : List Int} {j : Nat} (h : j < L.length) : gi L j ∈ L := by
  unfold gi
  rw [List.getD_eq_getElem?_getD, List.getElem?_eq_getElem h]
  exact List.getElem_mem _
/-- How a row is filtered in place: behind j texts the first i are those that stay. -/
structure DfO (q : Int → Bool) (L : List Int) (i j : Nat) (R : List Int) : Prop where
  len : R.length = L.length
  le : i < j
  jl : j ≤ L.length
  take : R.take i = (L.take j).filter fun l => !q l
  rest : ∀ x, j ≤ x → gi R x = gi L x
theorem take_giO {L : List Int} {j : Nat} (h : j < L.length) : L.take (j + 1) = L.take j ++ [gi L j] := by
  rw [List.take_succ_eq_append_getElem h]
  unfold gi
  rw [List.getD_eq_getElem?_getD, List.getElem?_eq_getElem h]
  rfl
theorem filt_noneO {q : Int → Bool} {L : List Int} (j : Nat) (hj : j ≤ L.length) (h : ∀ k, k < j → q (gi L k) = false) : (L.take j).filter (fun l => !q l) = L.take j := by
  induction j with
  | zero => rfl
  | succ j ih =>
    rw [take_giO (by omega), List.filter_append, ih (by omega) (fun k hk => h k (by omega)), List.filter_cons_of_pos (by rw [h j (by omega)]; rfl)]
    rfl
theorem DfO.start {q : Int → Bool} {L : List Int} {i : Nat} (hi : i < L.length) (h : ∀ k, k < i → q (gi L k) = false) (hq : q (gi L i) = true) : DfO q L i (i + 1) L :=
  ⟨rfl, Nat.lt_succ_self _, hi, by rw [take_giO hi, List.filter_append, filt_noneO i (by omega) h, List.filter_cons_of_neg (by rw [hq]; simp)]; simp, fun _ _ => rfl⟩
theorem DfO.skip {q : Int → Bool} {L R : List Int} {i j : Nat} (h : DfO q L i j R) (hj : j < L.length) (hq : q (gi L j) = true) : DfO q L i (j + 1) R :=
  ⟨h.len, by have := h.le; omega, hj, by rw [h.take, take_giO hj, List.filter_append, List.filter_cons_of_neg (by rw [hq]; simp)]; simp, fun x hx => h.rest x (by omega)⟩
theorem DfO.keep {q : Int → Bool} {L R : List Int} {i j : Nat} (h : DfO q L i j R) (hj : j < L.length) (hq : q (gi L j) = false) : DfO q L (i + 1) (j + 1) (R.set i (gi L j)) := by
  have hl := h.len
  have hij := h.le
  refine ⟨by rw [List.length_set]; exact hl, by omega, hj, ?_, fun x hx => ?_⟩
  · rw [List.take_succ_eq_append_getElem (by rw [List.length_set]; omega), List.getElem_set_self, List.take_set_of_le (Nat.le_refl _), h.take, take_giO hj, List.filter_append, List.filter_cons_of_pos (by rw [hq]; rfl)]
    rfl
  · rw [← h.rest x (by omega)]
    unfold gi
    rw [List.getD_eq_getElem?_getD, List.getD_eq_getElem?_getD, List.getElem?_set_ne (by omega), ← List.getD_eq_getElem?_getD]
theorem DfO.done {q : Int → Bool} {L R : List Int} {i : Nat} (h : DfO q L i L.length R) : R.take i = L.filter fun l => !q l := by
  rw [h.take, List.take_length]
/-- The first i cells of a row whose others were cleared. -/
theorem own_cut_clearO {w : World} {base g n cap i : Nat} {e : TypeId} {R : List Int} (hr : w.ownsRow base e 1 (.slice (some ⟨g, 0, none⟩) n cap) n (intsV R)) (hR : R.length = n) (hi : i ≤ n) (z : Value) :
    Upd g w (w.setCells g i (List.replicate (n - i) z)) ∧ (w.setCells g i (List.replicate (n - i) z)).ownsRow base e 1 (.slice (some ⟨g, 0, none⟩) i cap) i (intsV (R.take i)) := by
  rcases hr.2 with ⟨h', _⟩ | ⟨g', cap', cur, h', hb, hg, hnc, hcm, hcs, htake⟩
  · cases h'
  · simp only [Value.slice.injEq, Option.some.injEq, Addr.mk.injEq, and_true, true_and] at h'
    obtain ⟨rfl, rfl⟩ := h'
    rw [Nat.mul_one] at hcs htake
    obtain ⟨u, cs', b, hs, hk⟩ := setCells_blkO (T := e) (List.replicate (n - i) z) i w cur hg (by rw [List.length_replicate]; omega)
    refine ⟨u, ?_, .inr ⟨g, cap, cs', rfl, hb, b, by omega, hcm, by rw [hs, Nat.mul_one]; exact hcs, ?_⟩⟩
    · unfold intsV
      rw [List.length_map, List.length_take]
      omega
    · rw [Nat.mul_one]
      have e1 : cs'.toList.take i = cur.toList.take i := by
        apply List.ext_getElem?
        intro k
        rw [List.getElem?_take, List.getElem?_take]
        split
        · rename_i hlt
          rw [Array.getElem?_toList, Array.getElem?_toList]
          exact hk k hlt
        · rfl
      rw [e1]
      have : cur.toList.take i = (cur.toList.take n).take i := by rw [List.take_take, Nat.min_eq_left hi]
      rw [this, htake]
      unfold intsV
      rw [List.map_take]
theorem own_unfrozenO {w : World} {base g n cap : Nat} {e : TypeId} {size : Nat} {xs : List Value} (hr : w.ownsRow base e size (.slice (some ⟨g, 0, none⟩) n cap) n xs) (o : Nat) : w.frozen? ⟨g, o, none⟩ = false := by
  rcases hr.2 with ⟨h', _⟩ | ⟨g', cap', cur, h', hb, hg, -⟩
  · cases h'
  · simp only [Value.slice.injEq, Option.some.injEq, Addr.mk.injEq, and_true, true_and] at h'
    obtain ⟨rfl, rfl⟩ := h'
    exact Blk.free (show Blk w g cur e from hg) o
theorem Tryd.nixO (g n cap k : Nat) (hk : k < n) (w : World) : (Instr.indexAt 34 (.slice (some ⟨g, 0, none⟩) n cap) (.int .i64 k)).run Tryd.prog w = .ok (.pointer (some ⟨g, k, none⟩)) w := by
  have he : Tryd.prog.elem 34 = 3 := by kernel_rfl
  have hu : Tryd.prog.underlying 34 = some (.slice (Tryd.prog.elem 34)) := by rw [he]; exact Tryd.underlying34
  have hs : (sizeOf 3).run Tryd.prog w = .ok 1 w := by kernel_rfl
  rw [run_indexAt_slice w 34 ⟨g, 0, none⟩ n cap .i64 k hu, if_pos (by omega), he]
  simp [hs, Result.andThen, add_flat]
def dV (B : Nat) : Value := .func (.func 118) #[] #[.pointer (some ⟨B, 0, none⟩)]
set_option maxHeartbeats 800000 in
set_option maxRecDepth 100000 in
theorem indexO_any (q : Int → Bool) (L : List Int) (B base : Nat) (sl : Value) (w0 w : World) (hl : L.length ≤ 1000) (hown : w.ownsRow base 3 1 sl L.length (intsV L)) (g0 : Gr w0 w)
    (HP : ∀ l ∈ L, ∀ w', Gr w0 w' → Calls Tryd.prog 118 #[.int .i64 l, .pointer (some ⟨B, 0, none⟩)] w' (Ret (.bool (q l)) w')) :
    Calls Tryd.prog 79 #[sl, dV B] w (Ret (.int .i64 (fiO (fun j => q (gi L j)) L.length)) w) := by
  have gg := Gr.refl w
  obtain ⟨N, hN⟩ : ∃ N, N = L.length := ⟨_, rfl⟩
  rw [← hN] at hown hl ⊢
  have HAT := hidI (fun j (h : ∀ k, k < j → q (gi L k) = false) (hp : q (gi L j) = true) (hj : j < N) => fiO_at (p := fun k => q (gi L k)) h hp hj)
  have HNO := hidI (fun (h : ∀ k, k < N → q (gi L k) = false) => fiO_no (p := fun k => q (gi L k)) h)
  obtain ⟨R, hR⟩ : ∃ R, R = fiO (fun k => q (gi L k)) N := ⟨_, rfl⟩
  rw [← hR] at HAT HNO ⊢
  have HPP := hidI (fun j (hj : j < N) => HP (gi L j) (mem_giO (by omega)))
  have HG := hidI (fun j (hj : j < N) => intsV_getO L j (by omega))
  clear hR HP hN
  obtain ⟨p, cap, rfl⟩ := own_slO hown
  unfold dV
  go_enter Tryd.func79, Tryd.ntmps79
  go_wp2
  go_loopw [8] (fun iv wr => ∃ j : Nat, j ≤ N ∧ iv = .int .i64 j ∧ (∀ k, k < j → q (gi L k) = false) ∧ Gr w wr) (fun iv _ => N - (intOf iv).toNat)
  case atStart => exact ⟨0, Nat.zero_le _, rfl, fun k hk => absurd hk (Nat.not_lt_zero _), gg⟩
  case round =>
    obtain ⟨j, hj, rfl, hall, gg⟩ := hrel
    have own := gg.row hown
    by_cases hlt : j < N
    · have HALL := hidI hall
      clear hall
      obtain ⟨G, cap', he, -, -⟩ := own_shape own (by omega)
      obtain ⟨rfl, rfl⟩ : p = some ⟨G, 0, none⟩ ∧ cap = cap' := by
        simp only [Value.slice.injEq] at he
        exact ⟨he.1, he.2.2⟩
      have hcell := (own.cellAt j (by omega)).trans (HG.out j hlt)
      have HC := hidI (HPP.out j hlt _ (g0.trans gg))
      obtain ⟨l, hl⟩ : ∃ l, l = gi L j := ⟨_, rfl⟩
      have HLJ := hidI hl
      rw [← hl] at hcell HC
      skip
      clear he hl
      cases hb : q l
      · rw [hb] at HC
        have HB := hidI hb
        clear hb
        go_wp2_with (first | (refine r_idx 34 _ _ (.slice (some ⟨G, 0, none⟩) N cap) (.int .i64 j) _ rfl rfl (Tryd.nixO G N cap j hlt _) rfl ?_) | (refine r_ldc 3 _ ⟨G, j, none⟩ (.int .i64 l) rfl (Tryd.isAgg3 _) hcell rfl ?_) | (refine r_callc 118 (.tmp 11) [.tmp 15] _ [.int .i64 l] [.pointer (some ⟨B, 0, none⟩)] (.bool false) (fun w' => Gr _ w') Tryd.call118 rfl rfl rfl HC.out ?_; intro w5 g5; have gg := gg.trans g5))
        go_roundw
        case rel => exact ⟨j + 1, by omega, by go_num, fun k hk => (by rcases Nat.lt_succ_iff_lt_or_eq.1 hk with h | rfl; exact HALL.out k h; rw [← HLJ.out]; exact HB.out), gg⟩
        case measure => simp [intOf]; omega
      · rw [hb] at HC
        have HB := hidI hb
        clear hb
        go_wp2_with (first | (refine r_idx 34 _ _ (.slice (some ⟨G, 0, none⟩) N cap) (.int .i64 j) _ rfl rfl (Tryd.nixO G N cap j hlt _) rfl ?_) | (refine r_ldc 3 _ ⟨G, j, none⟩ (.int .i64 l) rfl (Tryd.isAgg3 _) hcell rfl ?_) | (refine r_callc 118 (.tmp 11) [.tmp 15] _ [.int .i64 l] [.pointer (some ⟨B, 0, none⟩)] (.bool true) (fun w' => Gr _ w') Tryd.call118 rfl rfl rfl HC.out ?_; intro w5 g5; have gg := gg.trans g5))
        go_ret
        exact ⟨ret_int (HAT.out j HALL.out (by rw [← HLJ.out]; exact HB.out) hlt).symm, gg⟩
    · obtain rfl : j = N := by omega
      have HV := hidI (HNO.out hall)
      clear hlt hall
      go_wp2
      go_ret
      exact ⟨ret_int HV.out.symm, gg⟩
theorem Tryd.icutO (p : Option Addr) (n cap q : Nat) (hq : q ≤ cap) (w : World) : (Instr.sliceAt 34 (.slice p n cap) none (some (.int .i64 q)) none).run Tryd.prog w = .ok (.slice p q cap) w := by
  have hu : Tryd.prog.underlying 34 = some (.slice (Tryd.prog.elem 34)) := by kernel_rfl
  have he : Tryd.prog.elem 34 = 3 := by kernel_rfl
  rw [run_sliceAt_slice w 34 _ _ _ _ hu, run_slice_h w 34 p n cap hu .i64 q (by omega) (by omega), he]
  simp [Tryd.sizeOf3, Result.andThen, sliced]
  intro _
  cases p with
  | none => rfl
  | some ad => simp [add_zero']
theorem Tryd.ifromO (G n cap q : Nat) (hq : q < n) (hn : n ≤ cap) (w : World) : (Instr.sliceAt 34 (.slice (some ⟨G, 0, none⟩) n cap) (some (.int .i64 q)) none none).run Tryd.prog w = .ok (.slice (some ⟨G, q, none⟩) (n - q) (cap - q)) w := by
  have hu : Tryd.prog.underlying 34 = some (.slice (Tryd.prog.elem 34)) := by kernel_rfl
  have he : Tryd.prog.elem 34 = 3 := by kernel_rfl
  rw [run_sliceAt_slice w 34 _ _ _ _ hu, run_slice_l w 34 _ n cap hu .i64 q (by omega) (by omega), he]
  have hne : cap ≠ q := by omega
  simp [Tryd.sizeOf3, Result.andThen, sliced, hne, add_flat']
set_option maxHeartbeats 800000 in
set_option maxRecDepth 100000 in
theorem deleteO_any (q : Int → Bool) (L : List Int) (B : Nat) (sl : Value) (w0 w : World) (hl : L.length ≤ 1000) (hown : w.ownsRow w0.heap.size 3 1 sl L.length (intsV L)) (g0 : Gr w0 w)
    (HP : ∀ l ∈ L, ∀ w', Gr w0 w' → Calls Tryd.prog 118 #[.int .i64 l, .pointer (some ⟨B, 0, none⟩)] w' (Ret (.bool (q l)) w')) :
    Calls Tryd.prog 117 #[sl, dV B] w fun e w' => Gr w0 w' ∧ ∃ v, e = .returned v ∧ w'.ownsRow w0.heap.size 3 1 v (L.filter fun l => !q l).length (intsV (L.filter fun l => !q l)) := by
  have HIF := hidI (indexO_any q L B w0.heap.size sl w0 w hl hown g0 HP)
  obtain ⟨N, hN⟩ : ∃ N, N = L.length := ⟨_, rfl⟩
  rw [← hN] at hown hl HIF
  have HN := hidI hN
  clear hN
  obtain ⟨p, cap, rfl⟩ := own_slO hown
  by_cases hall : ∀ k, k < N → q (gi L k) = false
  · have hM : (L.filter fun l => !q l) = L := by
      have := filt_noneO (q := q) L.length (Nat.le_refl _) (fun k hk => hall k (by rw [HN.out]; exact hk))
      rwa [List.take_length] at this
    rw [fiO_no hall] at HIF
    have HR := hidI (show w.ownsRow w0.heap.size 3 1 (.slice p N cap) (L.filter fun l => !q l).length (intsV (L.filter fun l => !q l)) from by rw [hM, ← HN.out]; exact hown)
    have gg := g0
    clear hall hM HP
    obtain ⟨M, hM⟩ : ∃ M, M = L.filter fun l => !q l := ⟨_, rfl⟩
    rw [← hM] at HR ⊢
    clear hM
    go_enter Tryd.func117, Tryd.ntmps117
    go_wp2_with (go_at_call 79; refine HIF.out.mono ?_; rintro e w1 ⟨rfl, g1⟩; have gg := gg.trans g1)
    go_ret
    exact ⟨gg, _, rfl, g1.row HR.out⟩
  · obtain ⟨i0, hi0, hq0, hmin⟩ : ∃ i, i < N ∧ q (gi L i) = true ∧ ∀ k, k < i → q (gi L k) = false := by
      have hex : ∃ k, k < N ∧ q (gi L k) = true := by
        apply Classical.byContradiction
        intro h
        exact hall fun k hk => by
          cases hq : q (gi L k)
          · rfl
          · exact absurd ⟨k, hk, hq⟩ h
      cases hf : (List.range N).find? (fun k => q (gi L k)) with
      | none =>
        rw [List.find?_eq_none] at hf
        obtain ⟨k, hk, hq⟩ := hex
        exact absurd hq (by simpa using hf k (List.mem_range.2 hk))
      | some i =>
        rw [List.find?_eq_some_iff_getElem] at hf
        obtain ⟨h1, j, hj, e, h2⟩ := hf
        rw [List.length_range] at hj
        rw [List.getElem_range] at e
        subst e
        exact ⟨j, hj, h1, fun k hk => by have := h2 k hk; rw [List.getElem_range] at this; simpa using this⟩
    rw [fiO_at hmin hq0 hi0] at HIF
    have HD0 := hidI (DfO.start (L := L) (by rw [← HN.out]; exact hi0) hmin hq0)
    clear hall hmin hq0
    have HPP := hidI (fun j (hj : j < N) => HP (gi L j) (mem_giO (by rw [← HN.out]; exact hj)))
    clear HP
    obtain ⟨G, cap', he, hGb, hnc⟩ := own_shape hown (by omega)
    obtain ⟨rfl, rfl⟩ : p = some ⟨G, 0, none⟩ ∧ cap = cap' := by
      simp only [Value.slice.injEq] at he
      exact ⟨he.1, he.2.2⟩
    have gg := g0
    have HFI := hidI hown
    have e0 : ((i0 : Int) == -1) = false := by rw [beq_eq_false_iff_ne]; omega
    clear he hown g0
    go_enter Tryd.func117, Tryd.ntmps117
    go_wp2_with (go_at_call 79; refine HIF.out.mono ?_; rintro e w1 ⟨rfl, g1⟩; have gg := gg.trans g1)
    have own1 := g1.row HFI.out
    go_loopw [5, 6] (fun iv jv wr => ∃ (i j : Nat) (R : List Int), iv = .int .i64 i ∧ jv = .int .i64 j ∧ i < j ∧ j ≤ N ∧ Hid (DfO q L i j R) ∧ wr.ownsRow w0.heap.size 3 1 (.slice (some ⟨G, 0, none⟩) N cap) N (intsV R) ∧ Gr w0 wr) (fun _ jv _ => N - (intOf jv).toNat)
    case atStart => exact ⟨i0, i0 + 1, L, rfl, by go_num, by omega, by omega, HD0, own1, gg⟩
    case round =>
      clear own1 gg
      obtain ⟨i, j, R, rfl, rfl, hij, hjN, HD, own, gg⟩ := hrel
      have hRN : R.length = N := by rw [HD.out.len, HN.out]
      by_cases hlt : j < N
      · have hcell := (own.cellAt j (by omega)).trans (intsV_getO R j (by omega))
        rw [HD.out.rest j (Nat.le_refl _)] at hcell
        have HC := hidI (HPP.out j hlt _ gg)
        have HSK := hidI (fun h => HD.out.skip (by rw [← HN.out]; exact hlt) h)
        have HKE := hidI (fun h => HD.out.keep (by rw [← HN.out]; exact hlt) h)
        obtain ⟨l, hl'⟩ : ∃ l, l = gi L j := ⟨_, rfl⟩
        rw [← hl'] at hcell HC HSK HKE
        skip
        have HRN := hidI hRN
        clear hl' hRN
        cases hb : q l
        · rw [hb] at HC
          have HKN := hidI (HKE.out hb)
          clear hb HSK HKE
          have HSV := hidI (intsV_setO R i l)
          go_wp2_with (first | (refine r_idx 34 _ _ (.slice (some ⟨G, 0, none⟩) N cap) (.int .i64 j) _ rfl rfl (Tryd.nixO G N cap j hlt _) rfl ?_) | (refine r_ldc 3 _ ⟨G, j, none⟩ (.int .i64 l) rfl (Tryd.isAgg3 _) hcell rfl ?_) | (refine r_callc 118 (.tmp 26) [.tmp 27] _ [.int .i64 l] [.pointer (some ⟨B, 0, none⟩)] (.bool false) (fun w' => Gr _ w') Tryd.call118 rfl rfl rfl HC.out ?_; intro w5 g5; have gg := gg.trans g5; have own := g5.row own) | (refine r_idx 34 _ _ (.slice (some ⟨G, 0, none⟩) N cap) (.int .i64 i) _ rfl rfl (Tryd.nixO G N cap i (by omega) _) rfl ?_) | (refine r_store_own 3 3 (.tmp 33) (.tmp 32) G i N cap w0.heap.size (intsV R) rfl (.int .i64 l) rfl own (by omega) Tryd.sizeOf3 rfl rfl ?_; intro w6 u6 own6; have gg := u6.gr gg hGb))
          have own6 := HSV.out ▸ own6
          go_roundw
          case rel => exact ⟨i + 1, j + 1, R.set i l, by go_num, by go_num, by omega, by omega, HKN, own6, gg⟩
          case measure => simp [intOf]; omega
        · rw [hb] at HC
          have HSN := hidI (HSK.out hb)
          clear hb HSK HKE
          go_wp2_with (first | (refine r_idx 34 _ _ (.slice (some ⟨G, 0, none⟩) N cap) (.int .i64 j) _ rfl rfl (Tryd.nixO G N cap j hlt _) rfl ?_) | (refine r_ldc 3 _ ⟨G, j, none⟩ (.int .i64 l) rfl (Tryd.isAgg3 _) hcell rfl ?_) | (refine r_callc 118 (.tmp 26) [.tmp 27] _ [.int .i64 l] [.pointer (some ⟨B, 0, none⟩)] (.bool true) (fun w' => Gr _ w') Tryd.call118 rfl rfl rfl HC.out ?_; intro w5 g5; have gg := gg.trans g5; have own := g5.row own))
          go_roundw
          case rel => exact ⟨i, j + 1, R, rfl, by go_num, by omega, by omega, HSN, own, gg⟩
          case measure => simp [intOf]; omega
      · obtain rfl : j = N := by omega
        have HDN := hidI (show R.take i = L.filter fun l => !q l from (DfO.done (HN.out ▸ HD.out)))
        have HOC := hidI (own_cut_clearO own hRN (Nat.le_of_lt hij) (.int .i64 0))
        have hcl : ∀ ty, (Builtin.clear_ #[34] ty #[.slice (some ⟨G, i, none⟩) (j - i) (cap - i)]).run Tryd.prog _ = .ok (.tuple #[]) _ :=
          fun ty => Lib.run_clear_slice _ 34 3 ty (.int .i64 0) Tryd.underlying34 (fun w => by kernel_rfl) rfl rfl G i (j - i) (cap - i) (by omega) (fun t ht => by rw [own.cellAt (i + t) (by omega), intsV_getO R (i + t) (by omega)]; rfl) (fun t ht => own_unfrozenO own _)
        have hfr := Tryd.ifromO G j cap i hij hnc
        have hct := Tryd.icutO (some ⟨G, 0, none⟩) j cap i (by omega)
        have e1 : (j : Int) - i = ((j - i : Nat) : Int) := by omega
        go_wp2_with (first | (refine r_cut_lo 34 _ _ (.slice (some ⟨G, 0, none⟩) j cap) (.int .i64 i) _ rfl rfl (hfr _) rfl ?_) | (refine r_cut_hi 34 _ _ (.slice (some ⟨G, 0, none⟩) j cap) (.int .i64 i) _ rfl rfl (hct _) rfl ?_))
        go_ret
        have hli : (L.filter fun l => !q l).length = i := by rw [← HDN.out, List.length_take]; omega
        exact ⟨HOC.out.1.gr gg hGb, _, rfl, by rw [hli, ← HDN.out]; exact HOC.out.2⟩
end Go.Proofs.YtdebiobhmpoiiaaDoor
