/-
  slices.IndexFunc and slices.DeleteFunc over a row of texts, with a predicate that makes memory.
-/
import Derived.Test.YtbppbbkcampglaaDoorWbkI
import Derived.Test.YtbppbbkcampglaaDoorBLa
import Derived.Lib.SliceRun
namespace Go.Proofs.YtbppbbkcampglaaDoor
open Go.RowKit
theorem setCells_blk {B : Nat} {T : TypeId} : ∀ (vs : List Value) (o : Nat) (w : World) (cs : Array Value), Blk w B cs T → o + vs.length ≤ cs.size →
    Upd B w (w.setCells B o vs) ∧ ∃ cs' : Array Value, Blk (w.setCells B o vs) B cs' T ∧ cs'.size = cs.size ∧ ∀ k, k < o → cs'[k]? = cs[k]?
  | [], o, w, cs, hb, _ => ⟨⟨rfl, rfl, rfl, rfl, fun _ _ => rfl⟩, cs, hb, rfl, fun _ _ => rfl⟩
  | v :: r, o, w, cs, hb, hl => by
    have hl' : o + (r.length + 1) ≤ cs.size := hl
    have hu : Upd B w (w.setCell ⟨B, o, none⟩ v) := Upd.setCell w ⟨B, o, none⟩ v
    have hb1 : Blk (w.setCell ⟨B, o, none⟩ v) B (cs.setIfInBounds o v) T := heap_setCell_same w B o cs T v hb
    obtain ⟨u2, cs', b2, hs, hk⟩ := setCells_blk r (o + 1) (w.setCell ⟨B, o, none⟩ v) (cs.setIfInBounds o v) hb1 (by rw [Array.size_setIfInBounds]; omega)
    refine ⟨?_, cs', b2, by rw [hs, Array.size_setIfInBounds], fun k hk' => ?_⟩
    · exact ⟨u2.os.trans hu.os, u2.tape.trans hu.tape, u2.output.trans hu.output, hu.size.trans u2.size, fun k h => (u2.block k h).trans (hu.block k h)⟩
    · rw [hk k (by omega), Array.getElem?_setIfInBounds, if_neg (by omega)]
theorem mem_ts {L : List (List UInt8)} {j : Nat} (h : j < L.length) : ts L j ∈ L := by
  unfold ts
  rw [List.getD_eq_getElem?_getD, List.getElem?_eq_getElem h]
  exact List.getElem_mem _
/-- How a row is filtered in place: behind j texts the first i are those that stay. -/
structure DfI (q : List UInt8 → Bool) (L : List (List UInt8)) (i j : Nat) (R : List (List UInt8)) : Prop where
  len : R.length = L.length
  le : i < j
  jl : j ≤ L.length
  take : R.take i = (L.take j).filter fun l => !q l
  rest : ∀ x, j ≤ x → ts R x = ts L x
theorem take_ts {L : List (List UInt8)} {j : Nat} (h : j < L.length) : L.take (j + 1) = L.take j ++ [ts L j] := by
  rw [List.take_succ_eq_append_getElem h]
  unfold ts
  rw [List.getD_eq_getElem?_getD, List.getElem?_eq_getElem h]
  rfl
theorem filt_none {q : List UInt8 → Bool} {L : List (List UInt8)} (j : Nat) (hj : j ≤ L.length) (h : ∀ k, k < j → q (ts L k) = false) : (L.take j).filter (fun l => !q l) = L.take j := by
  induction j with
  | zero => rfl
  | succ j ih =>
    rw [take_ts (by omega), List.filter_append, ih (by omega) (fun k hk => h k (by omega)), List.filter_cons_of_pos (by rw [h j (by omega)]; rfl)]
    rfl
theorem DfI.start {q : List UInt8 → Bool} {L : List (List UInt8)} {i : Nat} (hi : i < L.length) (h : ∀ k, k < i → q (ts L k) = false) (hq : q (ts L i) = true) : DfI q L i (i + 1) L :=
  ⟨rfl, Nat.lt_succ_self _, hi, by rw [take_ts hi, List.filter_append, filt_none i (by omega) h, List.filter_cons_of_neg (by rw [hq]; simp)]; simp, fun _ _ => rfl⟩
theorem DfI.skip {q : List UInt8 → Bool} {L R : List (List UInt8)} {i j : Nat} (h : DfI q L i j R) (hj : j < L.length) (hq : q (ts L j) = true) : DfI q L i (j + 1) R :=
  ⟨h.len, by have := h.le; omega, hj, by rw [h.take, take_ts hj, List.filter_append, List.filter_cons_of_neg (by rw [hq]; simp)]; simp, fun x hx => h.rest x (by omega)⟩
theorem DfI.keep {q : List UInt8 → Bool} {L R : List (List UInt8)} {i j : Nat} (h : DfI q L i j R) (hj : j < L.length) (hq : q (ts L j) = false) : DfI q L (i + 1) (j + 1) (R.set i (ts L j)) := by
  have hl := h.len
  have hij := h.le
  refine ⟨by rw [List.length_set]; exact hl, by omega, hj, ?_, fun x hx => ?_⟩
  · rw [List.take_succ_eq_append_getElem (by rw [List.length_set]; omega), List.getElem_set_self, List.take_set_of_le (Nat.le_refl _), h.take, take_ts hj, List.filter_append, List.filter_cons_of_pos (by rw [hq]; rfl)]
    rfl
  · rw [← h.rest x (by omega)]
    unfold ts
    rw [List.getD_eq_getElem?_getD, List.getD_eq_getElem?_getD, List.getElem?_set_ne (by omega), ← List.getD_eq_getElem?_getD]
theorem DfI.done {q : List UInt8 → Bool} {L R : List (List UInt8)} {i : Nat} (h : DfI q L i L.length R) : R.take i = L.filter fun l => !q l := by
  rw [h.take, List.take_length]
/-- The first i cells of a row whose others were cleared. -/
theorem own_cut_clear {w : World} {base g n cap i : Nat} {e : TypeId} {R : List (List UInt8)} (hr : w.ownsRow base e 1 (.slice (some ⟨g, 0, none⟩) n cap) n (strV R)) (hR : R.length = n) (hi : i ≤ n) (z : Value) :
    Upd g w (w.setCells g i (List.replicate (n - i) z)) ∧ (w.setCells g i (List.replicate (n - i) z)).ownsRow base e 1 (.slice (some ⟨g, 0, none⟩) i cap) i (strV (R.take i)) := by
  rcases hr.2 with ⟨h', _⟩ | ⟨g', cap', cur, h', hb, hg, hnc, hcm, hcs, htake⟩
  · cases h'
  · simp only [Value.slice.injEq, Option.some.injEq, Addr.mk.injEq, and_true, true_and] at h'
    obtain ⟨rfl, rfl⟩ := h'
    rw [Nat.mul_one] at hcs htake
    obtain ⟨u, cs', b, hs, hk⟩ := setCells_blk (T := e) (List.replicate (n - i) z) i w cur hg (by rw [List.length_replicate]; omega)
    refine ⟨u, ?_, .inr ⟨g, cap, cs', rfl, hb, b, by omega, hcm, by rw [hs, Nat.mul_one]; exact hcs, ?_⟩⟩
    · unfold strV
      rw [List.length_map, List.length_take]
      omega
    · rw [Nat.mul_one]
      have e1 : cs'.toList.take i = cur.toList.take i := by
        apply List.ext_getElem?
        intro k
        rw [List.getElem?_take, List.getElem?_take]
        split
        · rename_i hlt
          rw [Array.getElem?_toList, Array.getElem?_toList]
          exact hk k hlt
        · rfl
      rw [e1]
      have : cur.toList.take i = (cur.toList.take n).take i := by rw [List.take_take, Nat.min_eq_left hi]
      rw [this, htake]
      unfold strV
      rw [List.map_take]
theorem own_unfrozen {w : World} {base g n cap : Nat} {e : TypeId} {size : Nat} {xs : List Value} (hr : w.ownsRow base e size (.slice (some ⟨g, 0, none⟩) n cap) n xs) (o : Nat) : w.frozen? ⟨g, o, none⟩ = false := by
  rcases hr.2 with ⟨h', _⟩ | ⟨g', cap', cur, h', hb, hg, -⟩
  · cases h'
  · simp only [Value.slice.injEq, Option.some.injEq, Addr.mk.injEq, and_true, true_and] at h'
    obtain ⟨rfl, rfl⟩ := h'
    exact Blk.free (show Blk w g cur e from hg) o
def pV (B : Nat) : Value := .func (.func 26) #[] #[.pointer (some ⟨B, 0, none⟩)]
set_option maxHeartbeats 800000 in
set_option maxRecDepth 100000 in
theorem stays_any (g : Grid) (u : ByteArray) (B : Nat) (w : World) (hg : Cel g) (hu : wordB u = true) (hb : Blk w B (gv g.w g.h g.c) 47) :
    Calls Tryd.prog 26 #[.string u, .pointer (some ⟨B, 0, none⟩)] w (Ret (.bool (!backB g (wds u))) w) := by
  have gg := Gr.refl w
  have HCB := hidI (fun (B : Nat) (w : World) (hb : Blk w B #[.string u] 9) => comesBack_any g u B w hg hu hb)
  obtain ⟨v, hv⟩ : ∃ v, v = backB g (wds u) := ⟨_, rfl⟩
  rw [← hv] at HCB ⊢
  clear hg hu hv
  go_enter Tryd.func26, Tryd.ntmps26
  go_wp2
  have gd := (Gr.refl w).drew
  have hb := gd.blk hb
  have gg := gg.trans gd
  refine F_begin (fun w => Blk w B (gv g.w g.h g.c) 47) 5 6 #[false, false, false, false, false, false] rfl (by kernel_rfl) (by kernel_rfl) ?_
  generalize w.drew = wd at *
  refine F_take (v := .agg (gvG g)) 0 #[true, false, false, false, false, false] rfl (by kernel_rfl) (fun _ _ _ h => h) rfl (fun w hF => e_load_row 47 (.tmp 1) B _ _ _ rfl hF Tryd.underlying47 rfl (Tryd.ginfo' _ _ _)) (hb) ?_; simp only [Act.put, List.setIfInBounds_toArray, List.set_cons_succ, List.set_cons_zero]
  refine F_free (v := .string u) 1 #[true, true, false, false, false, false] rfl (by kernel_rfl) (fun _ _ _ h => h) rfl (fun _ => rfl) (hb) ?_; simp only [Act.put, List.setIfInBounds_toArray, List.set_cons_succ, List.set_cons_zero]
  refine F_one 2 #[true, true, true, false, false, false] rfl (by kernel_rfl) ?_
  refine r_callx 28 [.tmp 5] _ [.string u] (fun v w' => Gr wd w' ∧ ∃ B, v = doV B ∧ Blk w' B #[.string u] 9) Tryd.call28 rfl rfl ((doingOf_any u wd).mono fun e w' ⟨a, B, b, c⟩ => ⟨_, b, a, B, rfl, c⟩) ?_
  rintro v2 w2 ⟨g2, B2, rfl, b2⟩
  have hb := g2.blk hb
  have gg := gg.trans g2
  refine ⟨fun _ => hb, ?_⟩
  simp only [Act.put, List.setIfInBounds_toArray, List.set_cons_succ, List.set_cons_zero]
  refine F_one 3 #[true, true, true, true, false, false] rfl (by kernel_rfl) ?_
  refine r_call 27 [.tmp 4, .tmp 6] _ [.agg (gvG g), doV B2] (.bool v) (fun w' => Gr w2 w') Tryd.call27 rfl rfl (HCB.out B2 w2 b2) ?_
  intro w3 g3
  have hb := g3.blk hb
  have gg := gg.trans g3
  refine ⟨fun _ => hb, ?_⟩
  simp only [Act.put, List.setIfInBounds_toArray, List.set_cons_succ, List.set_cons_zero]
  refine F_one 4 #[true, true, true, true, true, false] rfl (by kernel_rfl) ?_
  refine r_val (.bool (!v)) rfl rfl ?_
  refine ⟨fun _ => hb, ?_⟩
  simp only [Act.put, List.setIfInBounds_toArray, List.set_cons_succ, List.set_cons_zero]
  refine F_one 5 #[true, true, true, true, true, true] rfl (by kernel_rfl) ?_
  refine r_val (.bool (!v)) rfl rfl ?_
  refine ⟨fun h => (by cases h), ?_⟩
  simp only [Act.put, List.setIfInBounds_toArray, List.set_cons_succ, List.set_cons_zero]
  refine F_done (by kernel_rfl) ?_
  go_wp2
  go_ret
  exact ⟨rfl, gg⟩
set_option maxHeartbeats 800000 in
set_option maxRecDepth 100000 in
theorem indexF_any (q : List UInt8 → Bool) (L : List (List UInt8)) (B base : Nat) (sl : Value) (w0 w : World) (hl : L.length ≤ 1000) (hown : w.ownsRow base 9 1 sl L.length (strV L)) (g0 : Gr w0 w)
    (HP : ∀ l ∈ L, ∀ w', Gr w0 w' → Calls Tryd.prog 26 #[.string ⟨l.toArray⟩, .pointer (some ⟨B, 0, none⟩)] w' (Ret (.bool (q l)) w')) :
    Calls Tryd.prog 55 #[sl, pV B] w (Ret (.int .i64 (fiN (fun j => q (ts L j)) L.length)) w) := by
  have gg := Gr.refl w
  obtain ⟨N, hN⟩ : ∃ N, N = L.length := ⟨_, rfl⟩
  rw [← hN] at hown hl ⊢
  have HAT := hidI (fun j (h : ∀ k, k < j → q (ts L k) = false) (hp : q (ts L j) = true) (hj : j < N) => fiN_at (p := fun k => q (ts L k)) h hp hj)
  have HNO := hidI (fun (h : ∀ k, k < N → q (ts L k) = false) => fiN_no (p := fun k => q (ts L k)) h)
  obtain ⟨R, hR⟩ : ∃ R, R = fiN (fun k => q (ts L k)) N := ⟨_, rfl⟩
  rw [← hR] at HAT HNO ⊢
  have HPP := hidI (fun j (hj : j < N) => HP (ts L j) (mem_ts (by omega)))
  have HG := hidI (fun j (hj : j < N) => strV_get L j (by omega))
  clear hR HP hN
  obtain ⟨p, cap, rfl⟩ := own_sliceN hown
  unfold pV
  go_enter Tryd.func55, Tryd.ntmps55
  go_wp2
  go_loopw [8] (fun iv wr => ∃ j : Nat, j ≤ N ∧ iv = .int .i64 j ∧ (∀ k, k < j → q (ts L k) = false) ∧ Gr w wr) (fun iv _ => N - (intOf iv).toNat)
  case atStart => exact ⟨0, Nat.zero_le _, rfl, fun k hk => absurd hk (Nat.not_lt_zero _), gg⟩
  case round =>
    obtain ⟨j, hj, rfl, hall, gg⟩ := hrel
    have own := gg.row hown
    by_cases hlt : j < N
    · have HALL := hidI hall
      clear hall
      obtain ⟨G, cap', he, -, -⟩ := own_shape own (by omega)
      obtain ⟨rfl, rfl⟩ : p = some ⟨G, 0, none⟩ ∧ cap = cap' := by
        simp only [Value.slice.injEq] at he
        exact ⟨he.1, he.2.2⟩
      have hcell := (own.cellAt j (by omega)).trans (HG.out j hlt)
      have HC := hidI (HPP.out j hlt _ (g0.trans gg))
      obtain ⟨l, hl⟩ : ∃ l, l = ts L j := ⟨_, rfl⟩
      have HLJ := hidI hl
      rw [← hl] at hcell HC
      unfold tx at hcell
      clear he hl
      cases hb : q l
      · rw [hb] at HC
        have HB := hidI hb
        clear hb
        go_wp2_with (first | (refine r_idx 25 _ _ (.slice (some ⟨G, 0, none⟩) N cap) (.int .i64 j) _ rfl rfl (Tryd.strix G N cap j hlt _) rfl ?_) | (refine r_ldc 9 _ ⟨G, j, none⟩ (.string ⟨l.toArray⟩) rfl (Tryd.isAgg9 _) hcell rfl ?_) | (refine r_callc 26 (.tmp 11) [.tmp 15] _ [.string ⟨l.toArray⟩] [.pointer (some ⟨B, 0, none⟩)] (.bool false) (fun w' => Gr _ w') Tryd.call26 rfl rfl rfl HC.out ?_; intro w5 g5; have gg := gg.trans g5))
        go_roundw
        case rel => exact ⟨j + 1, by omega, by go_num, fun k hk => (by rcases Nat.lt_succ_iff_lt_or_eq.1 hk with h | rfl; exact HALL.out k h; rw [← HLJ.out]; exact HB.out), gg⟩
        case measure => simp [intOf]; omega
      · rw [hb] at HC
        have HB := hidI hb
        clear hb
        go_wp2_with (first | (refine r_idx 25 _ _ (.slice (some ⟨G, 0, none⟩) N cap) (.int .i64 j) _ rfl rfl (Tryd.strix G N cap j hlt _) rfl ?_) | (refine r_ldc 9 _ ⟨G, j, none⟩ (.string ⟨l.toArray⟩) rfl (Tryd.isAgg9 _) hcell rfl ?_) | (refine r_callc 26 (.tmp 11) [.tmp 15] _ [.string ⟨l.toArray⟩] [.pointer (some ⟨B, 0, none⟩)] (.bool true) (fun w' => Gr _ w') Tryd.call26 rfl rfl rfl HC.out ?_; intro w5 g5; have gg := gg.trans g5))
        go_ret
        exact ⟨ret_int (HAT.out j HALL.out (by rw [← HLJ.out]; exact HB.out) hlt).symm, gg⟩
    · obtain rfl : j = N := by omega
      have HV := hidI (HNO.out hall)
      clear hlt hall
      go_wp2
      go_ret
      exact ⟨ret_int HV.out.symm, gg⟩
theorem Tryd.strcutW (p : Option Addr) (n cap q : Nat) (hq : q ≤ cap) (w : World) : (Instr.sliceAt 25 (.slice p n cap) none (some (.int .i64 q)) none).run Tryd.prog w = .ok (.slice p q cap) w := by
  have hu : Tryd.prog.underlying 25 = some (.slice (Tryd.prog.elem 25)) := by kernel_rfl
  have he : Tryd.prog.elem 25 = 9 := by kernel_rfl
  rw [run_sliceAt_slice w 25 _ _ _ _ hu, run_slice_h w 25 p n cap hu .i64 q (by omega) (by omega), he]
  simp [Tryd.sizeOf9, Result.andThen, sliced]
  intro _
  cases p with
  | none => rfl
  | some ad => simp [add_zero']
theorem Tryd.strfromW (G n cap q : Nat) (hq : q < n) (hn : n ≤ cap) (w : World) : (Instr.sliceAt 25 (.slice (some ⟨G, 0, none⟩) n cap) (some (.int .i64 q)) none none).run Tryd.prog w = .ok (.slice (some ⟨G, q, none⟩) (n - q) (cap - q)) w := by
  have hu : Tryd.prog.underlying 25 = some (.slice (Tryd.prog.elem 25)) := by kernel_rfl
  have he : Tryd.prog.elem 25 = 9 := by kernel_rfl
  rw [run_sliceAt_slice w 25 _ _ _ _ hu, run_slice_l w 25 _ n cap hu .i64 q (by omega) (by omega), he]
  have hne : cap ≠ q := by omega
  simp [Tryd.sizeOf9, Result.andThen, sliced, hne, add_flat']
set_option maxHeartbeats 800000 in
set_option maxRecDepth 100000 in
theorem deleteF_any (q : List UInt8 → Bool) (L : List (List UInt8)) (B : Nat) (sl : Value) (w0 w : World) (hl : L.length ≤ 1000) (hown : w.ownsRow w0.heap.size 9 1 sl L.length (strV L)) (g0 : Gr w0 w)
    (HP : ∀ l ∈ L, ∀ w', Gr w0 w' → Calls Tryd.prog 26 #[.string ⟨l.toArray⟩, .pointer (some ⟨B, 0, none⟩)] w' (Ret (.bool (q l)) w')) :
    Calls Tryd.prog 29 #[sl, pV B] w fun e w' => Gr w0 w' ∧ ∃ v, e = .returned v ∧ w'.ownsRow w0.heap.size 9 1 v (L.filter fun l => !q l).length (strV (L.filter fun l => !q l)) := by
  have HIF := hidI (indexF_any q L B w0.heap.size sl w0 w hl hown g0 HP)
  obtain ⟨N, hN⟩ : ∃ N, N = L.length := ⟨_, rfl⟩
  rw [← hN] at hown hl HIF
  have HN := hidI hN
  clear hN
  obtain ⟨p, cap, rfl⟩ := own_sliceN hown
  by_cases hall : ∀ k, k < N → q (ts L k) = false
  · have hM : (L.filter fun l => !q l) = L := by
      have := filt_none (q := q) L.length (Nat.le_refl _) (fun k hk => hall k (by rw [HN.out]; exact hk))
      rwa [List.take_length] at this
    rw [fiN_no hall] at HIF
    have HR := hidI (show w.ownsRow w0.heap.size 9 1 (.slice p N cap) (L.filter fun l => !q l).length (strV (L.filter fun l => !q l)) from by rw [hM, ← HN.out]; exact hown)
    have gg := g0
    clear hall hM HP
    obtain ⟨M, hM⟩ : ∃ M, M = L.filter fun l => !q l := ⟨_, rfl⟩
    rw [← hM] at HR ⊢
    clear hM
    go_enter Tryd.func29, Tryd.ntmps29
    go_wp2_with (go_at_call 55; refine HIF.out.mono ?_; rintro e w1 ⟨rfl, g1⟩; have gg := gg.trans g1)
    go_ret
    exact ⟨gg, _, rfl, g1.row HR.out⟩
  · obtain ⟨i0, hi0, hq0, hmin⟩ : ∃ i, i < N ∧ q (ts L i) = true ∧ ∀ k, k < i → q (ts L k) = false := by
      have hex : ∃ k, k < N ∧ q (ts L k) = true := by
        apply Classical.byContradiction
        intro h
        exact hall fun k hk => by
          cases hq : q (ts L k)
          · rfl
          · exact absurd ⟨k, hk, hq⟩ h
      cases hf : (List.range N).find? (fun k => q (ts L k)) with
      | none =>
        rw [List.find?_eq_none] at hf
        obtain ⟨k, hk, hq⟩ := hex
        exact absurd hq (by simpa using hf k (List.mem_range.2 hk))
      | some i =>
        rw [List.find?_eq_some_iff_getElem] at hf
        obtain ⟨h1, j, hj, e, h2⟩ := hf
        rw [List.length_range] at hj
        rw [List.getElem_range] at e
        subst e
        exact ⟨j, hj, h1, fun k hk => by have := h2 k hk; rw [List.getElem_range] at this; simpa using this⟩
    rw [fiN_at hmin hq0 hi0] at HIF
    have HD0 := hidI (DfI.start (L := L) (by rw [← HN.out]; exact hi0) hmin hq0)
    clear hall hmin hq0
    have HPP := hidI (fun j (hj : j < N) => HP (ts L j) (mem_ts (by rw [← HN.out]; exact hj)))
    clear HP
    obtain ⟨G, cap', he, hGb, hnc⟩ := own_shape hown (by omega)
    obtain ⟨rfl, rfl⟩ : p = some ⟨G, 0, none⟩ ∧ cap = cap' := by
      simp only [Value.slice.injEq] at he
      exact ⟨he.1, he.2.2⟩
    have gg := g0
    have HFI := hidI hown
    have e0 : ((i0 : Int) == -1) = false := by rw [beq_eq_false_iff_ne]; omega
    clear he hown g0
    go_enter Tryd.func29, Tryd.ntmps29
    go_wp2_with (go_at_call 55; refine HIF.out.mono ?_; rintro e w1 ⟨rfl, g1⟩; have gg := gg.trans g1)
    have own1 := g1.row HFI.out
    go_loopw [5, 6] (fun iv jv wr => ∃ (i j : Nat) (R : List (List UInt8)), iv = .int .i64 i ∧ jv = .int .i64 j ∧ i < j ∧ j ≤ N ∧ Hid (DfI q L i j R) ∧ wr.ownsRow w0.heap.size 9 1 (.slice (some ⟨G, 0, none⟩) N cap) N (strV R) ∧ Gr w0 wr) (fun _ jv _ => N - (intOf jv).toNat)
    case atStart => exact ⟨i0, i0 + 1, L, rfl, by go_num, by omega, by omega, HD0, own1, gg⟩
    case round =>
      clear own1 gg
      obtain ⟨i, j, R, rfl, rfl, hij, hjN, HD, own, gg⟩ := hrel
      have hRN : R.length = N := by rw [HD.out.len, HN.out]
      by_cases hlt : j < N
      · have hcell := (own.cellAt j (by omega)).trans (strV_get R j (by omega))
        rw [HD.out.rest j (Nat.le_refl _)] at hcell
        have HC := hidI (HPP.out j hlt _ gg)
        have HSK := hidI (fun h => HD.out.skip (by rw [← HN.out]; exact hlt) h)
        have HKE := hidI (fun h => HD.out.keep (by rw [← HN.out]; exact hlt) h)
        obtain ⟨l, hl'⟩ : ∃ l, l = ts L j := ⟨_, rfl⟩
        rw [← hl'] at hcell HC HSK HKE
        unfold tx at hcell
        have HRN := hidI hRN
        clear hl' hRN
        cases hb : q l
        · rw [hb] at HC
          have HKN := hidI (HKE.out hb)
          clear hb HSK HKE
          have HSV := hidI (strV_set R i l)
          go_wp2_with (first | (refine r_idx 25 _ _ (.slice (some ⟨G, 0, none⟩) N cap) (.int .i64 j) _ rfl rfl (Tryd.strix G N cap j hlt _) rfl ?_) | (refine r_ldc 9 _ ⟨G, j, none⟩ (.string ⟨l.toArray⟩) rfl (Tryd.isAgg9 _) hcell rfl ?_) | (refine r_callc 26 (.tmp 26) [.tmp 27] _ [.string ⟨l.toArray⟩] [.pointer (some ⟨B, 0, none⟩)] (.bool false) (fun w' => Gr _ w') Tryd.call26 rfl rfl rfl HC.out ?_; intro w5 g5; have gg := gg.trans g5; have own := g5.row own) | (refine r_idx 25 _ _ (.slice (some ⟨G, 0, none⟩) N cap) (.int .i64 i) _ rfl rfl (Tryd.strix G N cap i (by omega) _) rfl ?_) | (refine r_store_own 9 9 (.tmp 33) (.tmp 32) G i N cap w0.heap.size (strV R) rfl (.string ⟨l.toArray⟩) rfl own (by omega) Tryd.sizeOf9 rfl rfl ?_; intro w6 u6 own6; have gg := u6.gr gg hGb))
          have own6 := HSV.out ▸ own6
          go_roundw
          case rel => exact ⟨i + 1, j + 1, R.set i l, by go_num, by go_num, by omega, by omega, HKN, own6, gg⟩
          case measure => simp [intOf]; omega
        · rw [hb] at HC
          have HSN := hidI (HSK.out hb)
          clear hb HSK HKE
          go_wp2_with (first | (refine r_idx 25 _ _ (.slice (some ⟨G, 0, none⟩) N cap) (.int .i64 j) _ rfl rfl (Tryd.strix G N cap j hlt _) rfl ?_) | (refine r_ldc 9 _ ⟨G, j, none⟩ (.string ⟨l.toArray⟩) rfl (Tryd.isAgg9 _) hcell rfl ?_) | (refine r_callc 26 (.tmp 26) [.tmp 27] _ [.string ⟨l.toArray⟩] [.pointer (some ⟨B, 0, none⟩)] (.bool true) (fun w' => Gr _ w') Tryd.call26 rfl rfl rfl HC.out ?_; intro w5 g5; have gg := gg.trans g5; have own := g5.row own))
          go_roundw
          case rel => exact ⟨i, j + 1, R, rfl, by go_num, by omega, by omega, HSN, own, gg⟩
          case measure => simp [intOf]; omega
      · obtain rfl : j = N := by omega
        have HDN := hidI (show R.take i = L.filter fun l => !q l from (DfI.done (HN.out ▸ HD.out)))
        have HOC := hidI (own_cut_clear own hRN (Nat.le_of_lt hij) (.string ⟨#[]⟩))
        have hcl : ∀ ty, (Builtin.clear_ #[25] ty #[.slice (some ⟨G, i, none⟩) (j - i) (cap - i)]).run Tryd.prog _ = .ok (.tuple #[]) _ :=
          fun ty => Lib.run_clear_slice _ 25 9 ty (.string ⟨#[]⟩) Tryd.underlying25 (fun w => by kernel_rfl) rfl rfl G i (j - i) (cap - i) (by omega) (fun t ht => by rw [own.cellAt (i + t) (by omega), strV_get R (i + t) (by omega)]; rfl) (fun t ht => own_unfrozen own _)
        have hfr := Tryd.strfromW G j cap i hij hnc
        have hct := Tryd.strcutW (some ⟨G, 0, none⟩) j cap i (by omega)
        have e1 : (j : Int) - i = ((j - i : Nat) : Int) := by omega
        go_wp2_with (first | (refine r_cut_lo 25 _ _ (.slice (some ⟨G, 0, none⟩) j cap) (.int .i64 i) _ rfl rfl (hfr _) rfl ?_) | (refine r_cut_hi 25 _ _ (.slice (some ⟨G, 0, none⟩) j cap) (.int .i64 i) _ rfl rfl (hct _) rfl ?_))
        go_ret
        have hli : (L.filter fun l => !q l).length = i := by rw [← HDN.out, List.length_take]; omega
        exact ⟨HOC.out.1.gr gg hGb, _, rfl, by rw [hli, ← HDN.out]; exact HOC.out.2⟩
def wkOk (l : List UInt8) (n : Int) : Bool := rdOk l && decide (0 ≤ n ∧ n ≤ 4)
def wkL (l : List UInt8) (n : Int) : List (List UInt8) := if wkOk l n then (allW n.toNat).filter fun u => backB (rdG l) (wds ⟨u.toArray⟩) else []
theorem wkL_le (l : List UInt8) (n : Int) : (wkL l n).length ≤ 161 := by
  unfold wkL
  cases h : wkOk l n
  · exact Nat.zero_le _
  · rw [if_pos rfl]
    have hn : 0 ≤ n ∧ n ≤ 4 := by
      unfold wkOk at h
      rw [Bool.and_eq_true, decide_eq_true_eq] at h
      exact h.2
    exact Nat.le_trans (List.length_filter_le _ _) (allW_len (by omega))
def RetSs (T : TypeId) (L : List (List UInt8)) (ok : Bool) (w : World) (e : Ending) (w' : World) : Prop :=
  Gr w w' ∧ ∃ v, e = .returned (.tuple #[v, .bool ok]) ∧ w'.ownsRow w.heap.size T 1 v L.length (strV L)
theorem RetSs.nil {T : TypeId} {L : List (List UInt8)} {ok : Bool} {w w' : World} (hL : L = []) (hk : ok = false) (hg : Gr w w') : RetSs T L ok w (.returned (.tuple #[.slice none 0 0, .bool false])) w' := by
  subst hL hk
  exact ⟨hg, _, rfl, World.ownsRow_nil _ _ _ _⟩
set_option maxHeartbeats 800000 in
set_option maxRecDepth 100000 in
theorem iWordsBack (s : ByteArray) (n : Int) (w : World) (hm : ML w) (hs : s.size ≤ 1048576) : Calls Tryd.prog 10 #[.string s, .int .i64 n] w (RetSs 9 (wkL s.data.toList n) (wkOk s.data.toList n) w) := by
  have gg := Gr.refl w
  rcases rd_cases s.data.toList with ⟨hg, hp, hk⟩ | ⟨g, hp, hg, hk⟩
  · have HK := hidI hk
    have HO := hidI (show wkOk s.data.toList n = false from by unfold wkOk; rw [hk]; rfl)
    have HV := hidI (show wkL s.data.toList n = [] from by unfold wkL; rw [HO.out]; rfl)
    clear hg hp hk
    go_enter Tryd.func10, Tryd.ntmps10
    go_wp2_with (first | (go_at_call 25; refine (readTray_any s _ hm hs).mono ?_; rintro e w1 ⟨rfl, g1⟩; rw [HK.out]; have z1 := g1.size; have gg := gg.trans g1) | (refine r_alloc 47 _ Tryd.gzero rfl ?_; intro w2 B2 N2; have g2 := N2.gr; have b2 : Blk w2 B2 (gv 0 0 []) 47 := N2.blk; have l2 := N2.lo; have t2 := N2.hi; have z2 := g2.size; have gg := gg.trans g2; clear N2; obtain ⟨b2_0, b2_1, b2_2⟩ := gcells b2) | (refine r_store_row 47 47 _ _ _ rfl (gv _ _ _) _ rfl b2 (Tryd.gsize' _ _ _) (by simp only [gv_size]) (gv_one _ _ _) rfl ?_; intro w3 u3 b2'; have z3 := u3.size; have gg := u3.gr gg (by omega); clear b2; have b2 := b2'; clear b2'; obtain ⟨b2_0, b2_1, b2_2⟩ := gcells b2))
    go_ret2
    exact RetSs.nil HV.out HO.out gg
  · have HK := hidI hk
    have HG := hidI hg
    by_cases hn : 0 ≤ n ∧ n ≤ 4
    · obtain ⟨m, rfl⟩ : ∃ m : Nat, n = m := ⟨n.toNat, by omega⟩
      have hm4 : m ≤ 4 := by omega
      have HO := hidI (show wkOk s.data.toList m = true from by unfold wkOk; rw [hk, decide_eq_true hn]; rfl)
      have HV := hidI (show wkL s.data.toList m = (allW m).filter fun u => backB g (wds ⟨u.toArray⟩) from by unfold wkL; rw [HO.out, if_pos rfl, hg]; rfl)
      obtain ⟨hc, -, -, -⟩ := cel_of hp
      have hm0 : ¬ ((m : Int) < 0) := by omega
      have hm5 : ¬ ((4 : Int) < (m : Int)) := by omega
      clear hg hp hk hn
      have HWT := hidI (fun w => wordsTo_any m w hm4)
      have HC := hidI hc
      clear hc
      go_enter Tryd.func10, Tryd.ntmps10
      go_wp2_with (first | (go_at_call 25; refine (readTray_any s _ hm hs).mono ?_; rintro e w1 ⟨rfl, g1⟩; rw [HK.out, HG.out, gvG]; have z1 := g1.size; have gg := gg.trans g1) | (refine r_alloc 47 _ Tryd.gzero rfl ?_; intro w2 B2 N2; have g2 := N2.gr; have b2 : Blk w2 B2 (gv 0 0 []) 47 := N2.blk; have l2 := N2.lo; have t2 := N2.hi; have z2 := g2.size; have gg := gg.trans g2; clear N2; obtain ⟨b2_0, b2_1, b2_2⟩ := gcells b2) | (refine r_store_row 47 47 _ _ _ rfl (gv g.w g.h g.c) _ rfl b2 (Tryd.gsize' _ _ _) (by simp only [gv_size]) (gv_one _ _ _) rfl ?_; intro w3 u3 b2'; have z3 := u3.size; have gg := u3.gr gg (by omega); clear b2; have b2 := b2'; clear b2'; obtain ⟨b2_0, b2_1, b2_2⟩ := gcells b2) | (go_at_call 30; refine (HWT.out _).mono ?_; rintro e w4 ⟨g4, v4, rfl, own4⟩; have b23 := b2; have gg3 := gg; have b2 := g4.blk b2; have gg := gg.trans g4) | (go_at_call 29; refine (deleteF_any (fun l => !backB g (wds ⟨l.toArray⟩)) (allW m) B2 v4 w3 w4 (Nat.le_trans (allW_len hm4) (by decide)) own4 g4 (fun l hl w' g' => stays_any g ⟨l.toArray⟩ B2 w' HC.out (allW_b hm4 hl) (g'.blk b23))).mono ?_; rintro e w5 ⟨g5, v5, rfl, own5⟩))
      go_ret2
      have hf : ((allW m).filter fun l => !!backB g (wds ⟨l.toArray⟩)) = wkL s.data.toList m := by
        rw [HV.out]
        congr 1
        funext l
        exact Bool.not_not _
      rw [hf] at own5
      refine ⟨gg3.trans g5, v5, by rw [HO.out]; rfl, own_up own5 gg3.size⟩
    · have HO := hidI (show wkOk s.data.toList n = false from by unfold wkOk; rw [decide_eq_false hn, Bool.and_false])
      have HV := hidI (show wkL s.data.toList n = [] from by unfold wkL; rw [HO.out]; rfl)
      rcases (show n < 0 ∨ (¬ n < 0 ∧ 4 < n) by omega) with h0 | ⟨h0, h4⟩
      all_goals
        clear hg hp hk hn
        go_enter Tryd.func10, Tryd.ntmps10
        go_wp2_with (first | (go_at_call 25; refine (readTray_any s _ hm hs).mono ?_; rintro e w1 ⟨rfl, g1⟩; rw [HK.out, HG.out, gvG]; have z1 := g1.size; have gg := gg.trans g1) | (refine r_alloc 47 _ Tryd.gzero rfl ?_; intro w2 B2 N2; have g2 := N2.gr; have b2 : Blk w2 B2 (gv 0 0 []) 47 := N2.blk; have l2 := N2.lo; have t2 := N2.hi; have z2 := g2.size; have gg := gg.trans g2; clear N2; obtain ⟨b2_0, b2_1, b2_2⟩ := gcells b2) | (refine r_store_row 47 47 _ _ _ rfl (gv g.w g.h g.c) _ rfl b2 (Tryd.gsize' _ _ _) (by simp only [gv_size]) (gv_one _ _ _) rfl ?_; intro w3 u3 b2'; have z3 := u3.size; have gg := u3.gr gg (by omega); clear b2; have b2 := b2'; clear b2'; obtain ⟨b2_0, b2_1, b2_2⟩ := gcells b2))
        go_ret2
        exact RetSs.nil HV.out HO.out gg
end Go.Proofs.YtbppbbkcampglaaDoor
