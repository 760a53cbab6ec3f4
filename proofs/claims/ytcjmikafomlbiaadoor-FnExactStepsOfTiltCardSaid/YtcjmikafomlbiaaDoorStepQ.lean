/-
  How many steps make a tray as tilting does: in the program the greatest slide, in the model steps one after the other; the law.
-/
import Derived.Test.YtcjmikafomlbiaaDoorStepP
import Derived.Test.YtcjmikafomlbiaaDoorTiltC
namespace Go.Proofs.YtcjmikafomlbiaaDoor
open Go.RowKit
/-! ### Of trays -/
theorem stAll_app (c : List UInt8) (L M : List (List Nat)) : stAll c (L ++ M) = stAll (stAll c L) M := by unfold stAll; rw [List.foldl_append]
theorem stAll_cont {W H : Nat} {c : List UInt8} {d : Nat} {L : List (List Nat)} (h : Strs W H c d L) {s : List Nat} (hs : s ∈ L) : cont (stAll c L) s = stc (cont c s) := by
  obtain ⟨k, hk, e⟩ := List.getElem_of_mem hs
  have hk' : L[k]? = some s := by rw [List.getElem?_eq_getElem hk, e]
  have hb := h.stepB hk'
  have hst : Str (stAll c (L.take k)) s := (h.str s hs).congr (stAll_length _ _) fun i hi => (hb i hi).symm
  have h1 : cont (stAll c L) s = cont (stAll c (L.take (k + 1))) s := by
    apply cont_congr
    intro i hi
    conv => lhs; rw [← List.take_append_drop (k + 1) L, stAll_app]
    refine stAll_out _ _ (fun t ht x hx => by rw [stAll_length]; exact (h.str t (List.mem_of_mem_drop ht)).lt x hx) fun t ht hit => ?_
    obtain ⟨j, hj, rfl⟩ := List.getElem_of_mem ht
    rw [List.length_drop] at hj
    rw [List.getElem_drop] at hit
    have := List.pairwise_iff_getElem.1 h.apart k (k + 1 + j) hk (by omega) (by omega)
    rw [e] at this
    exact this i hi hit
  rw [h1, stAll_take hk', st_cont hst _ (Nat.le_refl _), List.take_of_length_le (by rw [cont_length]; exact Nat.le_refl _), List.drop_of_length_le (by rw [cont_length]; exact Nat.le_refl _), List.append_nil, cont_congr (fun i hi => hb i hi)]
theorem cont_ok {c : List UInt8} {s : List Nat} (h : Str c s) : ∀ b ∈ cont c s, b = 46 ∨ isBallB b = true := by
  intro b hb
  obtain ⟨i, hi, rfl⟩ := List.mem_map.1 hb
  exact h.ok i hi
theorem mem_cont {c : List UInt8} {s : List Nat} {i : Nat} (h : i ∈ s) : at0 c i ∈ cont c s := List.mem_map.2 ⟨i, h, rfl⟩
section
variable {g : Grid} {d : Nat} (hc : Cel g) (hd : d < 4)
include hc hd
theorem step_in {i : Nat} {s : List Nat} (hs : s ∈ strL g.w g.h g.c d) (hi : i ∈ s) : at0 (stepG d g).c i = 46 ∨ isBallB (at0 (stepG d g).c i) = true := by
  have hS := hc.strs hd
  have hm := mem_cont (c := (stepG d g).c) hi
  rw [show cont (stepG d g).c s = stc (cont g.c s) from stAll_cont hS hs] at hm
  rcases mem_stc hm with h | h
  · exact cont_ok (hS.str s hs) _ h
  · exact .inl h
theorem step_out {i : Nat} (h : ∀ s ∈ strL g.w g.h g.c d, i ∉ s) : at0 (stepG d g).c i = at0 g.c i :=
  stAll_out _ _ (fun t ht x hx => ((hc.strs hd).str t ht).lt x hx) h
theorem step_cel : Cel (stepG d g) := by
  refine ⟨hc.w7, hc.h7, hc.n36, (stAll_length _ _).trans hc.len, fun i hi => ?_⟩
  by_cases h : ∃ s ∈ strL g.w g.h g.c d, i ∈ s
  · obtain ⟨s, h1, h2⟩ := h
    unfold isCellB
    rcases step_in hc hd h1 h2 with e | e
    · rw [e]; rfl
    · rw [e]; simp
  · rw [step_out hc hd fun s h1 h2 => h ⟨s, h1, h2⟩]
    exact hc.cells i (by rwa [show (stepG d g).c.length = g.c.length from stAll_length _ _] at hi)
theorem step_str : strL g.w g.h (stepG d g).c d = strL g.w g.h g.c d := by
  refine (strL_mask (fun i => ?_) d).symm
  by_cases h : ∃ s ∈ strL g.w g.h g.c d, i ∈ s
  · obtain ⟨s, h1, h2⟩ := h
    have n1 : ∀ b : UInt8, (b = 46 ∨ isBallB b = true) → b ≠ 35 := fun b hb e => by
      subst e
      exact absurd hb (by decide)
    exact ⟨fun e => absurd e (n1 _ (((hc.strs hd).str s h1).ok i h2)), fun e => absurd e (n1 _ (step_in hc hd h1 h2))⟩
  · rw [step_out hc hd fun s h1 h2 => h ⟨s, h1, h2⟩]
end
def mvN (c : List UInt8) (L : List (List Nat)) : List Nat := (L.map fun s => mvC 0 (cont c s)).flatten
theorem mvAll_N (c : List UInt8) (L : List (List Nat)) : mvAll c L = (mvN c L).map (fun n : Nat => (n : Int)) := by
  unfold mvAll mvN
  rw [List.map_flatten, List.map_map]
  congr 1
  apply List.map_congr_left
  intro s _
  rw [mvTo_cont _ (Nat.le_refl _), List.take_of_length_le (by rw [cont_length]; exact Nat.le_refl _)]
  rfl
def mxG (d : Nat) (g : Grid) : Nat := mxN (mvN g.c (strL g.w g.h g.c d))
theorem eq_of_conts {g : Grid} {d : Nat} {c e : List UInt8} (hl : c.length = e.length) (h1 : ∀ s ∈ strL g.w g.h g.c d, cont c s = cont e s) (h2 : ∀ i, (∀ s ∈ strL g.w g.h g.c d, i ∉ s) → at0 c i = at0 e i) : c = e := by
  apply list_ext hl
  intro i _
  by_cases h : ∃ s ∈ strL g.w g.h g.c d, i ∈ s
  · obtain ⟨s, h3, h4⟩ := h
    obtain ⟨k, hk, rfl⟩ := mem_getD h4
    rw [← cont_at hk, ← cont_at hk, h1 s h3]
  · exact h2 i fun s h3 h4 => h ⟨s, h3, h4⟩
section
variable {g : Grid} {d : Nat} (hc : Cel g) (hd : d < 4)
include hc hd
theorem step_mx : mxG d (stepG d g) = mxG d g - 1 := by
  unfold mxG
  rw [show (stepG d g).w = g.w from rfl, show (stepG d g).h = g.h from rfl, step_str hc hd, ← mxN_pred]
  congr 1
  unfold mvN
  rw [List.map_flatten, List.map_map]
  congr 1
  apply List.map_congr_left
  intro s hs
  rw [show cont (stepG d g).c s = stc (cont g.c s) from stAll_cont (hc.strs hd) hs, mvC_stc]
  rfl
theorem mx_le : mxG d g ≤ 7 := by
  refine foldl_le _ _ _ (by omega) fun y hy => ?_
  unfold mvN at hy
  obtain ⟨l, hl, hy⟩ := List.mem_flatten.1 hy
  obtain ⟨s, hs, rfl⟩ := List.mem_map.1 hl
  have := mvC_le _ _ y hy
  rw [cont_length] at this
  have := ((hc.strs hd).len7 s hs).2
  omega
theorem tilt_at_cont {s : List Nat} (hs : s ∈ strL g.w g.h g.c d) : cont (tiltG d g).c s = tic (cont g.c s) := by
  have hS := hc.strs hd
  obtain ⟨-, a2⟩ := slAll_at (strL g.w g.h g.c d) g.c hS.str hS.apart
  apply list_ext (by rw [cont_length, tic_length, cont_length])
  intro k hk
  rw [cont_length] at hk
  rw [cont_at hk, tic_fin hk]
  exact a2 s hs k hk
theorem tilt_out {i : Nat} (h : ∀ s ∈ strL g.w g.h g.c d, i ∉ s) : at0 (tiltG d g).c i = at0 g.c i :=
  (slAll_at (strL g.w g.h g.c d) g.c (hc.strs hd).str (hc.strs hd).apart).1 i h
theorem step_tilt : tiltG d (stepG d g) = tiltG d g := by
  have hcs := step_cel hc hd
  have hstr : strL (stepG d g).w (stepG d g).h (stepG d g).c d = strL g.w g.h g.c d := step_str hc hd
  have e : (tiltG d (stepG d g)).c = (tiltG d g).c := by
    refine eq_of_conts (g := g) (d := d) ?_ (fun s hs => ?_) fun i hi => ?_
    · exact ((slAll_length _ _).trans (stAll_length _ _)).trans (slAll_length _ _).symm
    · rw [tilt_at_cont hc hd hs, tilt_at_cont hcs hd (by rw [hstr]; exact hs), show cont (stepG d g).c s = stc (cont g.c s) from stAll_cont (hc.strs hd) hs, tic_stc]
    · rw [tilt_out hc hd hi, tilt_out hcs hd (by rw [hstr]; exact hi), step_out hc hd hi]
  show Grid.mk g.w g.h (tiltG d (stepG d g)).c = Grid.mk g.w g.h (tiltG d g).c
  rw [e]
theorem mx_zero : mxG d g = 0 ↔ g.c = (tiltG d g).c := by
  have hS := hc.strs hd
  unfold mxG
  rw [mxN_zero]
  constructor
  · intro h
    refine eq_of_conts (g := g) (d := d) (slAll_length _ _).symm (fun s hs => ?_) fun i hi => (tilt_out hc hd hi).symm
    rw [tilt_at_cont hc hd hs]
    exact (mvC_zero _ (cont_ok (hS.str s hs))).1 fun y hy => h y (List.mem_flatten.2 ⟨_, List.mem_map.2 ⟨s, hs, rfl⟩, hy⟩)
  · intro h y hy
    obtain ⟨l, hl, hy⟩ := List.mem_flatten.1 hy
    obtain ⟨s, hs, rfl⟩ := List.mem_map.1 hl
    refine (mvC_zero _ (cont_ok (hS.str s hs))).2 ?_ y hy
    rw [← tilt_at_cont hc hd hs, ← h]
end
def stepsG (d : Nat) (g : Grid) : Nat → Grid
  | 0 => g
  | n + 1 => stepG d (stepsG d g n)
theorem steps_all {g : Grid} {d : Nat} (hc : Cel g) (hd : d < 4) (n : Nat) : Cel (stepsG d g n) ∧ (stepsG d g n).w = g.w ∧ (stepsG d g n).h = g.h ∧ (stepsG d g n).c.length = g.c.length ∧ mxG d (stepsG d g n) = mxG d g - n ∧ tiltG d (stepsG d g n) = tiltG d g := by
  induction n with
  | zero => exact ⟨hc, rfl, rfl, rfl, rfl, rfl⟩
  | succ n ih =>
    obtain ⟨h1, h2, h3, h4, h5, h6⟩ := ih
    exact ⟨step_cel h1 hd, h2, h3, (stAll_length _ _).trans h4, by rw [stepsG, step_mx h1 hd, h5]; omega, by rw [stepsG, step_tilt h1 hd, h6]⟩
theorem steps_same {g : Grid} {d : Nat} (hc : Cel g) (hd : d < 4) (g1 : 1 ≤ g.w) (gh : 1 ≤ g.h) (n : Nat) : ((txtB g.w g.h (stepsG d g n).c).toList == (txtB g.w g.h (tiltG d g).c).toList) = decide (mxG d g ≤ n) := by
  obtain ⟨h1, h2, h3, h4, h5, h6⟩ := steps_all hc hd n
  have hz := mx_zero h1 hd
  rw [h5, h6] at hz
  have ht := hc.tilt hd
  have hs := same_txt h1 ht (by rw [h2]; exact g1) (by rw [h3]; exact gh) g1 gh
  rw [h2, h3] at hs
  rw [eql_bool, Bool.eq_iff_iff, decide_eq_true_eq, decide_eq_true_eq]
  constructor
  · intro e
    have hb : sameB (stepsG d g n) (tiltG d g) = true := by rw [hs]; exact decide_eq_true e
    have : (stepsG d g n).c = (tiltG d g).c := by
      unfold sameB at hb
      rw [Bool.and_eq_true, Bool.and_eq_true, List.all_eq_true] at hb
      apply list_ext (by rw [h4, ht.len, hc.len]; rfl)
      intro i hi
      have hi36 : i < 36 := by have := hc.len; have := hc.n36; omega
      have := hb.2 i (List.mem_range.2 hi36)
      rw [beq_iff_eq] at this
      exact UInt8.toNat_inj.1 (by omega)
    have := hz.2 this
    omega
  · intro h
    rw [hz.1 (by omega)]
theorem mxN_take {l : List Nat} {k : Nat} (h : k < l.length) : mxN (l.take (k + 1)) = max (mxN (l.take k)) (l.getD k 0) := by
  unfold mxN
  rw [List.take_add_one, List.foldl_append, List.getElem?_eq_getElem h, List.getD_eq_getElem?_getD, List.getElem?_eq_getElem h]
  rfl
def soN (l : List UInt8) (dir : ByteArray) : Nat := if dtOk l dir then mxG (dS dir).toNat (rdG l) else 0
theorem so_no {l : List UInt8} {dir : ByteArray} (h : dtOk l dir = false) : ((soN l dir : Nat) : Int) = 0 := by unfold soN; rw [h]; rfl
theorem so_yes {l : List UInt8} {dir : ByteArray} {g : Grid} {d : Nat} (hy : dtOk l dir = true) (hg : rdG l = g) (hd : dS dir = (d : Nat)) : soN l dir = mxG d g := by unfold soN; rw [if_pos hy, hg, hd, Int.toNat_natCast]
section
variable {P : Program} {w : World} {ops : Array Oper} {rest : List Oper} {a : Act} {Q : Exit → Act → World → Prop} {dst : Option Tmp} {ty : TypeId} {pos : String} {aft : Array Edge} {gd : Option (Nat × Bool)}
theorem run_maxN (ts : Array TypeId) (t : TypeId) (m n : Nat) : (Builtin.max_ ts t #[.int .i64 (m : Int), .int .i64 (n : Int)]).run P w = .ok (.int .i64 ((max m n : Nat) : Int)) w := by
  unfold Builtin.max_
  simp only [List.foldlM_cons, List.foldlM_nil, Builtin.max2, Sem.run_bind, Sem.run_pure, Result.andThen_ok]
  congr 2
  by_cases h : m < n
  · rw [if_pos (by omega), Nat.max_eq_right (by omega)]
  · rw [if_neg (by omega), Nat.max_eq_left (by omega)]
theorem r_maxN (T T' : TypeId) (x y : Operand) (m n : Nat) (hx : a.eval x = .int .i64 m) (hy : a.eval y = .int .i64 n)
    (hgd : Region.wanted ⟨dst, .call { callee := .builtin .max, args := #[x, y], argTypes := #[T, T'] }, ty, pos, aft, gd⟩ (yielded ops a.tmps) = true)
    (h : wpList P ops Q rest (a.put dst (.int .i64 ((max m n : Nat) : Int))) w) : wpList P ops Q (⟨dst, .call { callee := .builtin .max, args := #[x, y], argTypes := #[T, T'] }, ty, pos, aft, gd⟩ :: rest) a w :=
  r_val _ (by
    unfold execOp
    simp only [resolve, invoke, builtin, Sem.run_bind, Sem.run_pure, Result.andThen_ok, List.map_toArray, List.map_cons, List.map_nil, hx, hy, run_maxN]) hgd h
theorem r_lssN {T yt : TypeId} (x y : Operand) (m n : Int) (b : Bool) (hx : a.eval x = .int .i64 m) (hy : a.eval y = .int .i64 n) (hb : decide (m < n) = b)
    (hgd : Region.wanted ⟨dst, .binOp .lss T x y yt, ty, pos, aft, gd⟩ (yielded ops a.tmps) = true) (h : wpList P ops Q rest (a.put dst (.bool b)) w) : wpList P ops Q (⟨dst, .binOp .lss T x y yt, ty, pos, aft, gd⟩ :: rest) a w :=
  r_val (.bool b) (by
    subst hb
    unfold execOp
    simp [hx, hy, eqGuard, binOp, Op.intCmp]) hgd h
end
set_option maxHeartbeats 1000000 in
set_option maxRecDepth 100000 in
theorem iStepsOfTilt (s dir : ByteArray) (w : World) (hm : ML w) (hs : s.size ≤ 1048576) : Calls Tryd.prog 17 #[.string s, .string dir] w (Ret (.tuple #[.int .i64 (soN s.data.toList dir : Nat), .bool (dtOk s.data.toList dir)]) w) := by
  have gg := Gr.refl w
  rcases dt_cases s.data.toList dir with hn | ⟨g, d, hp, hg, hk, h4, e1, e2, hdo, hy⟩
  · have HV := hidI (so_no hn)
    have HN := hidI hn
    clear hn
    go_enter Tryd.func17, Tryd.ntmps17
    go_wp2_with (first | (go_at_call 34; refine (readTilt_no s dir _ (gg.ml hm) hs HN.out).mono ?_; rintro e w1 ⟨rfl, g1⟩; have z1 := g1.size; have gg := gg.trans g1) | (refine r_alloc 38 _ Tryd.gzero rfl ?_; intro w2 B2 N2; have g2 := N2.gr; have b2 : Blk w2 B2 (gv 0 0 []) 38 := N2.blk; have l2 := N2.lo; have t2 := N2.hi; have z2 := g2.size; have gg := gg.trans g2; clear N2; obtain ⟨b2_0, b2_1, b2_2⟩ := gcells b2) | (refine r_store_row 38 38 _ _ _ rfl (gv 0 0 []) _ rfl b2 (Tryd.gsize' _ _ _) (by simp only [gv_size]) (gv_one _ _ _) rfl ?_; intro w3 u3 b2'; have z3 := u3.size; have gg := u3.gr gg (by omega); clear b2; have b2 := b2'; clear b2'; obtain ⟨b2_0, b2_1, b2_2⟩ := gcells b2))
    go_ret2
    exact ⟨fin_ib HV.out.symm HN.out.symm, gg⟩
  · obtain ⟨hc, w1', h1', hl⟩ := cel_of hp
    have HY := hidI hy
    have HC := hidI hc
    have HV := hidI (so_yes hy hg e2)
    have HRT := hidI (fun w (hm : ML w) => readTilt_yes s dir g d w hm hs hg hk e1 hdo)
    obtain ⟨l, hl2⟩ : ∃ l, l = mvN g.c (strL g.w g.h g.c d) := ⟨_, rfl⟩
    have hml := mvL_le hc h4
    have HSL := hidI (fun w => slidesIn_any g d w hc h4)
    rw [mvAll_N, ← hl2, List.length_map] at HSL hml
    have HM := hidI (show mxN (l.take l.length) = mxG d g from by rw [List.take_length, hl2]; rfl)
    clear hp hg hk e1 e2 hdo hc hl hy hl2
    go_enter Tryd.func17, Tryd.ntmps17
    go_wp2_with (first | (go_at_call 34; refine (HRT.out _ (gg.ml hm)).mono ?_; rintro e w1 ⟨rfl, g1⟩; have z1 := g1.size; have gg := gg.trans g1) | (refine r_alloc 38 _ Tryd.gzero rfl ?_; intro w2 B2 N2; have g2 := N2.gr; have b2 : Blk w2 B2 (gv 0 0 []) 38 := N2.blk; have l2 := N2.lo; have t2 := N2.hi; have z2 := g2.size; have gg := gg.trans g2; clear N2; obtain ⟨b2_0, b2_1, b2_2⟩ := gcells b2) | (refine r_store_row 38 38 _ _ _ rfl (gv g.w g.h g.c) _ rfl b2 (Tryd.gsize' _ _ _) (by simp only [gv_size]) (gv_one _ _ _) rfl ?_; intro w3 u3 b2'; have z3 := u3.size; have gg := u3.gr gg (by omega); clear b2; have b2 := b2'; clear b2'; obtain ⟨b2_0, b2_1, b2_2⟩ := gcells b2) | (refine r_load_row 38 _ _ rfl _ _ _ b2 Tryd.underlying38 rfl (Tryd.ginfo' _ _ _) rfl ?_))
    refine (HSL.out _).mono ?_
    rintro e w4 ⟨g4, v4, rfl, own⟩
    have gg := gg.trans g4
    obtain ⟨p4, n4, k4, rfl⟩ := own_slice own
    obtain rfl : n4 = l.length := own_len own
    go_wp2
    go_loopw [9, 25] (fun nv iv wr => ∃ k : Nat, k ≤ l.length ∧ iv = .int .i64 k ∧ nv = .int .i64 (mxN (l.take k) : Nat) ∧ Gr w4 wr) (fun _ iv _ => l.length - (intOf iv).toNat)
    case atStart => exact ⟨0, Nat.zero_le _, rfl, rfl, Gr.refl _⟩
    case round =>
      obtain ⟨k, hk, rfl, rfl, gr⟩ := hrel
      by_cases hlt : k < l.length
      · have own := gr.row own
        obtain ⟨gl, cl, e1, -, -⟩ := own_shape own (by omega)
        cases e1
        have hcx := own_int own k hlt (by rw [List.length_map])
        have hgi : gi (l.map fun n : Nat => (n : Int)) k = ((l.getD k 0 : Nat) : Int) := by
          unfold gi
          rw [List.getD_eq_getElem?_getD, List.getElem?_map, List.getD_eq_getElem?_getD, List.getElem?_eq_getElem hlt]
          rfl
        rw [hgi] at hcx
        have HST := hidI (mxN_take hlt)
        obtain ⟨x, hx⟩ : ∃ x, x = l.getD k 0 := ⟨_, rfl⟩
        obtain ⟨y, hy⟩ : ∃ y, y = mxN (l.take k) := ⟨_, rfl⟩
        rw [← hx] at hcx HST
        rw [← hy] at HST ⊢
        clear hx hy hgi
        go_wp2_with (refine r_maxN _ _ _ _ y x rfl rfl rfl ?_)
        go_roundw
        case rel => exact ⟨k + 1, by omega, by go_num, by rw [HST.out], gr⟩
        case measure => simp [intOf]; omega
      · obtain rfl : k = l.length := by omega
        clear hlt
        go_wp2
        go_ret2
        exact ⟨fin_ib (by rw [HM.out, HV.out]) HY.out.symm, gg.trans gr⟩
set_option maxHeartbeats 2000000 in
set_option maxRecDepth 100000 in
theorem sStepsOfTilt (s dir : ByteArray) (w : World) (hs : s.size ≤ 1048576) : Calls Tryd.prog 16 #[.string s, .string dir] w (Ret (.tuple #[.int .i64 (soN s.data.toList dir : Nat), .bool (dtOk s.data.toList dir)]) w) := by
  have gg := Gr.refl w
  go_enter Tryd.func16, Tryd.ntmps16
  go_wp2_with fail
  refine (tiRead_any s dir _ hs).mono ?_
  rintro e w1 ⟨g1, ⟨hn, W, H, sl, x, hone, rfl⟩ | ⟨g, sl, d, hp, h4, e1, hy, rfl, hown⟩⟩
  · have HV := hidI (so_no hn)
    have HN := hidI hn
    have gg := gg.trans g1
    have z1 := g1.size
    clear hn
    go_wp2_with (first | (refine r_alloc 31 _ Tryd.tzero rfl ?_; intro w2 B2 N2; have g2 := N2.gr; have b2 : Blk w2 B2 (tg 0 0 (.slice none 0 0)) 31 := N2.blk; have l2 := N2.lo; have t2 := N2.hi; have z2 := g2.size; have gg := gg.trans g2; clear N2; obtain ⟨b2_0, b2_1, b2_2⟩ := tcells b2) | (refine r_store_row 31 31 _ _ _ rfl (tg _ _ _) _ rfl b2 Tryd.tsize rfl (tg_one hone) rfl ?_; intro w3 u3 b2'; have z3 := u3.size; have gg := u3.gr gg (by omega); clear b2; have b2 := b2'; clear b2'; obtain ⟨b2_0, b2_1, b2_2⟩ := tcells b2))
    go_ret2
    exact ⟨fin_ib HV.out.symm HN.out.symm, gg⟩
  · obtain ⟨hc, w1', h1', hl⟩ := cel_of hp
    have HY := hidI hy
    have HC := hidI hc
    have HV := hidI (so_yes hy (rd_parse_some hp).1 (by rw [e1]; exact dS_of h4))
    have HA := hidI (fun n => steps_all hc h4 n)
    have HSM := hidI (fun n => steps_same hc h4 w1' h1' n)
    have h7M := mx_le hc h4
    have w7 := hc.w7
    have h7 := hc.h7
    have n36 := hc.n36
    have hone := own_one hown
    have gg := gg.trans g1
    have z1 := g1.size
    have HTL := hidI (show (tiltG d g).c.length = nn g.w g.h from (hc.tilt h4).len)
    have hlen := hc.len
    obtain ⟨M, hM⟩ : ∃ M, M = mxG d g := ⟨_, rfl⟩
    rw [← hM] at HV HSM h7M
    have HMX := hidI hM
    clear hp e1 hy hc hM
    go_wp2_with (first | (refine r_alloc 31 _ Tryd.tzero rfl ?_; intro w2 B2 N2; have g2 := N2.gr; have b2 : Blk w2 B2 (tg 0 0 (.slice none 0 0)) 31 := N2.blk; have l2 := N2.lo; have t2 := N2.hi; have z2 := g2.size; have gg := gg.trans g2; clear N2; obtain ⟨b2_0, b2_1, b2_2⟩ := tcells b2) | (refine r_store_row 31 31 _ _ _ rfl (tg _ _ _) _ rfl b2 Tryd.tsize rfl (tg_one hone) rfl ?_; intro w3 u3 b2'; have z3 := u3.size; have gg := u3.gr gg (by omega); clear b2; have b2 := b2'; clear b2'; obtain ⟨b2_0, b2_1, b2_2⟩ := tcells b2) | (refine r_load_row 31 _ _ rfl _ _ _ b2 Tryd.underlying31 rfl Tryd.tinfo rfl ?_))
    have own0 := u3.row (g2.row hown) (own_new hown l2)
    refine (tiTilt_any g w.heap.size d sl _ HC.out h4 hl own0).mono ?_
    rintro e w4 ⟨g4, s4, rfl, own4⟩
    have gg := gg.trans g4
    have b2 := g4.blk b2
    have own0 := g4.row own0
    go_wp2_with (go_at_call 31; refine (tyText_n g.w g.h _ _ (tiltG d g).c _ _ w1' h1' w7 h7 n36 HTL.out rfl own4).mono ?_; rintro e w5 ⟨rfl, g5⟩; have z5 := g5.size; have b2 := g5.blk b2; have gg := gg.trans g5)
    have own0 := g5.row own0
    clear own4
    obtain ⟨N, hN⟩ : ∃ N, N = g.c.length := ⟨_, rfl⟩
    rw [← hN] at own0 hl hlen HA
    obtain ⟨E, hE⟩ : ∃ E, E = txtB g.w g.h (tiltG d g).c := ⟨_, rfl⟩
    rw [← hE] at HSM ⊢
    obtain ⟨W, hW⟩ : ∃ W, W = g.w := ⟨_, rfl⟩
    obtain ⟨H, hH⟩ : ∃ H, H = g.h := ⟨_, rfl⟩
    rw [← hW, ← hH] at HA HSM b2
    rw [← hW] at hlen w1' w7 n36
    rw [← hH] at hlen h1' h7 n36
    have lo2 : w.heap.size ≤ B2 := by omega
    clear hN hE hW hH
    have own0' : w5.ownsRow w.heap.size 5 1 sl N (cellsV (stepsG d g 0).c) := own0
    clear own0
    go_wp2
    go_loopw [10] (fun nv wr => ∃ (n : Nat) (sl : Value), n ≤ M ∧ nv = .int .i64 n ∧ Blk wr B2 (tg W H sl) 31 ∧ wr.ownsRow w.heap.size 5 1 sl N (cellsV (stepsG d g n).c) ∧ Gr w wr) (fun nv _ => M - (intOf nv).toNat)
    case atStart => exact ⟨0, sl, Nat.zero_le _, rfl, b2, own0', gg⟩
    case round =>
      clear own0'
      obtain ⟨n, sl, hn, rfl, b2, own, gg⟩ := hrel
      obtain ⟨hcn, hw, hh, hln, -, -⟩ := HA.out n
      have hq := HSM.out n
      have zr := gg.size
      obtain ⟨q, hqe⟩ : ∃ q, q = stepsG d g n := ⟨_, rfl⟩
      have HQS := hidI (show stepG d q = stepsG d g (n + 1) from by rw [hqe]; rfl)
      rw [← hqe] at hcn hw hh hln own hq
      have HTT := fun (base : Nat) (w : World) (sl : Value) (own : w.ownsRow base 5 1 sl q.c.length (cellsV q.c)) => tiStep_any q base d sl w hcn h4 (by rw [hln]; exact hl) own
      rw [hw, hh, hln] at HTT
      have HTT := hidI HTT
      have hls : (stepG d q).c.length = N := (stAll_length _ _).trans hln
      rw [HQS.out] at hls
      have HLS := hidI hls
      have HLN := hidI (show q.c.length = nn W H from by rw [hln]; exact hlen)
      have HLN2 := hidI hln
      by_cases hlt : n < M
      · have hqf : ((txtB W H q.c).toList == E.toList) = false := by rw [hq]; exact decide_eq_false (by omega)
        have hqe2 : decide (txtB W H q.c = E) = false := by rw [← eql_bool]; exact hqf
        have hn7 : n < 7 := by omega
        clear hq hqe hls hcn hw hh hln
        go_wp2_with (first | (refine r_lssN _ _ (n : Int) 7 true rfl rfl (decide_eq_true (by omega)) rfl ?_) | (refine r_load_row 31 _ _ rfl _ _ _ b2 Tryd.underlying31 rfl Tryd.tinfo rfl ?_) | (go_at_call 31; refine (tyText_n W H _ _ q.c _ _ w1' h1' w7 h7 n36 HLN.out HLN2.out own).mono ?_; rintro e w6 ⟨rfl, g6⟩; have z6 := g6.size; have b2 := g6.blk b2; obtain ⟨b2_0, b2_1, b2_2⟩ := tcells b2; have own := g6.row own; have gg := gg.trans g6))
        refine (HTT.out _ _ _ own).mono ?_
        rintro e w7' ⟨g7, s7, rfl, own7⟩
        rw [HQS.out, HLS.out] at own7
        have own7 := own_up own7 (show w.heap.size ≤ w6.heap.size by omega)
        have b2 := g7.blk b2
        have gg := gg.trans g7
        have hone7 := own_one own7
        go_wp2_with (refine r_store_row 31 31 _ _ B2 rfl (tg W H s7) _ rfl b2 Tryd.tsize rfl (tg_one hone7) rfl ?_; intro w8 u8 b28)
        have own8 := u8.row own7 (own_ne own7 b2 (by decide))
        go_roundw
        case rel => exact ⟨n + 1, s7, by omega, by go_num, b28, own8, u8.gr gg lo2⟩
        case measure => simp [intOf]; omega
      · obtain rfl : n = M := by omega
        have hqf : ((txtB W H q.c).toList == E.toList) = true := by rw [hq]; exact decide_eq_true (by omega)
        by_cases hn7 : n < 7
        · clear hq hqe hls hcn hw hh hln hlt
          go_wp2_with (first | (refine r_lssN _ _ (n : Int) 7 true rfl rfl (decide_eq_true (by omega)) rfl ?_) | (refine r_load_row 31 _ _ rfl _ _ _ b2 Tryd.underlying31 rfl Tryd.tinfo rfl ?_) | (go_at_call 31; refine (tyText_n W H _ _ q.c _ _ w1' h1' w7 h7 n36 HLN.out HLN2.out own).mono ?_; rintro e w6 ⟨rfl, g6⟩; have z6 := g6.size; have gg := gg.trans g6))
          go_ret2
          exact ⟨fin_ib (by rw [HV.out]) HY.out.symm, gg⟩
        · clear hq hqe hls hcn hw hh hln hlt hqf
          go_wp2_with (refine r_lssN _ _ (n : Int) 7 false rfl rfl (decide_eq_false (by omega)) rfl ?_)
          go_ret2
          exact ⟨fin_ib (by rw [HV.out]) HY.out.symm, gg⟩
set_option maxHeartbeats 1000000 in
theorem lawStepsOfTilt (s t : ByteArray) (w : World) (hm : ML w) : Calls Tryd.prog 7 #[.string s, .string t] w (Ret (.bool true) w) := by
  have gg := Gr.refl w
  by_cases hs : 1048576 < s.size
  · go_enter Tryd.func7, Tryd.ntmps7
    go_wp2
    go_ret
    exact ⟨rfl, gg⟩
  · have hs' : s.size ≤ 1048576 := by omega
    clear hs
    by_cases hc : 1048576 < t.size
    · go_enter Tryd.func7, Tryd.ntmps7
      go_wp2
      go_ret
      exact ⟨rfl, gg⟩
    · have hc' : t.size ≤ 1048576 := by omega
      clear hc
      go_enter Tryd.func7, Tryd.ntmps7
      go_wp2_with (first | (go_at_call 16; refine (sStepsOfTilt s t _ hs').mono ?_; rintro e w1 ⟨rfl, g1⟩; have z1 := g1.size; have gg := gg.trans g1) | (go_at_call 17; refine (iStepsOfTilt s t _ (gg.ml hm) hs').mono ?_; rintro e w2 ⟨rfl, g2⟩; have z2 := g2.size; have gg := gg.trans g2))
      go_ret
      exact ⟨rfl, gg⟩
end Go.Proofs.YtcjmikafomlbiaaDoor
