/-
  Texts in their order: by the library's sort in the program, by insertion in the model.
-/
import Derived.Test.YtoadoeahbekkoaaGreatDoorListsT
import Derived.Test.YtoadoeahbekkoaaGreatDoorBLa
import Derived.Test.YtoadoeahbekkoaaGreatDoorBTi
import Derived.Test.YtoadoeahbekkoaaGreatDoorBSp
import Derived.Sort.Walk0
namespace Go.Proofs.YtoadoeahbekkoaaGreatDoor
open Go.RowKit
theorem perm_eq {α : Type} (le : α → α → Prop) (anti : ∀ a b, le a b → le b a → a = b) : ∀ (l m : List α), l.Perm m → l.Pairwise le → m.Pairwise le → l = m
  | [], m, hp, _, _ => (List.nil_perm.1 hp).symm
  | a :: l, [], hp, _, _ => absurd hp.length_eq (by simp)
  | a :: l, b :: m, hp, hl, hm => by
    obtain ⟨h1, h2⟩ := List.pairwise_cons.1 hl
    obtain ⟨h3, h4⟩ := List.pairwise_cons.1 hm
    have hab : a = b := by
      rcases List.mem_cons.1 (hp.mem_iff.1 (List.mem_cons_self)) with h | h
      · exact h
      · rcases List.mem_cons.1 (hp.mem_iff.2 (List.mem_cons_self)) with h' | h'
        · exact h'.symm
        · exact anti a b (h1 b h') (h3 a h)
    subst hab
    rw [perm_eq le anti l m (List.Perm.cons_inv hp) h2 h4]
/-- Texts in their order. -/
def srtT (L : List (List UInt8)) : List (List UInt8) := L.mergeSort fun x y => decide (x ≤ y)
theorem srtT_perm (L : List (List UInt8)) : (srtT L).Perm L := List.mergeSort_perm _ _
theorem srtT_length (L : List (List UInt8)) : (srtT L).length = L.length := (srtT_perm L).length_eq
theorem srtT_sorted (L : List (List UInt8)) : (srtT L).Pairwise (· ≤ ·) := by
  refine List.Pairwise.imp ?_ (List.pairwise_mergeSort (le := fun x y : List UInt8 => decide (x ≤ y)) (fun a b c h1 h2 => by
    rw [decide_eq_true_eq] at h1 h2 ⊢
    exact List.le_trans h1 h2) (fun a b => by
    rw [Bool.or_eq_true, decide_eq_true_eq, decide_eq_true_eq]
    exact List.le_total a b) L)
  intro a b h
  exact of_decide_eq_true h
theorem srtT_eq {L O : List (List UInt8)} (hp : O.Perm L) (hs : O.Pairwise (· ≤ ·)) : O = srtT L :=
  perm_eq (· ≤ ·) (fun _ _ h1 h2 => List.le_antisymm h1 h2) _ _ (hp.trans (srtT_perm L).symm) hs (srtT_sorted L)
theorem ins_ok {O : List (List UInt8)} {s : List UInt8} {k : Nat} (hO : O.Pairwise (· ≤ ·)) (hk : k ≤ O.length) (hlo : k = 0 ∨ ts O (k - 1) ≤ s) (hhi : ∀ i, k ≤ i → i < O.length → s < ts O i) :
    (O.take k ++ [s] ++ O.drop k).Pairwise (· ≤ ·) ∧ (O.take k ++ [s] ++ O.drop k).Perm (O ++ [s]) := by
  have hsp : O.take k ++ O.drop k = O := List.take_append_drop k O
  have hO' := hO
  rw [← hsp, List.pairwise_append] at hO'
  obtain ⟨p1, p2, p3⟩ := hO'
  have hts : ∀ i (h : i < O.length), ts O i = O[i] := fun i h => by unfold ts; rw [List.getD_eq_getElem?_getD, List.getElem?_eq_getElem h]; rfl
  have lo : ∀ a ∈ O.take k, a ≤ s := fun a ha => by
    rcases hlo with h0 | h0
    · subst h0; simp at ha
    · obtain ⟨i, hi, rfl⟩ := List.getElem_of_mem ha
      rw [List.length_take] at hi
      have hik : i < k := by omega
      rw [List.getElem_take]
      rw [hts (k - 1) (by omega)] at h0
      rcases Nat.lt_or_ge i (k - 1) with h' | h'
      · exact List.le_trans (List.pairwise_iff_getElem.1 hO i (k - 1) (by omega) (by omega) h') h0
      · have : i = k - 1 := by omega
        subst this
        exact h0
  have hi : ∀ b ∈ O.drop k, s ≤ b := fun b hb => by
    obtain ⟨i, hi, rfl⟩ := List.getElem_of_mem hb
    rw [List.length_drop] at hi
    rw [List.getElem_drop]
    have := hhi (k + i) (by omega) (by omega)
    rw [hts (k + i) (by omega)] at this
    exact List.le_iff_lt_or_eq.2 (.inl this)
  refine ⟨?_, ?_⟩
  · rw [List.append_assoc, List.pairwise_append]
    refine ⟨p1, ?_, fun a ha b hb => ?_⟩
    · rw [List.singleton_append, List.pairwise_cons]
      exact ⟨hi, p2⟩
    · rcases List.mem_cons.1 hb with rfl | hb
      · exact lo a ha
      · exact p3 a ha b hb
  · have e1 : (O.take k ++ [s] ++ O.drop k).Perm (O.take k ++ (O.drop k ++ [s])) := by
      rw [List.append_assoc]
      exact List.Perm.append_left _ List.perm_append_comm
    rw [← List.append_assoc, hsp] at e1
    exact e1
theorem gtT_run (P : Program) (T : TypeId) (a b : List UInt8) (c : Bool) (h : decide (b < a) = c) (w : World) : (binOp .gtr T (tx a) (tx b)).run P w = .ok (.bool c) w := by
  subst h
  unfold tx
  rw [binOp_string_gtr]
  simp only [Sem.run_pure]
  congr 2
  rw [bytesLess_eq]
  have e1 : (⟨a.toArray⟩ : ByteArray).toList = a := by simp
  have e2 : (⟨b.toArray⟩ : ByteArray).toList = b := by simp
  rw [e1, e2, Bool.eq_iff_iff, Bool.not_eq_true', Bool.or_eq_false_iff, decide_eq_false_iff_not, beq_eq_false_iff_ne, decide_eq_true_eq]
  constructor
  · intro ⟨h1, h2⟩
    by_cases hlt : b < a
    · exact hlt
    · rcases List.le_iff_lt_or_eq.1 (List.not_lt.1 hlt) with h | h
      · exact absurd h h1
      · exact absurd h h2
  · intro hlt
    refine ⟨fun h => ?_, fun h => ?_⟩
    · exact List.not_lt.2 (List.le_iff_lt_or_eq.2 (.inl h)) hlt
    · exact List.not_lt.2 (List.le_iff_lt_or_eq.2 (.inr h)) hlt
theorem Tryz.strJ : ElemInfo Tryz.prog 65 9 (.string ⟨#[]⟩) 1 16 := ⟨Tryz.underlying65, by kernel_rfl, rfl, by decide⟩
theorem Tryz.bstr0 (w : World) : (Instr.buildSlice 65 0 #[]).run Tryz.prog w = .ok (.slice (some ⟨w.heap.size, 0, none⟩) 0 0) (w.alloc (.cells #[] 9)) := by kernel_rfl
theorem Tryz.bstr1 (s : ByteArray) (w : World) : (Instr.buildSlice 65 1 #[(0, .string s)]).run Tryz.prog w = .ok (.slice (some ⟨w.heap.size, 0, none⟩) 1 1) (w.alloc (.cells #[.string s] 9)) := by kernel_rfl
theorem Tryz.strcut (p : Option Addr) (n cap q : Nat) (hq : q ≤ cap) (w : World) : (Instr.sliceAt 65 (.slice p n cap) none (some (.int .i64 q)) none).run Tryz.prog w = .ok (.slice p q cap) w := by
  have hu : Tryz.prog.underlying 65 = some (.slice (Tryz.prog.elem 65)) := by kernel_rfl
  have he : Tryz.prog.elem 65 = 9 := by kernel_rfl
  rw [run_sliceAt_slice w 65 _ _ _ _ hu, run_slice_h w 65 p n cap hu .i64 q (by omega) (by omega), he]
  simp [Tryz.sizeOf9, Result.andThen, sliced]
  intro _
  cases p with
  | none => rfl
  | some ad => simp [add_zero']
theorem Tryz.strfrom (p : Option Addr) (n cap q : Nat) (hq : q ≤ n) (w : World) : (Instr.sliceAt 65 (.slice p n cap) (some (.int .i64 q)) none none).run Tryz.prog w = .ok (.slice (if cap = q then p else p.map (·.add (q * 1))) (n - q) (cap - q)) w := by
  have hu : Tryz.prog.underlying 65 = some (.slice (Tryz.prog.elem 65)) := by kernel_rfl
  have he : Tryz.prog.elem 65 = 9 := by kernel_rfl
  rw [run_sliceAt_slice w 65 _ _ _ _ hu, run_slice_l w 65 p n cap hu .i64 q (by omega) (by omega), he]
  simp [Tryz.sizeOf9, Result.andThen, sliced]
set_option maxHeartbeats 400000 in
set_option maxRecDepth 100000 in
theorem l1OwnS_any (p : Option Addr) (m c : Nat) (L : List (List UInt8)) (w : World) (hr : Rd w p m (strV L)) (hl : m ≤ 1048576) :
    Calls Tryz.prog 35 #[.slice p m c] w fun e w' => Gr w w' ∧ ∃ u, e = .returned u ∧ w'.ownsRow w.heap.size 9 1 u m (strV L) := by
  have gg := Gr.refl w
  have HRD := hidI hr
  have HLI := hidI (strV_one L)
  clear hr
  go_enter Tryz.func35, Tryz.ntmps35
  go_wp2_with (first | (refine r_slice0 65 9 (Tryz.bstr0 _) rfl ?_; intro w1 B1 g1 own1; have gg := gg.trans g1; have z1 := g1.size) | (refine r_append_any (.tmp 3) (.tmp 4) 65 9 _ 16 w.heap.size Tryz.strJ _ 0 [] rfl own1 p m c (strV L) rfl (HRD.out.gr gg) HLI.out (by omega) (by decide) (by omega) rfl ?_; intro v2 w2 own2 g2; have gg := g2.gr gg (own_gr own1 (Nat.le_refl _))))
  go_ret
  refine ⟨gg, v2, rfl, ?_⟩
  have e : 0 + m = m := Nat.zero_add _
  rw [e] at own2
  exact own2
theorem own_far {w wx : World} {b1 b2 : Nat} {e1 e2 : TypeId} {s1 s2 : Nat} {v1 v2 : Value} {n1 n2 : Nat} {x1 x2 : List Value} (h1 : wx.ownsRow b1 e1 s1 v1 n1 x1) (h2 : w.ownsRow b2 e2 s2 v2 n2 x2) (h : wx.heap.size ≤ b2) : v1.ownBlock = none ∨ v1.ownBlock ≠ v2.ownBlock := by
  rcases hb : v1.ownBlock with _ | g
  · exact .inl rfl
  · refine .inr fun e => ?_
    have a1 := (h1.lt g hb).2
    have a2 := (h2.lt g e.symm).1
    omega
set_option maxHeartbeats 2000000 in
set_option maxRecDepth 100000 in
theorem reSorted_any (v : Value) (L : List (List UInt8)) (b : Nat) (w : World) (h : w.ownsRow b 9 1 v L.length (strV L)) (hl : L.length ≤ 65536) :
    Calls Tryz.prog 34 #[v] w fun e w' => Gr w w' ∧ ∃ u base, e = .returned u ∧ w.heap.size ≤ base ∧ w'.ownsRow base 9 1 u L.length (strV (srtT L)) := by
  have gg := Gr.refl w
  obtain ⟨p, m, c, rfl⟩ := own_slice h
  obtain rfl : m = L.length := own_len h
  have H := hidI h
  clear h
  have own0 : w.ownsRow w.heap.size 9 1 (.slice none 0 0) (srtT (L.take 0)).length (strV (srtT (L.take 0))) := by
    have := World.ownsRow_nil w w.heap.size 9 1
    simpa [srtT, strV] using this
  go_enter Tryz.func34, Tryz.ntmps34
  go_wp2
  go_loopw [3, 10] (fun ov i wr => ∃ (k base : Nat) (O : List (List UInt8)), k ≤ L.length ∧ i = .int .i64 k ∧ O = srtT (L.take k) ∧ wr.ownsRow base 9 1 ov O.length (strV O) ∧ w.heap.size ≤ base ∧ base ≤ wr.heap.size ∧ Gr w wr) (fun _ i _ => L.length - (intOf i).toNat)
  case atStart => exact ⟨0, w.heap.size, _, Nat.zero_le _, rfl, rfl, own0, Nat.le_refl _, Nat.le_refl _, gg⟩
  case round =>
    obtain ⟨k, base, O, hk, rfl, hO, own, hb1, hb2, gg⟩ := hrel
    have hOl : O.length = k := by rw [hO, srtT_length, List.length_take]; omega
    have hOb : O.length ≤ 65536 := by omega
    have HOL := hidI hOl
    have HO := hidI hO
    clear hO hOl
    by_cases hlt : k < L.length
    · obtain ⟨g1, c1, e1, -, -⟩ := own_shape H.out (by omega)
      cases e1
      have cx := own_val (gg.row H.out) k _ hlt (strV_get L k hlt)
      obtain ⟨s, hs⟩ : ∃ s, s = ts L k := ⟨_, rfl⟩
      have HTK := hidI (show L.take (k + 1) = L.take k ++ [s] from by
        rw [List.take_succ_eq_append_getElem hlt, hs]
        unfold ts
        rw [List.getD_eq_getElem?_getD, List.getElem?_eq_getElem hlt]
        rfl)
      rw [← hs] at cx
      clear hs
      obtain ⟨p5, n5, k5, rfl⟩ := own_slice own
      obtain rfl : n5 = O.length := own_len own
      have hk5 : O.length ≤ k5 := by
        rcases Nat.eq_zero_or_pos O.length with h | h
        · omega
        · obtain ⟨_, _, e5, -, h5⟩ := own_shape own h
          cases e5
          exact h5
      go_wp2_with (first | (refine r_idx 65 _ _ (.slice (some ⟨g1, 0, none⟩) L.length c) (.int .i64 k) _ rfl rfl (Tryz.strix g1 L.length c k hlt _) rfl ?_) | (refine r_ldc 9 _ ⟨g1, k, none⟩ (tx s) rfl (Tryz.isAgg9 _) cx rfl ?_))
      go_loopw [6] (fun i wi => ∃ q : Nat, q ≤ O.length ∧ i = .int .i64 q ∧ Hid (∀ x, q ≤ x → x < O.length → s < ts O x) ∧ Gr w wi ∧ wi.ownsRow base 9 1 (.slice p5 O.length k5) O.length (strV O) ∧ base ≤ wi.heap.size) (fun i _ => (intOf i).toNat)
      case atStart => exact ⟨O.length, Nat.le_refl _, rfl, hidI (fun x h1 h2 => by omega), gg, own, hb2⟩
      case round =>
        obtain ⟨q, hq, rfl, HHI, gg, own, hb2⟩ := hrel
        obtain ⟨wi, rfl⟩ : ∃ wi : World, wi = wr := ⟨_, rfl⟩
        have hwi : w.heap.size ≤ wi.heap.size := gg.size
        rcases Nat.eq_zero_or_pos q with h0 | h0
        · subst h0
          have HLO := hidI (show (0 : Nat) = 0 ∨ ts O (0 - 1) ≤ s from .inl rfl)
          have hts : O.take 0 ++ [s] ++ O.drop 0 = srtT (L.take (k + 1)) := by
            obtain ⟨i1, i2⟩ := ins_ok (O := O) (s := s) (k := 0) (by rw [HO.out]; exact srtT_sorted _) hq HLO.out HHI.out
            refine srtT_eq ?_ i1
            refine i2.trans ?_
            rw [HTK.out, HO.out]
            exact List.Perm.append_right _ (srtT_perm _)
          have HTS := hidI hts
          clear hts
          have HRT := hidI (show Rd wi p5 0 (strV (O.take 0)) from by
            have := Rd.take (Rd.of_own own) hq
            unfold strV at this ⊢
            rwa [List.map_take])
          have hqc : 0 ≤ k5 := by omega
          go_wp2_with (first | (refine r_cut_hi 65 _ _ (.slice p5 O.length k5) (.int .i64 (0 : Nat)) (.slice p5 0 k5) rfl rfl (Tryz.strcut p5 O.length k5 0 hqc _) rfl ?_) | (go_at_call 35; refine (l1OwnS_any p5 0 k5 (O.take 0) _ HRT.out (by omega)).mono ?_; rintro e w2 ⟨g2, u2, rfl, own2⟩; have hne := own_far own own2 (Nat.le_refl _); have gg := gg.trans g2; have z2 := g2.size; have own := g2.row own) | (refine r_slice1 65 9 (.tmp 33) (tx s) rfl (Tryz.bstr1 _ _) rfl ?_; intro w3 B3 N3; have g3 := N3.gr; have own3 := g3.row own2; have gg := gg.trans g3; have own := g3.row own; have z3 := g3.size) | (refine r_append (.tmp 32) (.tmp 34) 65 9 _ 1 16 wi.heap.size Tryz.strJ u2 0 (strV (O.take 0)) rfl own3 ⟨B3, 0, none⟩ 1 1 [tx s] rfl rfl N3.cell1 (by intro u hu; simp at hu; subst hu; rfl) (by omega) (by decide) (by omega) rfl ?_; intro v4 w4 own4 g4; have own := g4.row own hne; have z4 := g4.size; have gg := g4.gr gg (own_gr own3 hwi)) | (refine r_cut_lo 65 _ _ (.slice p5 O.length k5) (.int .i64 (0 : Nat)) _ rfl rfl (Tryz.strfrom p5 O.length k5 0 hq _) rfl ?_) | (refine r_append_any (.tmp 36) (.tmp 39) 65 9 _ 16 wi.heap.size Tryz.strJ v4 (0 + 1) (strV (O.take 0) ++ [tx s]) rfl own4 _ (O.length - 0) (k5 - 0) ((strV O).drop 0) rfl (Rd.drop own hq) (fun u hu => strV_one O u (List.mem_of_mem_drop hu)) (by omega) (by decide) (by omega) rfl ?_; intro v5 w5 own5 g5; have z5 := g5.size; have gg := g5.gr gg (own_gr own4 hwi)))
          go_roundw
          case rel =>
            refine ⟨k + 1, wi.heap.size, srtT (L.take (k + 1)), by omega, by go_num, rfl, ?_, hwi, by omega, gg⟩
            rw [← HTS.out]
            have e1 : (O.take 0 ++ [s] ++ O.drop 0).length = 0 + 1 + (O.length - 0) := by simp; omega
            have e2 : strV (O.take 0 ++ [s] ++ O.drop 0) = strV (O.take 0) ++ [tx s] ++ (strV O).drop 0 := by unfold strV; simp
            rw [e1, e2]
            exact own5
          case measure => simp [intOf]; omega
        · obtain ⟨r, rfl⟩ : ∃ r, q = r + 1 := ⟨q - 1, by omega⟩
          have hr : r < O.length := by omega
          obtain ⟨g5, c5, e5, -, -⟩ := own_shape own (by omega)
          cases e5
          have cr := own_val own r _ hr (strV_get O r hr)
          by_cases hg : s < ts O r
          · have hd : decide (s < ts O r) = true := decide_eq_true hg
            have HHJ := hidI (show ∀ x, r ≤ x → x < O.length → s < ts O x from fun x h1 h2 => by
              rcases Nat.lt_or_ge r x with h | h
              · exact HHI.out x (by omega) h2
              · have : x = r := by omega
                subst this
                exact hg)
            have HD := hidI hd
            clear hd hg
            go_wp2_with (first | (refine r_subI _ _ ((r + 1 : Nat) : Int) 1 (r : Int) rfl rfl (by omega) (by omega) rfl ?_) | (refine r_idx 65 _ _ (.slice (some ⟨g5, 0, none⟩) O.length k5) (.int .i64 r) _ rfl rfl (Tryz.strix g5 O.length k5 r hr _) rfl ?_) | (refine r_ldc 9 _ ⟨g5, r, none⟩ (tx (ts O r)) rfl (Tryz.isAgg9 _) cr rfl ?_) | (refine r_bin .gtr _ _ (tx (ts O r)) (tx s) (.bool true) rfl rfl (fun _ => rfl) (gtT_run _ _ _ _ _ HD.out _) rfl ?_))
            go_roundw
            case rel => exact ⟨r, by omega, by go_num, HHJ, gg, own, hb2⟩
            case measure => simp [intOf]
          · have hd : decide (s < ts O r) = false := decide_eq_false hg
            have HLO := hidI (show r + 1 = 0 ∨ ts O (r + 1 - 1) ≤ s from .inr (List.not_lt.1 hg))
            have HD := hidI hd
            clear hd hg
            go_wp2_with (first | (refine r_subI _ _ ((r + 1 : Nat) : Int) 1 (r : Int) rfl rfl (by omega) (by omega) rfl ?_) | (refine r_idx 65 _ _ (.slice (some ⟨g5, 0, none⟩) O.length k5) (.int .i64 r) _ rfl rfl (Tryz.strix g5 O.length k5 r hr _) rfl ?_) | (refine r_ldc 9 _ ⟨g5, r, none⟩ (tx (ts O r)) rfl (Tryz.isAgg9 _) cr rfl ?_) | (refine r_bin .gtr _ _ (tx (ts O r)) (tx s) (.bool false) rfl rfl (fun _ => rfl) (gtT_run _ _ _ _ _ HD.out _) rfl ?_))
            have hts : O.take (r + 1) ++ [s] ++ O.drop (r + 1) = srtT (L.take (k + 1)) := by
              obtain ⟨i1, i2⟩ := ins_ok (O := O) (s := s) (k := (r + 1)) (by rw [HO.out]; exact srtT_sorted _) hq HLO.out HHI.out
              refine srtT_eq ?_ i1
              refine i2.trans ?_
              rw [HTK.out, HO.out]
              exact List.Perm.append_right _ (srtT_perm _)
            have HTS := hidI hts
            clear hts
            have HRT := hidI (show Rd wi (some ⟨g5, 0, none⟩) (r + 1) (strV (O.take (r + 1))) from by
              have := Rd.take (Rd.of_own own) hq
              unfold strV at this ⊢
              rwa [List.map_take])
            have hqc : (r + 1) ≤ k5 := by omega
            go_wp2_with (first | (refine r_cut_hi 65 _ _ (.slice (some ⟨g5, 0, none⟩) O.length k5) (.int .i64 ((r + 1) : Nat)) (.slice (some ⟨g5, 0, none⟩) (r + 1) k5) rfl rfl (Tryz.strcut (some ⟨g5, 0, none⟩) O.length k5 (r + 1) hqc _) rfl ?_) | (go_at_call 35; refine (l1OwnS_any (some ⟨g5, 0, none⟩) (r + 1) k5 (O.take (r + 1)) _ HRT.out (by omega)).mono ?_; rintro e w2 ⟨g2, u2, rfl, own2⟩; have hne := own_far own own2 (Nat.le_refl _); have gg := gg.trans g2; have z2 := g2.size; have own := g2.row own) | (refine r_slice1 65 9 (.tmp 33) (tx s) rfl (Tryz.bstr1 _ _) rfl ?_; intro w3 B3 N3; have g3 := N3.gr; have own3 := g3.row own2; have gg := gg.trans g3; have own := g3.row own; have z3 := g3.size) | (refine r_append (.tmp 32) (.tmp 34) 65 9 _ 1 16 wi.heap.size Tryz.strJ u2 (r + 1) (strV (O.take (r + 1))) rfl own3 ⟨B3, 0, none⟩ 1 1 [tx s] rfl rfl N3.cell1 (by intro u hu; simp at hu; subst hu; rfl) (by omega) (by decide) (by omega) rfl ?_; intro v4 w4 own4 g4; have own := g4.row own hne; have z4 := g4.size; have gg := g4.gr gg (own_gr own3 hwi)) | (refine r_cut_lo 65 _ _ (.slice (some ⟨g5, 0, none⟩) O.length k5) (.int .i64 ((r + 1) : Nat)) _ rfl rfl (Tryz.strfrom (some ⟨g5, 0, none⟩) O.length k5 (r + 1) hq _) rfl ?_) | (refine r_append_any (.tmp 36) (.tmp 39) 65 9 _ 16 wi.heap.size Tryz.strJ v4 ((r + 1) + 1) (strV (O.take (r + 1)) ++ [tx s]) rfl own4 _ (O.length - (r + 1)) (k5 - (r + 1)) ((strV O).drop (r + 1)) rfl (Rd.drop own hq) (fun u hu => strV_one O u (List.mem_of_mem_drop hu)) (by omega) (by decide) (by omega) rfl ?_; intro v5 w5 own5 g5; have z5 := g5.size; have gg := g5.gr gg (own_gr own4 hwi)))
            go_roundw
            case rel =>
              refine ⟨k + 1, wi.heap.size, srtT (L.take (k + 1)), by omega, by go_num, rfl, ?_, hwi, by omega, gg⟩
              rw [← HTS.out]
              have e1 : (O.take (r + 1) ++ [s] ++ O.drop (r + 1)).length = (r + 1) + 1 + (O.length - (r + 1)) := by simp; omega
              have e2 : strV (O.take (r + 1) ++ [s] ++ O.drop (r + 1)) = strV (O.take (r + 1)) ++ [tx s] ++ (strV O).drop (r + 1) := by unfold strV; simp
              rw [e1, e2]
              exact own5
            case measure => simp [intOf]; omega
    · obtain rfl : k = L.length := by omega
      clear hlt
      go_wp2
      go_ret
      refine ⟨gg, _, base, rfl, hb1, ?_⟩
      have e := HO.out
      rw [List.take_length] at e
      subst e
      rw [srtT_length] at own
      exact own
end Go.Proofs.YtoadoeahbekkoaaGreatDoor
