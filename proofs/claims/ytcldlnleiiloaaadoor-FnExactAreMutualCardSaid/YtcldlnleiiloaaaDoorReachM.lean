/-
  Trays that reach each other: in the program and in the model, and the law.
-/
import Derived.Test.YtcldlnleiiloaaaDoorReachA
namespace Go.Proofs.YtcldlnleiiloaaaDoor
open Go.RowKit
theorem InvS.edge {P : Grid → Prop} {g : Grid} {S : List (Sta Grid)} (h : InvS P tiltG g S.length 0 S) {j e : Nat} (hj : j < S.length) (he : e ∈ (sta S j).next) : e < S.length ∧ ∃ d, d < 4 ∧ (sta S e).t = tiltG d (sta S j).t := by
  obtain ⟨i, hi, e1⟩ := List.getElem_of_mem he
  have hn := h.nl j hj
  rw [if_pos hj] at hn
  obtain ⟨a, b⟩ := h.nx j i hj hi
  rw [List.getD_eq_getElem?_getD, List.getElem?_eq_getElem hi] at a b
  rw [Option.getD_some, e1] at a b
  exact ⟨a, i, by omega, b⟩
theorem greach_iff {P : Grid → Prop} {g : Grid} {S : List (Sta Grid)} (h : InvS P tiltG g S.length 0 S) {k j : Nat} (hk : k < S.length) (hj : j < S.length) : GReach S k j ↔ ReachI tiltG (sta S k).t (sta S j).t := by
  constructor
  · intro hr
    have key : ∀ i, GReach S k i → i < S.length ∧ ReachI tiltG (sta S k).t (sta S i).t := fun i hi => by
      induction hi with
      | refl => exact ⟨hk, .refl⟩
      | step _ he ih =>
        obtain ⟨h1, h2⟩ := ih
        obtain ⟨h3, d, hd, h4⟩ := h.edge h1 he
        exact ⟨h3, by rw [h4]; exact .step d h2 hd⟩
    exact (key j hr).2
  · intro hr
    have key : ∀ y, ReachI tiltG (sta S k).t y → ∃ i, i < S.length ∧ (sta S i).t = y ∧ GReach S k i := fun y hy => by
      induction hy with
      | refl => exact ⟨k, hk, rfl, .refl⟩
      | step d _ hd ih =>
        obtain ⟨i, hi, rfl, hg⟩ := ih
        have hn := h.nl i hi
        rw [if_pos hi] at hn
        have hdl : d < (sta S i).next.length := by omega
        obtain ⟨a, b⟩ := h.nx i d hi hdl
        exact ⟨_, a, b, .step hg (getD_mem hdl)⟩
    obtain ⟨i, hi, e, hg⟩ := key _ hr
    rcases Nat.lt_trichotomy i j with h' | h' | h'
    · exact absurd e (h.ne i j h' hj)
    · exact h' ▸ hg
    · exact absurd e.symm (h.ne j i h' hi)
def amOk (l u : List UInt8) : Bool := frOk l u && frOk u l
def amB (l u : List UInt8) : Bool := if amOk l u then frB l u && frB u l else false
theorem fin_bb2 {a b c d : Bool} (h1 : c = a) (h2 : d = b) : Ending.returned (.tuple #[.bool a, .bool b]) = .returned (.tuple #[.bool c, .bool d]) := by rw [h1, h2]
set_option maxHeartbeats 1000000 in
set_option maxRecDepth 100000 in
theorem iAreMutual (s u : ByteArray) (w : World) (hm : ML w) (hs : s.size ≤ 1048576) (hu : u.size ≤ 1048576) : Calls Tryd.prog 27 #[.string s, .string u] w (Ret (.tuple #[.bool (amB s.data.toList u.data.toList), .bool (amOk s.data.toList u.data.toList)]) w) := by
  have gg := Gr.refl w
  have HA := hidI (fun (w : World) (hm : ML w) => iIsReached s u w hm hs hu)
  have HB := hidI (fun (w : World) (hm : ML w) => iIsReached u s w hm hu hs)
  obtain ⟨x, hx⟩ : ∃ x, x = frB s.data.toList u.data.toList := ⟨_, rfl⟩
  obtain ⟨y, hy⟩ : ∃ y, y = frB u.data.toList s.data.toList := ⟨_, rfl⟩
  have HV := hidI (show amB s.data.toList u.data.toList = if amOk s.data.toList u.data.toList then x && y else false from by unfold amB; rw [hx, hy])
  rw [← hx] at HA
  rw [← hy] at HB
  clear hx hy
  cases h1 : frOk s.data.toList u.data.toList
  · have HO := hidI (show amOk s.data.toList u.data.toList = false from by unfold amOk; rw [h1]; rfl)
    have HV2 := hidI (show amB s.data.toList u.data.toList = false from by rw [HV.out, HO.out]; rfl)
    rw [h1] at HA
    clear h1
    cases h2 : frOk u.data.toList s.data.toList
    all_goals
      rw [h2] at HB
      clear h2
      go_enter Tryd.func27, Tryd.ntmps27
      go_wp2_with fail
      refine (HA.out _ hm).mono ?_
      rintro e w1 ⟨rfl, g1⟩
      have gg := gg.trans g1
      go_wp2_with fail
      refine (HB.out _ (gg.ml hm)).mono ?_
      rintro e w2 ⟨rfl, g2⟩
      have gg := gg.trans g2
      go_wp2
      go_ret2
      exact ⟨fin_bb2 HV2.out HO.out, gg⟩
  · rw [h1] at HA
    cases h2 : frOk u.data.toList s.data.toList
    · have HO := hidI (show amOk s.data.toList u.data.toList = false from by unfold amOk; rw [h1, h2]; rfl)
      have HV2 := hidI (show amB s.data.toList u.data.toList = false from by rw [HV.out, HO.out]; rfl)
      rw [h2] at HB
      clear h1 h2
      go_enter Tryd.func27, Tryd.ntmps27
      go_wp2_with fail
      refine (HA.out _ hm).mono ?_
      rintro e w1 ⟨rfl, g1⟩
      have gg := gg.trans g1
      go_wp2_with fail
      refine (HB.out _ (gg.ml hm)).mono ?_
      rintro e w2 ⟨rfl, g2⟩
      have gg := gg.trans g2
      go_wp2
      go_ret2
      exact ⟨fin_bb2 HV2.out HO.out, gg⟩
    · have HO := hidI (show amOk s.data.toList u.data.toList = true from by unfold amOk; rw [h1, h2]; rfl)
      have HV2 := hidI (show amB s.data.toList u.data.toList = (x && y) from by rw [HV.out, HO.out]; rfl)
      rw [h2] at HB
      clear h1 h2
      cases x
      all_goals
        go_enter Tryd.func27, Tryd.ntmps27
        go_wp2_with fail
        refine (HA.out _ hm).mono ?_
        rintro e w1 ⟨rfl, g1⟩
        have gg := gg.trans g1
        go_wp2_with fail
        refine (HB.out _ (gg.ml hm)).mono ?_
        rintro e w2 ⟨rfl, g2⟩
        have gg := gg.trans g2
        go_wp2
        go_ret2
        exact ⟨fin_bb2 HV2.out HO.out, gg⟩
theorem fndS_parts {l u : List UInt8} {S : List (Sta Grid)} {m : Grid} (h : fndS l u = some (S, m)) : rcS l = some S ∧ parse u = some m := by
  unfold fndS at h
  cases hr : rcS l with
  | none => rw [hr] at h; cases h
  | some T =>
    rw [hr] at h
    cases hp : parse u with
    | none => rw [hp] at h; cases h
    | some x => rw [hp] at h; cases h; exact ⟨rfl, rfl⟩
theorem rcS_inv2 {l : List UInt8} {S : List (Sta Grid)} {g : Grid} (h : rcS l = some S) (hp : parse l = some g) : InvS (Sized g.w g.h) tiltG g S.length 0 S := by
  obtain ⟨g', hp', hi⟩ := rcS_inv h
  rw [hp] at hp'
  cases hp'
  exact hi
set_option maxHeartbeats 1000000 in
set_option maxRecDepth 100000 in
theorem sAreMutual (s u : ByteArray) (w : World) (hs : s.size ≤ 1048576) (hu : u.size ≤ 1048576) : Calls Tryd.prog 26 #[.string s, .string u] w (Ret (.tuple #[.bool (amB s.data.toList u.data.toList), .bool (amOk s.data.toList u.data.toList)]) w) := by
  have gg := Gr.refl w
  have HA := reTo_any s u w hs hu
  unfold RetH at HA
  cases hR : fndS s.data.toList u.data.toList with
  | none =>
    rw [hR] at HA
    have HO := hidI (show amOk s.data.toList u.data.toList = false from by unfold amOk frOk; rw [hR]; rfl)
    have HV := hidI (show amB s.data.toList u.data.toList = false from by unfold amB; rw [HO.out]; rfl)
    clear hR
    go_enter Tryd.func26, Tryd.ntmps26
    go_wp2_with (go_at_call 32; refine HA.mono ?_; rintro e w1 ⟨g1, rfl⟩)
    go_ret2
    exact ⟨fin_bb2 HV.out HO.out, g1⟩
  | some p =>
    obtain ⟨S, m⟩ := p
    rw [hR] at HA
    obtain ⟨h0, h300⟩ := fndS_some hR
    obtain ⟨hrs, hpu⟩ := fndS_parts hR
    obtain ⟨g, hpg, hi⟩ := rcS_inv hrs
    have HB := hidI (fun (w : World) => reAll_any u w hu)
    unfold RetM at HB
    cases hR2 : rcS u.data.toList with
    | none =>
      have HF := hidI (show frOk u.data.toList s.data.toList = false from by unfold frOk fndS; rw [hR2])
      have HO := hidI (show amOk s.data.toList u.data.toList = false from by unfold amOk; rw [HF.out, Bool.and_false])
      have HV := hidI (show amB s.data.toList u.data.toList = false from by unfold amB; rw [HO.out]; rfl)
      rw [hR2] at HB
      clear hR hR2 hrs hpu hpg hi
      go_enter Tryd.func26, Tryd.ntmps26
      go_wp2_with (first | (go_at_call 32; refine HA.mono ?_; rintro e w1 ⟨g1, v, bk, sl, nx, rfl, M, X⟩; have gg := gg.trans g1) | (go_at_call 30; refine (HB.out _).mono ?_; rintro e w2 ⟨g2, rfl⟩; have gg := gg.trans g2))
      go_ret2
      exact ⟨fin_bb2 HV.out HO.out, gg⟩
    | some T =>
      have hi2 := rcS_inv2 hR2 hpu
      have HU := hidI (show fndS u.data.toList s.data.toList = some (T, g) from by unfold fndS; rw [hR2, hpg])
      have HF1 := hidI (show frOk s.data.toList u.data.toList = true from by unfold frOk; rw [hR])
      have HF2 := hidI (show frOk u.data.toList s.data.toList = true from by unfold frOk; rw [HU.out])
      have HO := hidI (show amOk s.data.toList u.data.toList = true from by unfold amOk; rw [HF1.out, HF2.out]; rfl)
      rw [hR2] at HB
      cases hf : findS S m with
      | none =>
        have HP := hidI (show plV S m = -1 from by unfold plV; rw [hf])
        have HV := hidI (show amB s.data.toList u.data.toList = false from by
          unfold amB
          rw [HO.out, if_pos rfl]
          have : frB s.data.toList u.data.toList = false := by unfold frB; rw [hR]; show (match findS S m with | none => false | some _ => true) = _; rw [hf]
          rw [this]; rfl)
        clear hR hR2 hrs hpu hpg hi hi2 hf
        go_enter Tryd.func26, Tryd.ntmps26
        go_wp2_with (first | (go_at_call 32; refine HA.mono ?_; rintro e w1 ⟨g1, v, bk, sl, nx, rfl, M, X⟩; rw [HP.out]; have gg := gg.trans g1) | (go_at_call 30; refine (HB.out _).mono ?_; rintro e w2 ⟨g2, v2, bk2, sl2, nx2, rfl, M2, X2⟩; have gg := gg.trans g2))
        go_ret2
        exact ⟨fin_bb2 HV.out HO.out, gg⟩
      | some k =>
        obtain ⟨hk, hkt, -⟩ := findS_some hf
        have HP := hidI (show plV S m = (k : Int) from by unfold plV; rw [hf])
        have HNX := hidI (fun j (hj : j < S.length) e (he : e ∈ (sta S j).next) => (hi.edge hj he).1)
        have HNL := hidI (fun j (hj : j < S.length) => show (sta S j).next.length = 4 from by have := hi.nl j hj; rw [if_pos hj] at this; exact this)
        have HV := hidI (fun (b : Bool) (hb : b = true ↔ GReach S k 0) => show amB s.data.toList u.data.toList = b from by
          unfold amB
          rw [HO.out, if_pos rfl]
          have e1 : frB s.data.toList u.data.toList = true := by unfold frB; rw [hR]; show (match findS S m with | none => false | some _ => true) = _; rw [hf]
          have e2 : frB u.data.toList s.data.toList = (findS T g).isSome := by unfold frB; rw [HU.out]; show (match findS T g with | none => false | some _ => true) = _; cases findS T g <;> rfl
          rw [e1, e2, Bool.true_and, Bool.eq_iff_iff, hb, hi2.find_iff, greach_iff hi hk hi.pos, hkt, hi.fst.1])
        clear hR hR2 hrs hpu hpg hi hi2 hf hkt
        go_enter Tryd.func26, Tryd.ntmps26
        go_wp2_with (first | (go_at_call 32; refine HA.mono ?_; rintro e w1 ⟨g1, v, bk, sl, nx, rfl, M, X⟩; rw [HP.out]; have gg := gg.trans g1) | (go_at_call 30; refine (HB.out _).mono ?_; rintro e w2 ⟨g2, v2, bk2, sl2, nx2, rfl, M2, X2⟩; have gg := gg.trans g2) | (go_at_call 37; refine (reFrom_any S _ k v bk sl nx _ (M.gr g2) ⟨fun j hj => g2.row (X.nxt j hj)⟩ hk h300 HNX.out HNL.out).mono ?_; rintro e w3 ⟨g3, v3, f, rfl, own3, hf3⟩; have gg := gg.trans g3; obtain ⟨B3, c3, rfl, -, -⟩ := own_shape own3 h0; have c0 := own_val own3 0 _ h0 (boolsV_get _ _ 0 h0)) | (refine r_idx 62 _ _ (.slice (some ⟨B3, 0, none⟩) S.length c3) (.int .i64 0) _ rfl rfl (Tryd.boix B3 S.length c3 0 h0 _) rfl ?_) | (refine r_ldc 4 _ ⟨B3, 0, none⟩ (.bool (f 0)) rfl (Tryd.isAgg4 _) c0 rfl ?_))
        go_ret2
        exact ⟨fin_bb2 (HV.out _ (hf3 0 h0)) HO.out, gg⟩
set_option maxHeartbeats 1000000 in
theorem lawAreMutual (s t : ByteArray) (w : World) (hm : ML w) : Calls Tryd.prog 9 #[.string s, .string t] w (Ret (.bool true) w) := by
  have gg := Gr.refl w
  by_cases hs : 1048576 < s.size
  · go_enter Tryd.func9, Tryd.ntmps9
    go_wp2
    go_ret
    exact ⟨rfl, gg⟩
  · have hs' : s.size ≤ 1048576 := by omega
    clear hs
    by_cases hc : 1048576 < t.size
    · go_enter Tryd.func9, Tryd.ntmps9
      go_wp2
      go_ret
      exact ⟨rfl, gg⟩
    · have hc' : t.size ≤ 1048576 := by omega
      clear hc
      go_enter Tryd.func9, Tryd.ntmps9
      go_wp2_with (first | (go_at_call 26; refine (sAreMutual s t _ hs' hc').mono ?_; rintro e w1 ⟨rfl, g1⟩; have z1 := g1.size; have gg := gg.trans g1) | (go_at_call 27; refine (iAreMutual s t _ (gg.ml hm) hs' hc').mono ?_; rintro e w2 ⟨rfl, g2⟩; have z2 := g2.size; have gg := gg.trans g2))
      go_ret
      exact ⟨rfl, gg⟩
end Go.Proofs.YtcldlnleiiloaaaDoor
