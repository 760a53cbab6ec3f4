/-
  The cells that a ball comes to: plain mathematics, the states of a tray with a ball, a number put into an increasing list.
-/
import Derived.Test.YtamdmhclhjkogaaDoorReachR
import Derived.Test.YtamdmhclhjkogaaDoorPlace
import Derived.Lib.IndexLaws
namespace Go.Proofs.YtamdmhclhjkogaaDoor
open Go.RowKit
theorem strict_eq : ∀ {l m : List Int}, l.Pairwise (· < ·) → m.Pairwise (· < ·) → (∀ x, x ∈ l ↔ x ∈ m) → l = m := by
  intro l m hl hm h
  have n1 : l.Nodup := hl.imp (fun h => by omega)
  have n2 : m.Nodup := hm.imp (fun h => by omega)
  exact perm_eq (· ≤ ·) (fun a b h1 h2 => by omega) l m ((List.perm_ext_iff_of_nodup n1 n2).2 h) (hl.imp (fun h => by omega)) (hm.imp (fun h => by omega))
theorem mem_rowL (W : Nat) (c : List UInt8) (y : Nat) (b : UInt8) : b ∈ rowL W c y ↔ ∃ i, nn W y ≤ i ∧ i < nn W (y + 1) ∧ at0 c i = b := by
  have e : nn W (y + 1) = nn W y + W := by unfold nn; rw [Nat.mul_succ]
  unfold rowL
  rw [List.mem_map, e]
  constructor
  · rintro ⟨x, hx, rfl⟩
    have := List.mem_range.1 hx
    exact ⟨nn W y + x, by omega, by omega, rfl⟩
  · rintro ⟨i, h1, h2, rfl⟩
    exact ⟨i - nn W y, List.mem_range.2 (by omega), by rw [show nn W y + (i - nn W y) = i by omega]⟩
theorem mem_txtL {b : UInt8} (hb : b ≠ 47) (W : Nat) (c : List UInt8) (y : Nat) : b ∈ txtL W c y ↔ ∃ i, i < nn W y ∧ at0 c i = b := by
  induction y with
  | zero => exact ⟨fun h => (by cases h), fun ⟨i, h, _⟩ => (by unfold nn at h; omega)⟩
  | succ y ih =>
    have hmono : nn W y ≤ nn W (y + 1) := by unfold nn; exact Nat.mul_le_mul_left _ (by omega)
    by_cases h0 : y = 0
    · subst h0
      rw [txtL_one, mem_rowL]
      constructor
      · rintro ⟨i, _, h2, h3⟩; exact ⟨i, h2, h3⟩
      · rintro ⟨i, h2, h3⟩; exact ⟨i, by unfold nn; omega, h2, h3⟩
    · rw [txtL_succ W c y (by omega), List.mem_append, List.mem_append, ih, mem_rowL, List.mem_singleton]
      constructor
      · rintro ((⟨i, h1, h2⟩ | h) | ⟨i, _, h2, h3⟩)
        · exact ⟨i, by omega, h2⟩
        · exact absurd h hb
        · exact ⟨i, h2, h3⟩
      · rintro ⟨i, h1, h2⟩
        by_cases h : i < nn W y
        · exact .inl (.inl ⟨i, h, h2⟩)
        · exact .inr ⟨i, by omega, h1, h2⟩
theorem index_mem (l : List UInt8) (b : UInt8) : 0 ≤ Lib.indexByte l b ↔ b ∈ l := by
  constructor
  · intro h
    obtain ⟨h1, -⟩ := Lib.indexByte_some (o := (Lib.indexByte l b).toNat) (l := l) (c := b) (by omega)
    exact List.mem_of_getElem? h1
  · intro h
    have hge := Lib.indexByte_ge l b
    rcases Int.lt_or_le (Lib.indexByte l b) 0 with hn | hn
    · obtain ⟨k, hk, e⟩ := List.getElem_of_mem h
      exact absurd (by rw [List.getElem?_eq_getElem hk, e]) (Lib.indexByte_none (show Lib.indexByte l b = -1 by omega) k)
    · exact hn
/-- A ball is in the text exactly when it is in the tray. -/
theorem ball_in {l : List UInt8} {g : Grid} (h : parse l = some g) {b : UInt8} (hb : isNameB b = true) : decide (0 ≤ Lib.indexByte l b) = decide (0 ≤ ixC g.c b g.c.length) := by
  have ht := parse_tray h
  have h47 : b ≠ 47 := by rintro rfl; exact absurd hb (by decide)
  rw [decide_eq_decide, index_mem]
  conv => lhs; rw [← parse_text h]
  rw [mem_txtL h47, ← ht.len]
  rcases ixC_cases g.c b g.c.length with ⟨h1, h2⟩ | ⟨k, h1, h2, h3, -⟩
  · rw [h1]
    exact ⟨fun ⟨i, hi, e⟩ => absurd e (h2 i hi), fun h => absurd h (by decide)⟩
  · rw [h2]
    exact ⟨fun _ => by omega, fun _ => ⟨k, h1, h3⟩⟩
/-- The states that a tray with a ball reaches. -/
def rbS (l : List UInt8) (n : ByteArray) : Option (List (Sta Grid)) := match parse l with
  | none => none
  | some g => if nameS n && decide (0 ≤ ixC g.c (hd n) g.c.length) then rcS l else none
set_option maxHeartbeats 1000000 in
set_option maxRecDepth 100000 in
theorem readStatesOfBall_any (s n : ByteArray) (w : World) (hm : ML w) (hs : s.size ≤ 1048576) : Calls Tryd.prog 58 #[.string s, .string n] w (RetI (rbS s.data.toList n) w) := by
  have gg := Gr.refl w
  cases hn : nameS n with
  | false =>
    have HO := hidI hn
    have HV := hidI (show rbS s.data.toList n = none from by unfold rbS; rw [hn]; cases parse s.data.toList <;> rfl)
    clear hn
    go_enter Tryd.func58, Tryd.ntmps58
    go_wp2_with (go_at_call 77; refine (isName_any _ _).mono ?_; rintro e wSame ⟨rfl, rfl⟩; rw [HO.out])
    go_ret2
    exact ⟨gg, by rw [HV.out]; rfl⟩
  | true =>
    have HO := hidI hn
    have hn' := hn
    unfold nameS at hn'
    rw [Bool.and_eq_true, decide_eq_true_eq] at hn'
    have h1 := one_of n hn'.1
    obtain ⟨b, hb⟩ : ∃ b, b = hd n := ⟨_, rfl⟩
    rw [← hb] at h1
    subst h1
    have hnb : isNameB b = true := by rw [hb]; exact hn'.2
    cases hc : decide (0 ≤ Lib.indexByte s.data.toList b) with
    | false =>
      have HC := hidI hc
      have HV := hidI (show rbS s.data.toList ⟨#[b]⟩ = none from by
        unfold rbS
        cases hp : parse s.data.toList with
        | none => rfl
        | some g =>
          show (if nameS ⟨#[b]⟩ && decide (0 ≤ ixC g.c b g.c.length) then _ else _) = _
          rw [← ball_in hp hnb, hc, Bool.and_false]
          rfl)
      clear hc hn hn' hb
      go_enter Tryd.func58, Tryd.ntmps58
      go_wp2_with (first | (go_at_call 77; refine (isName_any _ _).mono ?_; rintro e wSame ⟨rfl, rfl⟩; rw [HO.out]) | (go_at_call 92; refine (Tryd.strings_Contains_one _ _ _).mono ?_; rintro e wSame ⟨rfl, rfl⟩; rw [HC.out]))
      go_ret2
      exact ⟨gg, by rw [HV.out]; rfl⟩
    | true =>
      have HC := hidI hc
      have HV := hidI (show rbS s.data.toList ⟨#[b]⟩ = rcS s.data.toList from by
        unfold rbS
        cases hp : parse s.data.toList with
        | none => unfold rcS; rw [hp]
        | some g =>
          show (if nameS ⟨#[b]⟩ && decide (0 ≤ ixC g.c b g.c.length) then _ else _) = _
          rw [← ball_in hp hnb, hc, hn]
          rfl)
      have HA := readStates_any s w hm hs
      rw [← HV.out] at HA
      unfold RetI at HA ⊢
      clear hc hn hn' hb
      cases hR : rbS s.data.toList ⟨#[b]⟩ with
      | none =>
        rw [hR] at HA
        go_enter Tryd.func58, Tryd.ntmps58
        go_wp2_with (first | (go_at_call 77; refine (isName_any _ _).mono ?_; rintro e wSame ⟨rfl, rfl⟩; rw [HO.out]) | (go_at_call 92; refine (Tryd.strings_Contains_one _ _ _).mono ?_; rintro e wSame ⟨rfl, rfl⟩; rw [HC.out]) | (go_at_call 93; refine HA.mono ?_; rintro e w1 ⟨g1, rfl⟩))
        go_ret2
        exact ⟨g1, rfl⟩
      | some S =>
        rw [hR] at HA
        go_enter Tryd.func58, Tryd.ntmps58
        go_wp2_with (first | (go_at_call 77; refine (isName_any _ _).mono ?_; rintro e wSame ⟨rfl, rfl⟩; rw [HO.out]) | (go_at_call 92; refine (Tryd.strings_Contains_one _ _ _).mono ?_; rintro e wSame ⟨rfl, rfl⟩; rw [HC.out]) | (go_at_call 93; refine HA.mono ?_; rintro e w1 ⟨g1, v, nx, rfl, IS⟩))
        go_ret2
        exact ⟨g1, v, nx, rfl, IS⟩
end Go.Proofs.YtamdmhclhjkogaaDoor
