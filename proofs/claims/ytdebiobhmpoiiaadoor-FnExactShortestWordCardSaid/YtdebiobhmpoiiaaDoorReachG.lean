/-
  Whether a tray reaches another one, how far it lies, and how many shortest words there are: in the program and in the model, and the laws.
-/
import Derived.Test.YtdebiobhmpoiiaaDoorReachF
namespace Go.Proofs.YtdebiobhmpoiiaaDoor
open Go.RowKit
theorem fndS_some {l u : List UInt8} {S : List (Sta Grid)} {m : Grid} (h : fndS l u = some (S, m)) : 0 < S.length ∧ S.length ≤ 300 := by
  unfold fndS at h
  cases hr : rcS l with
  | none => rw [hr] at h; cases h
  | some T =>
    rw [hr] at h
    cases hp : parse u with
    | none => rw [hp] at h; cases h
    | some x =>
      rw [hp] at h
      obtain ⟨h0, h300, -⟩ := rcS_known hr
      cases h
      exact ⟨h0, h300⟩
def RetH (o : Option (List (Sta Grid) × Grid)) (w : World) (e : Ending) (w' : World) : Prop :=
  Gr w w' ∧ match o with
    | none => e = .returned (.tuple #[.slice none 0 0, .int .i64 (-1), .bool false])
    | some (S, m) => ∃ v bk sl nx, e = .returned (.tuple #[v, .int .i64 (plV S m), .bool true]) ∧ SSt w.heap.size w' v S bk sl nx ∧ SNx w.heap.size w' S nx
set_option maxHeartbeats 2000000 in
set_option maxRecDepth 100000 in
theorem rePlaceT (base : Nat) (S : List (Sta Grid)) (v : Value) (bk : Nat → Nat) (sl nx : Nat → Value) (x : Grid) (w : World) (hs : SSt base w v S bk sl nx) (hT : ∀ j, j < S.length → (txtG (sta S j).t = txtG x ↔ (sta S j).t = x)) (hl : S.length ≤ 300) :
    Calls Tryd.prog 60 #[v, .string (txtG x)] w (Ret (.int .i64 (plV S x)) w) := by
  have gg := Gr.refl w
  obtain ⟨p, m, q, rfl⟩ := own_slice hs.row
  obtain rfl : m = S.length := own_len hs.row
  have HS := hidI hs
  have HT := hidI hT
  clear hs hT
  go_enter Tryd.func60, Tryd.ntmps60
  go_wp2
  go_loopw [9] (fun iv wr => ∃ k : Nat, k ≤ S.length ∧ iv = .int .i64 k ∧ Gr w wr ∧ Hid (∀ j, j < k → (sta S j).t ≠ x)) (fun iv _ => S.length - (intOf iv).toNat)
  case atStart => exact ⟨0, Nat.zero_le _, rfl, gg, hidI (fun j hj => by omega)⟩
  case round =>
    obtain ⟨k, hk, rfl, gg, HN⟩ := hrel
    by_cases hlt : k < S.length
    · obtain ⟨g, cap, e, -, -⟩ := own_shape HS.out.row (by omega)
      cases e
      have HW := hidI (HS.out.gr gg)
      have hc0 := HW.out.ptr hlt
      have hc3 : wr.cell? ⟨bk k, 3, none⟩ = some (.string (txtG (sta S k).t)) := HW.out.cell hlt 3
      by_cases he : (sta S k).t = x
      · have HE := hidI (show decide (txtG (sta S k).t = txtG x) = true from by rw [decide_eq_true_eq, he])
        have HV := hidI (show (k : Int) = plV S x from by unfold plV; rw [findS_first hlt he HN.out])
        clear he
        go_wp2_with (first | (refine r_idx 50 _ _ (.slice (some ⟨g, 0, none⟩) S.length cap) (.int .i64 k) _ rfl rfl (Tryd.psix g S.length cap k hlt _) rfl ?_) | (refine r_ldc 58 _ ⟨g, k, none⟩ (ptrV (bk k)) rfl (Tryd.isAgg58 _) hc0 rfl ?_) | (refine r_nil _ ⟨bk k, 0, none⟩ rfl rfl ?_) | (refine r_fld 57 _ 1 (.pointer (some ⟨bk k, 0, none⟩)) (.pointer (some ⟨bk k, 3, none⟩)) rfl (Tryd.rf1 _ _) rfl ?_) | (refine r_ldc 9 _ ⟨bk k, 3, none⟩ (.string (txtG (sta S k).t)) rfl (Tryd.isAgg9 _) hc3 rfl ?_) | (refine r_eqS _ _ (txtG (sta S k).t) (txtG x) true rfl rfl HE.out rfl ?_))
        go_ret
        exact ⟨ret_int HV.out, gg⟩
      · have HE := hidI (show decide (txtG (sta S k).t = txtG x) = false from by rw [decide_eq_false_iff_not]; exact fun h => he ((HT.out k hlt).1 h))
        have HN2 := hidI (show ∀ j, j < k + 1 → (sta S j).t ≠ x from fun j hj => if h : j < k then HN.out j h else by rw [show j = k by omega]; exact he)
        clear he
        go_wp2_with (first | (refine r_idx 50 _ _ (.slice (some ⟨g, 0, none⟩) S.length cap) (.int .i64 k) _ rfl rfl (Tryd.psix g S.length cap k hlt _) rfl ?_) | (refine r_ldc 58 _ ⟨g, k, none⟩ (ptrV (bk k)) rfl (Tryd.isAgg58 _) hc0 rfl ?_) | (refine r_nil _ ⟨bk k, 0, none⟩ rfl rfl ?_) | (refine r_fld 57 _ 1 (.pointer (some ⟨bk k, 0, none⟩)) (.pointer (some ⟨bk k, 3, none⟩)) rfl (Tryd.rf1 _ _) rfl ?_) | (refine r_ldc 9 _ ⟨bk k, 3, none⟩ (.string (txtG (sta S k).t)) rfl (Tryd.isAgg9 _) hc3 rfl ?_) | (refine r_eqS _ _ (txtG (sta S k).t) (txtG x) false rfl rfl HE.out rfl ?_))
        go_roundw
        case rel => exact ⟨k + 1, by omega, by go_num, gg, HN2⟩
        case measure => simp [intOf]; omega
    · obtain rfl : k = S.length := by omega
      have HV := hidI (show (-1 : Int) = plV S x from by
        unfold plV
        cases hf : findS S x with
        | none => rfl
        | some j => obtain ⟨a1, a2, -⟩ := findS_some hf; exact absurd a2 (HN.out j a1))
      clear hlt
      go_wp2
      go_ret
      exact ⟨ret_int HV.out, gg⟩
set_option maxHeartbeats 1000000 in
set_option maxRecDepth 100000 in
theorem reTo_any (s u : ByteArray) (w : World) (hs : s.size ≤ 1048576) (hu : u.size ≤ 1048576) : Calls Tryd.prog 31 #[.string s, .string u] w (RetH (fndS s.data.toList u.data.toList) w) := by
  have gg := Gr.refl w
  have HA := reAll_any s w hs
  unfold RetM at HA
  cases hR : rcS s.data.toList with
  | none =>
    have HV := hidI (show fndS s.data.toList u.data.toList = none from by unfold fndS; rw [hR])
    rw [hR] at HA
    clear hR
    go_enter Tryd.func31, Tryd.ntmps31
    go_wp2_with (go_at_call 59; refine HA.mono ?_; rintro e w1 ⟨g1, rfl⟩)
    go_ret3
    exact ⟨g1, by rw [HV.out]; exact rfl⟩
  | some S =>
    rw [hR] at HA
    obtain ⟨h0, h300, hS⟩ := rcS_known hR
    rcases rd_cases u.data.toList with ⟨hp, hg, hk⟩ | ⟨g, hp, hg, hk⟩
    · have HV := hidI (show fndS s.data.toList u.data.toList = none from by unfold fndS; rw [hR, hp])
      have HK := hidI hk
      clear hR hp hg hk hS
      go_enter Tryd.func31, Tryd.ntmps31
      go_wp2_with (first | (go_at_call 59; refine HA.mono ?_; rintro e w1 ⟨g1, v, bk, sl, nx, rfl, M, X⟩; have gg := gg.trans g1) | (go_at_call 55; refine (tyGood_any u _ hu).mono ?_; rintro e w2 ⟨rfl, g2⟩; rw [HK.out]; have z2 := g2.size; have gg := gg.trans g2))
      go_ret3
      exact ⟨gg, by rw [HV.out]; exact rfl⟩
    · have HV := hidI (show fndS s.data.toList u.data.toList = some (S, g) from by unfold fndS; rw [hR, hp])
      have HK := hidI hk
      obtain ⟨hc, c1, c2, -⟩ := cel_of hp
      have HT := hidI (fun j (hj : j < S.length) => show txtG (sta S j).t = txtG g ↔ (sta S j).t = g from by obtain ⟨a1, a2, a3⟩ := hS j hj; exact txt_eq2 a1 hc a2 a3 c2)
      have HX := hidI (show u = txtG g from txt_of hp)
      clear hR hp hg hk hS hc
      go_enter Tryd.func31, Tryd.ntmps31
      go_wp2_with (first | (go_at_call 59; refine HA.mono ?_; rintro e w1 ⟨g1, v, bk, sl, nx, rfl, M, X⟩; have gg := gg.trans g1) | (go_at_call 55; refine (tyGood_any u _ hu).mono ?_; rintro e w2 ⟨rfl, g2⟩; rw [HK.out]; have z2 := g2.size; have gg := gg.trans g2) | (go_at_call 60; refine (show Calls Tryd.prog 60 #[v, .string u] _ _ from HX.out.symm ▸ rePlaceT _ S v bk sl nx g _ (M.gr g2) HT.out h300).mono ?_; rintro e w3 ⟨rfl, g3⟩; have gg := gg.trans g3))
      go_ret3
      refine ⟨gg, ?_⟩
      rw [HV.out]
      exact ⟨v, bk, sl, nx, rfl, (M.gr g2).gr g3, ⟨fun j hj => g3.row (g2.row (X.nxt j hj))⟩⟩
def frB (l u : List UInt8) : Bool := match fndS l u with
  | none => false
  | some (S, m) => match findS S m with
    | none => false
    | some _ => true
def frOk (l u : List UInt8) : Bool := match fndS l u with
  | none => false
  | some _ => true
def fdN (l u : List UInt8) : Int := match fndS l u with
  | none => 0
  | some (S, m) => match findS S m with
    | none => 0
    | some k => (sta S k).far
def fdOk (l u : List UInt8) : Bool := match fndS l u with
  | none => false
  | some (S, m) => match findS S m with
    | none => false
    | some _ => true
def fcN (l u : List UInt8) : Int := match fndS l u with
  | none => 0
  | some (S, m) => match findS S m with
    | none => 0
    | some k => (sta S k).words
end Go.Proofs.YtdebiobhmpoiiaaDoor
