/-
  Whether a tray reaches another one, how far it lies, and how many shortest words there are: in the program and in the model, and the laws.
-/
import Derived.Test.YtcldlnleiiloaaaDoorReachF
namespace Go.Proofs.YtcldlnleiiloaaaDoor
open Go.RowKit
theorem fndS_some {l u : List UInt8} {S : List (Sta Grid)} {m : Grid} (h : fndS l u = some (S, m)) : 0 < S.length ∧ S.length ≤ 300 := by
  unfold fndS at h
  cases hr : rcS l with
  | none => rw [hr] at h; cases h
  | some T =>
    rw [hr] at h
    cases hp : parse u with
    | none => rw [hp] at h; cases h
    | some x =>
      rw [hp] at h
      obtain ⟨h0, h300, -⟩ := rcS_known hr
      cases h
      exact ⟨h0, h300⟩
def RetH (o : Option (List (Sta Grid) × Grid)) (w : World) (e : Ending) (w' : World) : Prop :=
  Gr w w' ∧ match o with
    | none => e = .returned (.tuple #[.slice none 0 0, .int .i64 (-1), .bool false])
    | some (S, m) => ∃ v bk sl nx, e = .returned (.tuple #[v, .int .i64 (plV S m), .bool true]) ∧ SSt w.heap.size w' v S bk sl nx ∧ SNx w.heap.size w' S nx
set_option maxHeartbeats 2000000 in
set_option maxRecDepth 100000 in
theorem rePlaceT (base : Nat) (S : List (Sta Grid)) (v : Value) (bk : Nat → Nat) (sl nx : Nat → Value) (x : Grid) (w : World) (hs : SSt base w v S bk sl nx) (hT : ∀ j, j < S.length → (txtG (sta S j).t = txtG x ↔ (sta S j).t = x)) (hl : S.length ≤ 300) :
    Calls Tryd.prog 47 #[v, .string (txtG x)] w (Ret (.int .i64 (plV S x)) w) := by
  have gg := Gr.refl w
  obtain ⟨p, m, q, rfl⟩ := own_slice hs.row
  obtain rfl : m = S.length := own_len hs.row
  have HS := hidI hs
  have HT := hidI hT
  clear hs hT
  go_enter Tryd.func47, Tryd.ntmps47
  go_wp2
  go_loopw [9] (fun iv wr => ∃ k : Nat, k ≤ S.length ∧ iv = .int .i64 k ∧ Gr w wr ∧ Hid (∀ j, j < k → (sta S j).t ≠ x)) (fun iv _ => S.length - (intOf iv).toNat)
  case atStart => exact ⟨0, Nat.zero_le _, rfl, gg, hidI (fun j hj => by omega)⟩
  case round =>
    obtain ⟨k, hk, rfl, gg, HN⟩ := hrel
    by_cases hlt : k < S.length
    · obtain ⟨g, cap, e, -, -⟩ := own_shape HS.out.row (by omega)
      cases e
      have HW := hidI (HS.out.gr gg)
      have hc0 := HW.out.ptr hlt
      have hc3 : wr.cell? ⟨bk k, 3, none⟩ = some (.string (txtG (sta S k).t)) := HW.out.cell hlt 3
      by_cases he : (sta S k).t = x
      · have HE := hidI (show decide (txtG (sta S k).t = txtG x) = true from by rw [decide_eq_true_eq, he])
        have HV := hidI (show (k : Int) = plV S x from by unfold plV; rw [findS_first hlt he HN.out])
        clear he
        go_wp2_with (first | (refine r_idx 38 _ _ (.slice (some ⟨g, 0, none⟩) S.length cap) (.int .i64 k) _ rfl rfl (Tryd.psix g S.length cap k hlt _) rfl ?_) | (refine r_ldc 53 _ ⟨g, k, none⟩ (ptrV (bk k)) rfl (Tryd.isAgg53 _) hc0 rfl ?_) | (refine r_nil _ ⟨bk k, 0, none⟩ rfl rfl ?_) | (refine r_fld 52 _ 1 (.pointer (some ⟨bk k, 0, none⟩)) (.pointer (some ⟨bk k, 3, none⟩)) rfl (Tryd.rf1 _ _) rfl ?_) | (refine r_ldc 9 _ ⟨bk k, 3, none⟩ (.string (txtG (sta S k).t)) rfl (Tryd.isAgg9 _) hc3 rfl ?_) | (refine r_eqS _ _ (txtG (sta S k).t) (txtG x) true rfl rfl HE.out rfl ?_))
        go_ret
        exact ⟨ret_int HV.out, gg⟩
      · have HE := hidI (show decide (txtG (sta S k).t = txtG x) = false from by rw [decide_eq_false_iff_not]; exact fun h => he ((HT.out k hlt).1 h))
        have HN2 := hidI (show ∀ j, j < k + 1 → (sta S j).t ≠ x from fun j hj => if h : j < k then HN.out j h else by rw [show j = k by omega]; exact he)
        clear he
        go_wp2_with (first | (refine r_idx 38 _ _ (.slice (some ⟨g, 0, none⟩) S.length cap) (.int .i64 k) _ rfl rfl (Tryd.psix g S.length cap k hlt _) rfl ?_) | (refine r_ldc 53 _ ⟨g, k, none⟩ (ptrV (bk k)) rfl (Tryd.isAgg53 _) hc0 rfl ?_) | (refine r_nil _ ⟨bk k, 0, none⟩ rfl rfl ?_) | (refine r_fld 52 _ 1 (.pointer (some ⟨bk k, 0, none⟩)) (.pointer (some ⟨bk k, 3, none⟩)) rfl (Tryd.rf1 _ _) rfl ?_) | (refine r_ldc 9 _ ⟨bk k, 3, none⟩ (.string (txtG (sta S k).t)) rfl (Tryd.isAgg9 _) hc3 rfl ?_) | (refine r_eqS _ _ (txtG (sta S k).t) (txtG x) false rfl rfl HE.out rfl ?_))
        go_roundw
        case rel => exact ⟨k + 1, by omega, by go_num, gg, HN2⟩
        case measure => simp [intOf]; omega
    · obtain rfl : k = S.length := by omega
      have HV := hidI (show (-1 : Int) = plV S x from by
        unfold plV
        cases hf : findS S x with
        | none => rfl
        | some j => obtain ⟨a1, a2, -⟩ := findS_some hf; exact absurd a2 (HN.out j a1))
      clear hlt
      go_wp2
      go_ret
      exact ⟨ret_int HV.out, gg⟩
set_option maxHeartbeats 1000000 in
set_option maxRecDepth 100000 in
theorem reTo_any (s u : ByteArray) (w : World) (hs : s.size ≤ 1048576) (hu : u.size ≤ 1048576) : Calls Tryd.prog 32 #[.string s, .string u] w (RetH (fndS s.data.toList u.data.toList) w) := by
  have gg := Gr.refl w
  have HA := reAll_any s w hs
  unfold RetM at HA
  cases hR : rcS s.data.toList with
  | none =>
    have HV := hidI (show fndS s.data.toList u.data.toList = none from by unfold fndS; rw [hR])
    rw [hR] at HA
    clear hR
    go_enter Tryd.func32, Tryd.ntmps32
    go_wp2_with (go_at_call 30; refine HA.mono ?_; rintro e w1 ⟨g1, rfl⟩)
    go_ret3
    exact ⟨g1, by rw [HV.out]; exact rfl⟩
  | some S =>
    rw [hR] at HA
    obtain ⟨h0, h300, hS⟩ := rcS_known hR
    rcases rd_cases u.data.toList with ⟨hp, hg, hk⟩ | ⟨g, hp, hg, hk⟩
    · have HV := hidI (show fndS s.data.toList u.data.toList = none from by unfold fndS; rw [hR, hp])
      have HK := hidI hk
      clear hR hp hg hk hS
      go_enter Tryd.func32, Tryd.ntmps32
      go_wp2_with (first | (go_at_call 30; refine HA.mono ?_; rintro e w1 ⟨g1, v, bk, sl, nx, rfl, M, X⟩; have gg := gg.trans g1) | (go_at_call 50; refine (tyGood_any u _ hu).mono ?_; rintro e w2 ⟨rfl, g2⟩; rw [HK.out]; have z2 := g2.size; have gg := gg.trans g2))
      go_ret3
      exact ⟨gg, by rw [HV.out]; exact rfl⟩
    · have HV := hidI (show fndS s.data.toList u.data.toList = some (S, g) from by unfold fndS; rw [hR, hp])
      have HK := hidI hk
      obtain ⟨hc, c1, c2, -⟩ := cel_of hp
      have HT := hidI (fun j (hj : j < S.length) => show txtG (sta S j).t = txtG g ↔ (sta S j).t = g from by obtain ⟨a1, a2, a3⟩ := hS j hj; exact txt_eq2 a1 hc a2 a3 c2)
      have HX := hidI (show u = txtG g from txt_of hp)
      clear hR hp hg hk hS hc
      go_enter Tryd.func32, Tryd.ntmps32
      go_wp2_with (first | (go_at_call 30; refine HA.mono ?_; rintro e w1 ⟨g1, v, bk, sl, nx, rfl, M, X⟩; have gg := gg.trans g1) | (go_at_call 50; refine (tyGood_any u _ hu).mono ?_; rintro e w2 ⟨rfl, g2⟩; rw [HK.out]; have z2 := g2.size; have gg := gg.trans g2) | (go_at_call 47; refine (show Calls Tryd.prog 47 #[v, .string u] _ _ from HX.out.symm ▸ rePlaceT _ S v bk sl nx g _ (M.gr g2) HT.out h300).mono ?_; rintro e w3 ⟨rfl, g3⟩; have gg := gg.trans g3))
      go_ret3
      refine ⟨gg, ?_⟩
      rw [HV.out]
      exact ⟨v, bk, sl, nx, rfl, (M.gr g2).gr g3, ⟨fun j hj => g3.row (g2.row (X.nxt j hj))⟩⟩
def frB (l u : List UInt8) : Bool := match fndS l u with
  | none => false
  | some (S, m) => match findS S m with
    | none => false
    | some _ => true
def frOk (l u : List UInt8) : Bool := match fndS l u with
  | none => false
  | some _ => true
set_option maxHeartbeats 1000000 in
set_option maxRecDepth 100000 in
theorem iIsReached (s u : ByteArray) (w : World) (hm : ML w) (hs : s.size ≤ 1048576) (hu : u.size ≤ 1048576) : Calls Tryd.prog 14 #[.string s, .string u] w (Ret (.tuple #[.bool (frB s.data.toList u.data.toList), .bool (frOk s.data.toList u.data.toList)]) w) := by
  have gg := Gr.refl w
  have HA := findState_any s u w hm hs hu
  unfold RetF at HA
  cases hR : fndS s.data.toList u.data.toList with
  | none =>
    rw [hR] at HA
    have HN := hidI (show frB s.data.toList u.data.toList = false from by unfold frB; rw [hR])
    have HO := hidI (show frOk s.data.toList u.data.toList = false from by unfold frOk; rw [hR])
    clear hR
    go_enter Tryd.func14, Tryd.ntmps14
    go_wp2_with (go_at_call 33; refine HA.mono ?_; rintro e w1 ⟨g1, rfl⟩)
    go_ret2
    exact ⟨fin_bb HN.out.symm HO.out.symm, g1⟩
  | some p =>
    obtain ⟨S, m⟩ := p
    rw [hR] at HA
    obtain ⟨h0, h300⟩ := fndS_some hR
    cases hf : findS S m with
    | none =>
      have HP := hidI (show plV S m = -1 from by unfold plV; rw [hf])
      have HN := hidI (show frB s.data.toList u.data.toList = false from by unfold frB; rw [hR]; show (match findS S m with | none => _ | some k => _) = _; rw [hf])
      have HO := hidI (show frOk s.data.toList u.data.toList = true from by unfold frOk; rw [hR])
      clear hR hf
      go_enter Tryd.func14, Tryd.ntmps14
      go_wp2_with (go_at_call 33; refine HA.mono ?_; rintro e w1 ⟨g1, v, nx, rfl, IS⟩; rw [HP.out])
      go_ret2
      exact ⟨fin_bb HN.out.symm HO.out.symm, g1⟩
    | some k =>
      have hk := (findS_some hf).1
      have HP := hidI (show plV S m = (k : Int) from by unfold plV; rw [hf])
      have HN := hidI (show frB s.data.toList u.data.toList = true from by unfold frB; rw [hR]; show (match findS S m with | none => _ | some k => _) = _; rw [hf])
      have HO := hidI (show frOk s.data.toList u.data.toList = true from by unfold frOk; rw [hR])
      clear hR hf
      go_enter Tryd.func14, Tryd.ntmps14
      go_wp2_with (go_at_call 33; refine HA.mono ?_; rintro e w1 ⟨g1, v, nx, rfl, IS⟩; rw [HP.out])
      go_ret2
      exact ⟨fin_bb HN.out.symm HO.out.symm, g1⟩
set_option maxHeartbeats 1000000 in
set_option maxRecDepth 100000 in
theorem sIsReached (s u : ByteArray) (w : World) (hs : s.size ≤ 1048576) (hu : u.size ≤ 1048576) : Calls Tryd.prog 13 #[.string s, .string u] w (Ret (.tuple #[.bool (frB s.data.toList u.data.toList), .bool (frOk s.data.toList u.data.toList)]) w) := by
  have gg := Gr.refl w
  have HA := reTo_any s u w hs hu
  unfold RetH at HA
  cases hR : fndS s.data.toList u.data.toList with
  | none =>
    rw [hR] at HA
    have HN := hidI (show frB s.data.toList u.data.toList = false from by unfold frB; rw [hR])
    have HO := hidI (show frOk s.data.toList u.data.toList = false from by unfold frOk; rw [hR])
    clear hR
    go_enter Tryd.func13, Tryd.ntmps13
    go_wp2_with (go_at_call 32; refine HA.mono ?_; rintro e w1 ⟨g1, rfl⟩)
    go_ret2
    exact ⟨fin_bb HN.out.symm HO.out.symm, g1⟩
  | some p =>
    obtain ⟨S, m⟩ := p
    rw [hR] at HA
    obtain ⟨h0, h300⟩ := fndS_some hR
    cases hf : findS S m with
    | none =>
      have HP := hidI (show plV S m = -1 from by unfold plV; rw [hf])
      have HN := hidI (show frB s.data.toList u.data.toList = false from by unfold frB; rw [hR]; show (match findS S m with | none => _ | some k => _) = _; rw [hf])
      have HO := hidI (show frOk s.data.toList u.data.toList = true from by unfold frOk; rw [hR])
      clear hR hf
      go_enter Tryd.func13, Tryd.ntmps13
      go_wp2_with (go_at_call 32; refine HA.mono ?_; rintro e w1 ⟨g1, v, bk, sl, nx, rfl, IS, -⟩; rw [HP.out])
      go_ret2
      exact ⟨fin_bb HN.out.symm HO.out.symm, g1⟩
    | some k =>
      have hk := (findS_some hf).1
      have HP := hidI (show plV S m = (k : Int) from by unfold plV; rw [hf])
      have HN := hidI (show frB s.data.toList u.data.toList = true from by unfold frB; rw [hR]; show (match findS S m with | none => _ | some k => _) = _; rw [hf])
      have HO := hidI (show frOk s.data.toList u.data.toList = true from by unfold frOk; rw [hR])
      clear hR hf
      go_enter Tryd.func13, Tryd.ntmps13
      go_wp2_with (go_at_call 32; refine HA.mono ?_; rintro e w1 ⟨g1, v, bk, sl, nx, rfl, IS, -⟩; rw [HP.out])
      go_ret2
      exact ⟨fin_bb HN.out.symm HO.out.symm, g1⟩
set_option maxHeartbeats 1000000 in
theorem lawIsReached (s t : ByteArray) (w : World) (hm : ML w) : Calls Tryd.prog 4 #[.string s, .string t] w (Ret (.bool true) w) := by
  have gg := Gr.refl w
  by_cases hs : 1048576 < s.size
  · go_enter Tryd.func4, Tryd.ntmps4
    go_wp2
    go_ret
    exact ⟨rfl, gg⟩
  · have hs' : s.size ≤ 1048576 := by omega
    clear hs
    by_cases hc : 1048576 < t.size
    · go_enter Tryd.func4, Tryd.ntmps4
      go_wp2
      go_ret
      exact ⟨rfl, gg⟩
    · have hc' : t.size ≤ 1048576 := by omega
      clear hc
      go_enter Tryd.func4, Tryd.ntmps4
      go_wp2_with (first | (go_at_call 13; refine (sIsReached s t _ hs' hc').mono ?_; rintro e w1 ⟨rfl, g1⟩; have z1 := g1.size; have gg := gg.trans g1) | (go_at_call 14; refine (iIsReached s t _ (gg.ml hm) hs' hc').mono ?_; rintro e w2 ⟨rfl, g2⟩; have z2 := g2.size; have gg := gg.trans g2))
      go_ret
      exact ⟨rfl, gg⟩
def fdN (l u : List UInt8) : Int := match fndS l u with
  | none => 0
  | some (S, m) => match findS S m with
    | none => 0
    | some k => (sta S k).far
def fdOk (l u : List UInt8) : Bool := match fndS l u with
  | none => false
  | some (S, m) => match findS S m with
    | none => false
    | some _ => true
set_option maxHeartbeats 1000000 in
set_option maxRecDepth 100000 in
theorem iDistanceTo (s u : ByteArray) (w : World) (hm : ML w) (hs : s.size ≤ 1048576) (hu : u.size ≤ 1048576) : Calls Tryd.prog 16 #[.string s, .string u] w (Ret (.tuple #[.int .i64 (fdN s.data.toList u.data.toList), .bool (fdOk s.data.toList u.data.toList)]) w) := by
  have gg := Gr.refl w
  have HA := findState_any s u w hm hs hu
  unfold RetF at HA
  cases hR : fndS s.data.toList u.data.toList with
  | none =>
    rw [hR] at HA
    have HN := hidI (show fdN s.data.toList u.data.toList = 0 from by unfold fdN; rw [hR])
    have HO := hidI (show fdOk s.data.toList u.data.toList = false from by unfold fdOk; rw [hR])
    clear hR
    go_enter Tryd.func16, Tryd.ntmps16
    go_wp2_with (go_at_call 33; refine HA.mono ?_; rintro e w1 ⟨g1, rfl⟩)
    go_ret2
    exact ⟨fin_ib HN.out.symm HO.out.symm, g1⟩
  | some p =>
    obtain ⟨S, m⟩ := p
    rw [hR] at HA
    obtain ⟨h0, h300⟩ := fndS_some hR
    cases hf : findS S m with
    | none =>
      have HP := hidI (show plV S m = -1 from by unfold plV; rw [hf])
      have HN := hidI (show fdN s.data.toList u.data.toList = 0 from by unfold fdN; rw [hR]; show (match findS S m with | none => _ | some k => _) = _; rw [hf])
      have HO := hidI (show fdOk s.data.toList u.data.toList = false from by unfold fdOk; rw [hR]; show (match findS S m with | none => _ | some k => _) = _; rw [hf])
      clear hR hf
      go_enter Tryd.func16, Tryd.ntmps16
      go_wp2_with (go_at_call 33; refine HA.mono ?_; rintro e w1 ⟨g1, v, nx, rfl, IS⟩; rw [HP.out])
      go_ret2
      exact ⟨fin_ib HN.out.symm HO.out.symm, g1⟩
    | some k =>
      have hk := (findS_some hf).1
      have HP := hidI (show plV S m = (k : Int) from by unfold plV; rw [hf])
      have HN := hidI (show fdN s.data.toList u.data.toList = ((sta S k).far : Int) from by unfold fdN; rw [hR]; show (match findS S m with | none => _ | some k => _) = _; rw [hf])
      have HO := hidI (show fdOk s.data.toList u.data.toList = true from by unfold fdOk; rw [hR]; show (match findS S m with | none => _ | some k => _) = _; rw [hf])
      clear hR hf
      go_enter Tryd.func16, Tryd.ntmps16
      go_wp2_with (first | (go_at_call 33; refine HA.mono ?_; rintro e w1 ⟨g1, v, nx, rfl, IS⟩; rw [HP.out]; obtain ⟨gB, cap, rfl, hlo, hcap⟩ := own_shape IS.row h0) | (refine r_idx 41 _ _ (.slice (some ⟨gB, 0, none⟩) S.length cap) (.int .i64 k) _ rfl rfl (Tryd.stix gB S.length cap k hk _) rfl ?_) | (refine r_fld 58 _ 1 (.pointer (some ⟨gB, k * 43, none⟩)) (.pointer (some ⟨gB, k * 43 + 38, none⟩)) rfl (Tryd.stf1 gB (k * 43) _) rfl ?_) | (refine r_ldc 3 _ ⟨gB, k * 43 + 38, none⟩ (.int .i64 ((sta S k).far : Int)) rfl (Tryd.isAgg3 _) (ORel.cell IS.row hk 0 (by omega)) rfl ?_))
      go_ret2
      exact ⟨fin_ib HN.out.symm HO.out.symm, g1⟩
set_option maxHeartbeats 1000000 in
set_option maxRecDepth 100000 in
theorem sDistanceTo (s u : ByteArray) (w : World) (hs : s.size ≤ 1048576) (hu : u.size ≤ 1048576) : Calls Tryd.prog 15 #[.string s, .string u] w (Ret (.tuple #[.int .i64 (fdN s.data.toList u.data.toList), .bool (fdOk s.data.toList u.data.toList)]) w) := by
  have gg := Gr.refl w
  have HA := reTo_any s u w hs hu
  unfold RetH at HA
  cases hR : fndS s.data.toList u.data.toList with
  | none =>
    rw [hR] at HA
    have HN := hidI (show fdN s.data.toList u.data.toList = 0 from by unfold fdN; rw [hR])
    have HO := hidI (show fdOk s.data.toList u.data.toList = false from by unfold fdOk; rw [hR])
    clear hR
    go_enter Tryd.func15, Tryd.ntmps15
    go_wp2_with (go_at_call 32; refine HA.mono ?_; rintro e w1 ⟨g1, rfl⟩)
    go_ret2
    exact ⟨fin_ib HN.out.symm HO.out.symm, g1⟩
  | some p =>
    obtain ⟨S, m⟩ := p
    rw [hR] at HA
    obtain ⟨h0, h300⟩ := fndS_some hR
    cases hf : findS S m with
    | none =>
      have HP := hidI (show plV S m = -1 from by unfold plV; rw [hf])
      have HN := hidI (show fdN s.data.toList u.data.toList = 0 from by unfold fdN; rw [hR]; show (match findS S m with | none => _ | some k => _) = _; rw [hf])
      have HO := hidI (show fdOk s.data.toList u.data.toList = false from by unfold fdOk; rw [hR]; show (match findS S m with | none => _ | some k => _) = _; rw [hf])
      clear hR hf
      go_enter Tryd.func15, Tryd.ntmps15
      go_wp2_with (go_at_call 32; refine HA.mono ?_; rintro e w1 ⟨g1, v, bk, sl, nx, rfl, IS, -⟩; rw [HP.out])
      go_ret2
      exact ⟨fin_ib HN.out.symm HO.out.symm, g1⟩
    | some k =>
      have hk := (findS_some hf).1
      have HP := hidI (show plV S m = (k : Int) from by unfold plV; rw [hf])
      have HN := hidI (show fdN s.data.toList u.data.toList = ((sta S k).far : Int) from by unfold fdN; rw [hR]; show (match findS S m with | none => _ | some k => _) = _; rw [hf])
      have HO := hidI (show fdOk s.data.toList u.data.toList = true from by unfold fdOk; rw [hR]; show (match findS S m with | none => _ | some k => _) = _; rw [hf])
      clear hR hf
      go_enter Tryd.func15, Tryd.ntmps15
      go_wp2_with (first | (go_at_call 32; refine HA.mono ?_; rintro e w1 ⟨g1, v, bk, sl, nx, rfl, IS, -⟩; rw [HP.out]; obtain ⟨gB, cap, rfl, hlo, hcap⟩ := own_shape IS.row h0) | (refine r_idx 38 _ _ (.slice (some ⟨gB, 0, none⟩) S.length cap) (.int .i64 k) _ rfl rfl (Tryd.psix gB S.length cap k hk _) rfl ?_) | (refine r_ldc 53 _ ⟨gB, k, none⟩ (ptrV (bk k)) rfl (Tryd.isAgg53 _) (IS.ptr hk) rfl ?_) | (refine r_nil _ ⟨bk k, 0, none⟩ rfl rfl ?_) | (refine r_fld 52 _ 2 (.pointer (some ⟨bk k, 0, none⟩)) (.pointer (some ⟨bk k, 4, none⟩)) rfl (Tryd.rf2 _ _) rfl ?_) | (refine r_ldc 3 _ ⟨bk k, 4, none⟩ (.int .i64 ((sta S k).far : Int)) rfl (Tryd.isAgg3 _) (IS.cell hk 4) rfl ?_))
      go_ret2
      exact ⟨fin_ib HN.out.symm HO.out.symm, g1⟩
set_option maxHeartbeats 1000000 in
theorem lawDistanceTo (s t : ByteArray) (w : World) (hm : ML w) : Calls Tryd.prog 5 #[.string s, .string t] w (Ret (.bool true) w) := by
  have gg := Gr.refl w
  by_cases hs : 1048576 < s.size
  · go_enter Tryd.func5, Tryd.ntmps5
    go_wp2
    go_ret
    exact ⟨rfl, gg⟩
  · have hs' : s.size ≤ 1048576 := by omega
    clear hs
    by_cases hc : 1048576 < t.size
    · go_enter Tryd.func5, Tryd.ntmps5
      go_wp2
      go_ret
      exact ⟨rfl, gg⟩
    · have hc' : t.size ≤ 1048576 := by omega
      clear hc
      go_enter Tryd.func5, Tryd.ntmps5
      go_wp2_with (first | (go_at_call 15; refine (sDistanceTo s t _ hs' hc').mono ?_; rintro e w1 ⟨rfl, g1⟩; have z1 := g1.size; have gg := gg.trans g1) | (go_at_call 16; refine (iDistanceTo s t _ (gg.ml hm) hs' hc').mono ?_; rintro e w2 ⟨rfl, g2⟩; have z2 := g2.size; have gg := gg.trans g2))
      go_ret
      exact ⟨rfl, gg⟩
def fcN (l u : List UInt8) : Int := match fndS l u with
  | none => 0
  | some (S, m) => match findS S m with
    | none => 0
    | some k => (sta S k).words
set_option maxHeartbeats 1000000 in
set_option maxRecDepth 100000 in
theorem iCountShortest (s u : ByteArray) (w : World) (hm : ML w) (hs : s.size ≤ 1048576) (hu : u.size ≤ 1048576) : Calls Tryd.prog 20 #[.string s, .string u] w (Ret (.tuple #[.int .i64 (fcN s.data.toList u.data.toList), .bool (fdOk s.data.toList u.data.toList)]) w) := by
  have gg := Gr.refl w
  have HA := findState_any s u w hm hs hu
  unfold RetF at HA
  cases hR : fndS s.data.toList u.data.toList with
  | none =>
    rw [hR] at HA
    have HN := hidI (show fcN s.data.toList u.data.toList = 0 from by unfold fcN; rw [hR])
    have HO := hidI (show fdOk s.data.toList u.data.toList = false from by unfold fdOk; rw [hR])
    clear hR
    go_enter Tryd.func20, Tryd.ntmps20
    go_wp2_with (go_at_call 33; refine HA.mono ?_; rintro e w1 ⟨g1, rfl⟩)
    go_ret2
    exact ⟨fin_ib HN.out.symm HO.out.symm, g1⟩
  | some p =>
    obtain ⟨S, m⟩ := p
    rw [hR] at HA
    obtain ⟨h0, h300⟩ := fndS_some hR
    cases hf : findS S m with
    | none =>
      have HP := hidI (show plV S m = -1 from by unfold plV; rw [hf])
      have HN := hidI (show fcN s.data.toList u.data.toList = 0 from by unfold fcN; rw [hR]; show (match findS S m with | none => _ | some k => _) = _; rw [hf])
      have HO := hidI (show fdOk s.data.toList u.data.toList = false from by unfold fdOk; rw [hR]; show (match findS S m with | none => _ | some k => _) = _; rw [hf])
      clear hR hf
      go_enter Tryd.func20, Tryd.ntmps20
      go_wp2_with (go_at_call 33; refine HA.mono ?_; rintro e w1 ⟨g1, v, nx, rfl, IS⟩; rw [HP.out])
      go_ret2
      exact ⟨fin_ib HN.out.symm HO.out.symm, g1⟩
    | some k =>
      have hk := (findS_some hf).1
      have HP := hidI (show plV S m = (k : Int) from by unfold plV; rw [hf])
      have HN := hidI (show fcN s.data.toList u.data.toList = (sta S k).words from by unfold fcN; rw [hR]; show (match findS S m with | none => _ | some k => _) = _; rw [hf])
      have HO := hidI (show fdOk s.data.toList u.data.toList = true from by unfold fdOk; rw [hR]; show (match findS S m with | none => _ | some k => _) = _; rw [hf])
      clear hR hf
      go_enter Tryd.func20, Tryd.ntmps20
      go_wp2_with (first | (go_at_call 33; refine HA.mono ?_; rintro e w1 ⟨g1, v, nx, rfl, IS⟩; rw [HP.out]; obtain ⟨gB, cap, rfl, hlo, hcap⟩ := own_shape IS.row h0) | (refine r_idx 41 _ _ (.slice (some ⟨gB, 0, none⟩) S.length cap) (.int .i64 k) _ rfl rfl (Tryd.stix gB S.length cap k hk _) rfl ?_) | (refine r_fld 58 _ 2 (.pointer (some ⟨gB, k * 43, none⟩)) (.pointer (some ⟨gB, k * 43 + 39, none⟩)) rfl (Tryd.stf2 gB (k * 43) _) rfl ?_) | (refine r_ldc 3 _ ⟨gB, k * 43 + 39, none⟩ (.int .i64 (sta S k).words) rfl (Tryd.isAgg3 _) (ORel.cell IS.row hk 1 (by omega)) rfl ?_))
      go_ret2
      exact ⟨fin_ib HN.out.symm HO.out.symm, g1⟩
set_option maxHeartbeats 1000000 in
set_option maxRecDepth 100000 in
theorem sCountShortest (s u : ByteArray) (w : World) (hs : s.size ≤ 1048576) (hu : u.size ≤ 1048576) : Calls Tryd.prog 19 #[.string s, .string u] w (Ret (.tuple #[.int .i64 (fcN s.data.toList u.data.toList), .bool (fdOk s.data.toList u.data.toList)]) w) := by
  have gg := Gr.refl w
  have HA := reTo_any s u w hs hu
  unfold RetH at HA
  cases hR : fndS s.data.toList u.data.toList with
  | none =>
    rw [hR] at HA
    have HN := hidI (show fcN s.data.toList u.data.toList = 0 from by unfold fcN; rw [hR])
    have HO := hidI (show fdOk s.data.toList u.data.toList = false from by unfold fdOk; rw [hR])
    clear hR
    go_enter Tryd.func19, Tryd.ntmps19
    go_wp2_with (go_at_call 32; refine HA.mono ?_; rintro e w1 ⟨g1, rfl⟩)
    go_ret2
    exact ⟨fin_ib HN.out.symm HO.out.symm, g1⟩
  | some p =>
    obtain ⟨S, m⟩ := p
    rw [hR] at HA
    obtain ⟨h0, h300⟩ := fndS_some hR
    cases hf : findS S m with
    | none =>
      have HP := hidI (show plV S m = -1 from by unfold plV; rw [hf])
      have HN := hidI (show fcN s.data.toList u.data.toList = 0 from by unfold fcN; rw [hR]; show (match findS S m with | none => _ | some k => _) = _; rw [hf])
      have HO := hidI (show fdOk s.data.toList u.data.toList = false from by unfold fdOk; rw [hR]; show (match findS S m with | none => _ | some k => _) = _; rw [hf])
      clear hR hf
      go_enter Tryd.func19, Tryd.ntmps19
      go_wp2_with (go_at_call 32; refine HA.mono ?_; rintro e w1 ⟨g1, v, bk, sl, nx, rfl, IS, -⟩; rw [HP.out])
      go_ret2
      exact ⟨fin_ib HN.out.symm HO.out.symm, g1⟩
    | some k =>
      have hk := (findS_some hf).1
      have HP := hidI (show plV S m = (k : Int) from by unfold plV; rw [hf])
      have HN := hidI (show fcN s.data.toList u.data.toList = (sta S k).words from by unfold fcN; rw [hR]; show (match findS S m with | none => _ | some k => _) = _; rw [hf])
      have HO := hidI (show fdOk s.data.toList u.data.toList = true from by unfold fdOk; rw [hR]; show (match findS S m with | none => _ | some k => _) = _; rw [hf])
      clear hR hf
      go_enter Tryd.func19, Tryd.ntmps19
      go_wp2_with (first | (go_at_call 32; refine HA.mono ?_; rintro e w1 ⟨g1, v, bk, sl, nx, rfl, IS, -⟩; rw [HP.out]; obtain ⟨gB, cap, rfl, hlo, hcap⟩ := own_shape IS.row h0) | (refine r_idx 38 _ _ (.slice (some ⟨gB, 0, none⟩) S.length cap) (.int .i64 k) _ rfl rfl (Tryd.psix gB S.length cap k hk _) rfl ?_) | (refine r_ldc 53 _ ⟨gB, k, none⟩ (ptrV (bk k)) rfl (Tryd.isAgg53 _) (IS.ptr hk) rfl ?_) | (refine r_nil _ ⟨bk k, 0, none⟩ rfl rfl ?_) | (refine r_fld 52 _ 3 (.pointer (some ⟨bk k, 0, none⟩)) (.pointer (some ⟨bk k, 5, none⟩)) rfl (Tryd.rf3 _ _) rfl ?_) | (refine r_ldc 3 _ ⟨bk k, 5, none⟩ (.int .i64 (sta S k).words) rfl (Tryd.isAgg3 _) (IS.cell hk 5) rfl ?_))
      go_ret2
      exact ⟨fin_ib HN.out.symm HO.out.symm, g1⟩
set_option maxHeartbeats 1000000 in
theorem lawCountShortest (s t : ByteArray) (w : World) (hm : ML w) : Calls Tryd.prog 7 #[.string s, .string t] w (Ret (.bool true) w) := by
  have gg := Gr.refl w
  by_cases hs : 1048576 < s.size
  · go_enter Tryd.func7, Tryd.ntmps7
    go_wp2
    go_ret
    exact ⟨rfl, gg⟩
  · have hs' : s.size ≤ 1048576 := by omega
    clear hs
    by_cases hc : 1048576 < t.size
    · go_enter Tryd.func7, Tryd.ntmps7
      go_wp2
      go_ret
      exact ⟨rfl, gg⟩
    · have hc' : t.size ≤ 1048576 := by omega
      clear hc
      go_enter Tryd.func7, Tryd.ntmps7
      go_wp2_with (first | (go_at_call 19; refine (sCountShortest s t _ hs' hc').mono ?_; rintro e w1 ⟨rfl, g1⟩; have z1 := g1.size; have gg := gg.trans g1) | (go_at_call 20; refine (iCountShortest s t _ (gg.ml hm) hs' hc').mono ?_; rintro e w2 ⟨rfl, g2⟩; have z2 := g2.size; have gg := gg.trans g2))
      go_ret
      exact ⟨rfl, gg⟩
end Go.Proofs.YtcldlnleiiloaaaDoor
