/-
  The shortest word from one tray to another: in the program and in the model, and the law.
-/
import Derived.Test.YtdebiobhmpoiiaaDoorBWo
namespace Go.Proofs.YtdebiobhmpoiiaaDoor
open Go.RowKit
theorem fin_sbW {a b : ByteArray} {c d : Bool} (h1 : a = b) (h2 : c = d) : Ending.returned (.tuple #[.string a, .bool c]) = .returned (.tuple #[.string b, .bool d]) := by rw [h1, h2]
def shwB (l u : List UInt8) : ByteArray := match fndS l u with
  | none => ByteArray.empty
  | some (S, m) => wdTo S (findS S m)
def shwK (l u : List UInt8) : Bool := match fndS l u with
  | none => false
  | some (S, m) => wdOk S (findS S m)
theorem fndS_ways {l u : List UInt8} {S : List (Sta Grid)} {m : Grid} (h : fndS l u = some (S, m)) : Ways S := by
  unfold fndS at h
  cases hr : rcS l with
  | none => rw [hr] at h; cases h
  | some T =>
    rw [hr] at h
    cases hp : parse u with
    | none => rw [hp] at h; cases h
    | some x =>
      rw [hp] at h
      cases h
      exact rcS_ways hr
set_option maxHeartbeats 1000000 in
set_option maxRecDepth 100000 in
theorem iShortestWord (s u : ByteArray) (w : World) (hm : ML w) (hs : s.size ≤ 1048576) (hu : u.size ≤ 1048576) : Calls Tryd.prog 14 #[.string s, .string u] w (Ret (.tuple #[.string (shwB s.data.toList u.data.toList), .bool (shwK s.data.toList u.data.toList)]) w) := by
  have gg := Gr.refl w
  have HA := findState_any s u w hm hs hu
  unfold RetF at HA
  cases hR : fndS s.data.toList u.data.toList with
  | none =>
    rw [hR] at HA
    have HN := hidI (show shwB s.data.toList u.data.toList = ByteArray.empty from by unfold shwB; rw [hR])
    have HO := hidI (show shwK s.data.toList u.data.toList = false from by unfold shwK; rw [hR])
    clear hR
    go_enter Tryd.func14, Tryd.ntmps14
    go_wp2_with (first | (go_at_call 33; refine HA.mono ?_; rintro e w1 ⟨g1, rfl⟩; have gg := gg.trans g1) | (go_at_call 34; refine (wordTo_neg _ _ none 0 0 rfl).mono ?_; rintro e w2 ⟨rfl, g2⟩; have z2 := g2.size; have gg := gg.trans g2))
    go_ret2
    exact ⟨fin_sbW HN.out.symm HO.out.symm, gg⟩
  | some p =>
    obtain ⟨S, m⟩ := p
    rw [hR] at HA
    obtain ⟨h0, h300⟩ := fndS_some hR
    have hW := fndS_ways hR
    cases hf : findS S m with
    | none =>
      have HP := hidI (show plV S m = -1 from by unfold plV; rw [hf])
      have HN := hidI (show shwB s.data.toList u.data.toList = ByteArray.empty from by unfold shwB; rw [hR]; show wdTo S (findS S m) = _; rw [hf]; rfl)
      have HO := hidI (show shwK s.data.toList u.data.toList = false from by unfold shwK; rw [hR]; show wdOk S (findS S m) = _; rw [hf]; rfl)
      clear hR hf
      go_enter Tryd.func14, Tryd.ntmps14
      go_wp2_with (first | (go_at_call 33; refine HA.mono ?_; rintro e w1 ⟨g1, v, nx, rfl, IS⟩; rw [HP.out]; have gg := gg.trans g1; obtain ⟨gB, cap, rfl, hlo, hcap⟩ := own_shape IS.row h0) | (go_at_call 34; refine (wordTo_neg _ _ _ _ _ rfl).mono ?_; rintro e w2 ⟨rfl, g2⟩; have z2 := g2.size; have gg := gg.trans g2))
      go_ret2
      exact ⟨fin_sbW HN.out.symm HO.out.symm, gg⟩
    | some k =>
      have hk := (findS_some hf).1
      have HP := hidI (show plV S m = (k : Int) from by unfold plV; rw [hf])
      have HN := hidI (show shwB s.data.toList u.data.toList = wdTo S (some k) from by unfold shwB; rw [hR]; show wdTo S (findS S m) = _; rw [hf])
      have HO := hidI (show shwK s.data.toList u.data.toList = wdOk S (some k) from by unfold shwK; rw [hR]; show wdOk S (findS S m) = _; rw [hf])
      have HCH := hidI (fun j (hj : j ≤ (sta S k).far) => (chn_far hW hk j hj).1)
      clear hR hf hW
      go_enter Tryd.func14, Tryd.ntmps14
      go_wp2_with (first | (go_at_call 33; refine HA.mono ?_; rintro e w1 ⟨g1, v, nx, rfl, IS⟩; rw [HP.out]; have gg := gg.trans g1; obtain ⟨gB, cap, rfl, hlo, hcap⟩ := own_shape IS.row h0) | (go_at_call 34; refine (wordTo_any S nx w.heap.size gB cap k _ IS.row hk HCH.out).mono ?_; rintro e w2 ⟨rfl, g2⟩; have z2 := g2.size; have gg := gg.trans g2))
      go_ret2
      exact ⟨fin_sbW HN.out.symm HO.out.symm, gg⟩
set_option maxHeartbeats 1000000 in
set_option maxRecDepth 100000 in
theorem sShortestWord (s u : ByteArray) (w : World) (hs : s.size ≤ 1048576) (hu : u.size ≤ 1048576) : Calls Tryd.prog 13 #[.string s, .string u] w (Ret (.tuple #[.string (shwB s.data.toList u.data.toList), .bool (shwK s.data.toList u.data.toList)]) w) := by
  have gg := Gr.refl w
  have HA := reTo_any s u w hs hu
  unfold RetH at HA
  cases hR : fndS s.data.toList u.data.toList with
  | none =>
    rw [hR] at HA
    have HN := hidI (show shwB s.data.toList u.data.toList = ByteArray.empty from by unfold shwB; rw [hR])
    have HO := hidI (show shwK s.data.toList u.data.toList = false from by unfold shwK; rw [hR])
    clear hR
    go_enter Tryd.func13, Tryd.ntmps13
    go_wp2_with (go_at_call 31; refine HA.mono ?_; rintro e w1 ⟨g1, rfl⟩)
    go_ret2
    exact ⟨fin_sbW HN.out.symm HO.out.symm, g1⟩
  | some p =>
    obtain ⟨S, m⟩ := p
    rw [hR] at HA
    obtain ⟨h0, h300⟩ := fndS_some hR
    have hW := fndS_ways hR
    cases hf : findS S m with
    | none =>
      have HP := hidI (show plV S m = -1 from by unfold plV; rw [hf])
      have HN := hidI (show shwB s.data.toList u.data.toList = ByteArray.empty from by unfold shwB; rw [hR]; show wdTo S (findS S m) = _; rw [hf]; rfl)
      have HO := hidI (show shwK s.data.toList u.data.toList = false from by unfold shwK; rw [hR]; show wdOk S (findS S m) = _; rw [hf]; rfl)
      clear hR hf
      go_enter Tryd.func13, Tryd.ntmps13
      go_wp2_with (go_at_call 31; refine HA.mono ?_; rintro e w1 ⟨g1, v, bk, sl, nx, rfl, IS, -⟩; rw [HP.out])
      go_ret2
      exact ⟨fin_sbW HN.out.symm HO.out.symm, g1⟩
    | some k =>
      have hk := (findS_some hf).1
      have HP := hidI (show plV S m = (k : Int) from by unfold plV; rw [hf])
      have HNW := hidI (show shwB s.data.toList u.data.toList = wdTo S (some k) from by unfold shwB; rw [hR]; show wdTo S (findS S m) = _; rw [hf])
      have HOW := hidI (show shwK s.data.toList u.data.toList = wdOk S (some k) from by unfold shwK; rw [hR]; show wdOk S (findS S m) = _; rw [hf])
      by_cases h40 : (sta S k).far ≤ 40
      · have HN := hidI (show shwB s.data.toList u.data.toList = wrdB S k from by rw [HNW.out]; exact if_pos h40)
        have HO := hidI (show shwK s.data.toList u.data.toList = true from by rw [HOW.out]; exact decide_eq_true h40)
        have HRW := hidI (fun (w' : World) base v bk sl nx (h : SSt base w' v S bk sl nx) => reWord_any base S v bk sl nx k w' h h0 hk hW h40)
        obtain ⟨far, hfar⟩ : ∃ far, far = (sta S k).far := ⟨_, rfl⟩
        have HF := hidI hfar
        have hf40 : far ≤ 40 := by rw [hfar]; exact h40
        clear hR hf hW h40 hfar HNW HOW
        go_enter Tryd.func13, Tryd.ntmps13
        go_wp2_with (first | (go_at_call 31; refine HA.mono ?_; rintro e w1 ⟨g1, v, bk, sl, nx, rfl, IS, -⟩; rw [HP.out]; have gg := gg.trans g1; obtain ⟨gB, cap, rfl, hlo, hcap⟩ := own_shape IS.row h0; obtain ⟨b0, hb0⟩ : ∃ b0, b0 = bk k := ⟨_, rfl⟩; have cp : w1.cell? ⟨gB, k, none⟩ = some (.pointer (some ⟨b0, 0, none⟩)) := (by rw [hb0]; exact IS.ptr hk); have cf : w1.cell? ⟨b0, 4, none⟩ = some (.int .i64 (far : Int)) := (by rw [hb0, HF.out]; exact IS.cell hk 4); clear hb0) | (go_at_call 32; refine (HRW.out _ _ _ _ _ _ IS).mono ?_; rintro e w2 ⟨rfl, g2⟩; have z2 := g2.size; have gg := gg.trans g2))
        go_ret2
        exact ⟨fin_sbW HN.out.symm HO.out.symm, gg⟩
      · have HN := hidI (show shwB s.data.toList u.data.toList = ByteArray.empty from by rw [HNW.out]; exact if_neg h40)
        have HO := hidI (show shwK s.data.toList u.data.toList = false from by rw [HOW.out]; exact decide_eq_false h40)
        obtain ⟨far, hfar⟩ : ∃ far, far = (sta S k).far := ⟨_, rfl⟩
        have HF := hidI hfar
        have hf40 : 40 < far := by rw [hfar]; omega
        clear hR hf hW h40 hfar HNW HOW
        go_enter Tryd.func13, Tryd.ntmps13
        go_wp2_with (first | (go_at_call 31; refine HA.mono ?_; rintro e w1 ⟨g1, v, bk, sl, nx, rfl, IS, -⟩; rw [HP.out]; have gg := gg.trans g1; obtain ⟨gB, cap, rfl, hlo, hcap⟩ := own_shape IS.row h0; obtain ⟨b0, hb0⟩ : ∃ b0, b0 = bk k := ⟨_, rfl⟩; have cp : w1.cell? ⟨gB, k, none⟩ = some (.pointer (some ⟨b0, 0, none⟩)) := (by rw [hb0]; exact IS.ptr hk); have cf : w1.cell? ⟨b0, 4, none⟩ = some (.int .i64 (far : Int)) := (by rw [hb0, HF.out]; exact IS.cell hk 4); clear hb0))
        go_ret2
        exact ⟨fin_sbW HN.out.symm HO.out.symm, gg⟩
set_option maxHeartbeats 1000000 in
theorem lawShortestWord (s t : ByteArray) (w : World) (hm : ML w) : Calls Tryd.prog 4 #[.string s, .string t] w (Ret (.bool true) w) := by
  have gg := Gr.refl w
  by_cases hs : 1048576 < s.size
  · go_enter Tryd.func4, Tryd.ntmps4
    go_wp2
    go_ret
    exact ⟨rfl, gg⟩
  · have hs' : s.size ≤ 1048576 := by omega
    clear hs
    by_cases hc : 1048576 < t.size
    · go_enter Tryd.func4, Tryd.ntmps4
      go_wp2
      go_ret
      exact ⟨rfl, gg⟩
    · have hc' : t.size ≤ 1048576 := by omega
      clear hc
      obtain ⟨N, hN⟩ : ∃ N, N = shwB s.data.toList t.data.toList := ⟨_, rfl⟩
      obtain ⟨ok, hok⟩ : ∃ ok, ok = shwK s.data.toList t.data.toList := ⟨_, rfl⟩
      have HN := hidI hN
      have HOK := hidI hok
      clear hN hok
      go_enter Tryd.func4, Tryd.ntmps4
      go_wp2_with (first | (go_at_call 13; refine (sShortestWord s t _ hs' hc').mono ?_; rintro e w1 ⟨rfl, g1⟩; rw [← HN.out, ← HOK.out]; have z1 := g1.size; have gg := gg.trans g1) | (go_at_call 14; refine (iShortestWord s t _ (gg.ml hm) hs' hc').mono ?_; rintro e w2 ⟨rfl, g2⟩; rw [← HN.out, ← HOK.out]; have z2 := g2.size; have gg := gg.trans g2))
      go_ret
      exact ⟨rfl, gg⟩
end Go.Proofs.YtdebiobhmpoiiaaDoor
