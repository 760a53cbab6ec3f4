/-
  Words turned, in the model, and the laws on them.
-/
import Derived.Test.YthjkeohnjggmiaaDoorWords2
import Derived.Test.YthjkeohnjggmiaaDoorSpec1d
namespace Go.Proofs.YthjkeohnjggmiaaDoor
open Go.RowKit
theorem mkS_append (l : List UInt8) (b : UInt8) : mkS l ++ ⟨#[b]⟩ = mkS (l ++ [b]) := by
  unfold mkS
  rw [show (⟨#[b]⟩ : ByteArray) = ⟨[b].toArray⟩ from rfl, mkB_append]
theorem mkS_size (l : List UInt8) : (mkS l).size = l.length := by show l.toArray.size = _; simp
def rotL (c : List UInt8) (k j : Nat) : List UInt8 := (c.take j).map fun b => rotB b k
theorem rotL_succ (c : List UInt8) (k j : Nat) (h : j < c.length) : rotL c k (j + 1) = rotL c k j ++ [rotB (at0 c j) k] := by
  unfold rotL
  rw [List.take_add_one, List.map_append, List.getElem?_eq_getElem h]
  unfold at0
  simp [List.getD, h]
theorem rotL_length (c : List UInt8) (k j : Nat) : (rotL c k j).length ≤ c.length := by unfold rotL; simp; omega
theorem urdl_at (m : Nat) (h : m < 4) : (⟨#[117, 114, 100, 108]⟩ : ByteArray).extract m (m + 1) = ⟨#[dirsL.getD m 0]⟩ := by
  have hc : m = 0 ∨ m = 1 ∨ m = 2 ∨ m = 3 := by omega
  rcases hc with rfl | rfl | rfl | rfl <;> rfl
set_option maxHeartbeats 2000000 in
set_option maxRecDepth 100000 in
theorem tiTurn_any (s : ByteArray) (k : Nat) (w : World) (h1 : wordB s = true) (hk : k ≤ 3) : Calls Tryd.prog 72 #[.string s, .int .i64 k] w (Ret (.string (mkS (s.data.toList.map fun b => rotB b k))) w) := by
  have gg := Gr.refl w
  have h40 := (wordB_iff.1 h1).1
  have HAT := hidI (word_at h1)
  have hsl : s.data.toList.length = s.size := Array.length_toList
  clear h1
  go_enter Tryd.func72, Tryd.ntmps72
  go_wp2
  go_loopw [5, 6, 7] (fun o i _ wr => ∃ j : Nat, j ≤ s.size ∧ i = .int .i64 j ∧ o = .string (mkS (rotL s.data.toList k j)) ∧ Gr w wr) (fun _ i _ _ => s.size - (intOf i).toNat)
  case atStart => exact ⟨0, Nat.zero_le _, rfl, rfl, gg⟩
  case round =>
    obtain ⟨j, hj, rfl, rfl, gg⟩ := hrel
    by_cases hlt : j < s.size
    · have hssub := Tryd.ssub s j hlt
      obtain ⟨b, hb⟩ : ∃ b, b = at0 s.data.toList j := ⟨_, rfl⟩
      have hbs : s[j]'hlt = b := by
        rw [hb, ByteArray.getElem_eq_getElem_data]
        show _ = s.data.toList.getD j 0
        rw [List.getD_eq_getElem?_getD, List.getElem?_eq_getElem (by omega)]
        simp
      rw [hbs] at hssub
      have hd := HAT.out j (by omega)
      rw [← hb] at hd
      obtain ⟨d, hdi, hd4⟩ := rot_index hd
      obtain ⟨m, hm⟩ : ∃ m, m = (d + k) % 4 := ⟨_, rfl⟩
      have hm4 : m < 4 := by omega
      have e1 : ((d : Int) + (k : Int)) % 4 = (m : Int) := by omega
      have hex := urdl_at m hm4
      have hr : dirsL.getD m 0 = rotB b k := by unfold rotB; rw [hdi, hm]; rfl
      rw [hr] at hex
      have hsz : (mkS (rotL s.data.toList k j)).size ≤ 40 := by
        rw [mkS_size]; have := rotL_length s.data.toList k j; omega
      have hadd := fun w => run_string_add_sum (P := Tryd.prog) w (mkS (rotL s.data.toList k j)) ⟨#[rotB b k]⟩ (by show (mkS (rotL s.data.toList k j)).size + 1 ≤ _; omega)
      have HS := hidI (show mkS (rotL s.data.toList k j) ++ ⟨#[rotB b k]⟩ = mkS (rotL s.data.toList k (j + 1)) from by
        rw [mkS_append, rotL_succ _ _ _ (by omega), ← hb])
      have hds : dS ⟨#[b]⟩ = (d : Int) := hdi
      have HDS := hidI hds
      have HB := hidI hb
      clear hb hbs hd hdi hr hds hm
      go_wp2_with (first | (go_at_call 94; refine (tiDir_any ⟨#[b]⟩ _).mono ?_; rintro e w1 ⟨rfl, g1⟩; rw [HDS.out]; have gg := gg.trans g1) | (go_at_call 102; refine (tiDirs_any _).mono ?_; rintro e wSame ⟨rfl, rfl⟩))
      go_roundw
      case rel => exact ⟨j + 1, by omega, by go_num, by rw [HS.out], gg⟩
      case measure => simp [intOf]; omega
    · obtain rfl : j = s.size := by omega
      have HV := hidI (show rotL s.data.toList k s.size = s.data.toList.map fun b => rotB b k from by unfold rotL; rw [List.take_of_length_le (by omega)])
      clear hlt
      go_wp2
      go_ret
      exact ⟨by rw [← HV.out]; rfl, gg⟩
set_option maxHeartbeats 2000000 in
theorem sTurnWord (s : ByteArray) (k : Int) (w : World) : Calls Tryd.prog 38 #[.string s, .int .i64 k] w (Ret (.tuple #[.string (twS s k), .bool (twOk s k)]) w) := by
  have gg := Gr.refl w
  have bad : twOk s k = false → twS s k = ⟨#[]⟩ := fun h => by unfold twS; rw [h]; rfl
  have BAD := hidI bad
  have HBT := hidI (show btw k 0 3 = btw' k from rfl)
  clear bad
  by_cases h1 : wordB s = true
  · have H1 := hidI h1
    by_cases hk : btw' k = true
    · have HK := hidI hk
      have hk2 := hk
      unfold btw' at hk2
      rw [Bool.and_eq_true, decide_eq_true_eq, decide_eq_true_eq] at hk2
      obtain ⟨k0, k3⟩ := hk2
      obtain ⟨k, rfl⟩ : ∃ n : Nat, k = n := ⟨k.toNat, by omega⟩
      have hk3 : k ≤ 3 := by omega
      have HOK := hidI (show twOk s k = true from by unfold twOk; rw [h1, hk]; rfl)
      have HV := hidI (show twS s k = mkS (s.data.toList.map fun b => rotB b k) from by unfold twS; rw [HOK.out]; rfl)
      clear h1 hk k0 k3
      go_enter Tryd.func38, Tryd.ntmps38
      go_wp2_with (first | (go_at_call 68; refine (tiWord_any s _).mono ?_; rintro e w1 ⟨rfl, g1⟩; rw [H1.out]; have z1 := g1.size; have gg := gg.trans g1) | (go_at_call 65; refine (l1In_any _ _ _ _).mono ?_; rintro e wSame ⟨rfl, rfl⟩; rw [HBT.out, HK.out]) | (go_at_call 72; refine (tiTurn_any s k _ H1.out hk3).mono ?_; rintro e w2 ⟨rfl, g2⟩; have z2 := g2.size; have gg := gg.trans g2))
      go_ret2
      exact ⟨fin_sb HV.out.symm HOK.out.symm, gg⟩
    · have HK := hidI (show btw' k = false from by simpa using hk)
      have HOK := hidI (show twOk s k = false from by unfold twOk; rw [HK.out, Bool.and_false])
      have HV := hidI (BAD.out HOK.out)
      clear h1 hk
      go_enter Tryd.func38, Tryd.ntmps38
      go_wp2_with (first | (go_at_call 68; refine (tiWord_any s _).mono ?_; rintro e w1 ⟨rfl, g1⟩; rw [H1.out]; have z1 := g1.size; have gg := gg.trans g1) | (go_at_call 65; refine (l1In_any _ _ _ _).mono ?_; rintro e wSame ⟨rfl, rfl⟩; rw [HBT.out, HK.out]))
      go_ret2
      exact ⟨fin_sb HV.out.symm HOK.out.symm, gg⟩
  · have H1 := hidI (show wordB s = false from by simpa using h1)
    have HOK := hidI (show twOk s k = false from by unfold twOk; rw [H1.out]; rfl)
    have HV := hidI (BAD.out HOK.out)
    clear h1
    go_enter Tryd.func38, Tryd.ntmps38
    go_wp2_with (go_at_call 68; refine (tiWord_any s _).mono ?_; rintro e w1 ⟨rfl, g1⟩; rw [H1.out]; have z1 := g1.size; have gg := gg.trans g1)
    go_ret2
    exact ⟨fin_sb HV.out.symm HOK.out.symm, gg⟩
set_option maxHeartbeats 2000000 in
theorem sOppositeWord (s : ByteArray) (w : World) : Calls Tryd.prog 36 #[.string s] w (Ret (.tuple #[.string (twS s 2), .bool (twOk s 2)]) w) := by
  have gg := Gr.refl w
  by_cases h1 : wordB s = true
  · have H1 := hidI h1
    have HOK := hidI (show twOk s 2 = true from by unfold twOk; rw [h1]; rfl)
    have HV := hidI (show twS s 2 = mkS (s.data.toList.map fun b => rotB b 2) from by unfold twS; rw [HOK.out]; rfl)
    clear h1
    go_enter Tryd.func36, Tryd.ntmps36
    go_wp2_with (first | (go_at_call 68; refine (tiWord_any s _).mono ?_; rintro e w1 ⟨rfl, g1⟩; rw [H1.out]; have z1 := g1.size; have gg := gg.trans g1) | (go_at_call 72; refine (tiTurn_any s 2 _ H1.out (by decide)).mono ?_; rintro e w2 ⟨rfl, g2⟩; have z2 := g2.size; have gg := gg.trans g2))
    go_ret2
    exact ⟨fin_sb HV.out.symm HOK.out.symm, gg⟩
  · have H1 := hidI (show wordB s = false from by simpa using h1)
    have HOK := hidI (show twOk s 2 = false from by unfold twOk; rw [H1.out]; rfl)
    have HV := hidI (show twS s 2 = ⟨#[]⟩ from by unfold twS; rw [HOK.out]; rfl)
    clear h1
    go_enter Tryd.func36, Tryd.ntmps36
    go_wp2_with (go_at_call 68; refine (tiWord_any s _).mono ?_; rintro e w1 ⟨rfl, g1⟩; rw [H1.out]; have z1 := g1.size; have gg := gg.trans g1)
    go_ret2
    exact ⟨fin_sb HV.out.symm HOK.out.symm, gg⟩
set_option maxHeartbeats 1000000 in
theorem lawTurnWord (s : ByteArray) (k : Int) (w : World) : Calls Tryd.prog 13 #[.string s, .int .i64 k] w (Ret (.bool true) w) := by
  have gg := Gr.refl w
  by_cases hs : 1048576 < s.size
  · go_enter Tryd.func13, Tryd.ntmps13
    go_wp2
    go_ret
    exact ⟨rfl, gg⟩
  · have hs' : s.size ≤ 1048576 := by omega
    clear hs
    go_enter Tryd.func13, Tryd.ntmps13
    go_wp2_with (first | (go_at_call 38; refine (sTurnWord s k _).mono ?_; rintro e w1 ⟨rfl, g1⟩; have z1 := g1.size; have gg := gg.trans g1) | (go_at_call 39; refine (iTurnWord s k _).mono ?_; rintro e w2 ⟨rfl, g2⟩; have z2 := g2.size; have gg := gg.trans g2))
    go_ret
    exact ⟨rfl, gg⟩
set_option maxHeartbeats 1000000 in
theorem lawOppositeWord (s : ByteArray) (w : World) : Calls Tryd.prog 12 #[.string s] w (Ret (.bool true) w) := by
  have gg := Gr.refl w
  by_cases hs : 1048576 < s.size
  · go_enter Tryd.func12, Tryd.ntmps12
    go_wp2
    go_ret
    exact ⟨rfl, gg⟩
  · have hs' : s.size ≤ 1048576 := by omega
    clear hs
    go_enter Tryd.func12, Tryd.ntmps12
    go_wp2_with (first | (go_at_call 36; refine (sOppositeWord s _).mono ?_; rintro e w1 ⟨rfl, g1⟩; have z1 := g1.size; have gg := gg.trans g1) | (go_at_call 37; refine (iOppositeWord s _).mono ?_; rintro e w2 ⟨rfl, g2⟩; have z2 := g2.size; have gg := gg.trans g2))
    go_ret
    exact ⟨rfl, gg⟩
end Go.Proofs.YthjkeohnjggmiaaDoor
