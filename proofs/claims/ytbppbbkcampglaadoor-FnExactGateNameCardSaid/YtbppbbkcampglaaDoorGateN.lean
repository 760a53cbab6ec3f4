/-
  The names of gates: in the program and in the model; and the law.
-/
import Derived.Test.YtbppbbkcampglaaDoorCallC
import Derived.Test.YtbppbbkcampglaaDoorOps
import Derived.Test.YtbppbbkcampglaaDoorTiltV
namespace Go.Proofs.YtbppbbkcampglaaDoor
open Go.RowKit
def gnL : List ByteArray := [⟨#[122, 101, 114, 111]⟩, ⟨#[97, 110, 100]⟩, ⟨#[111, 116, 104, 101, 114]⟩, ⟨#[102, 105, 114, 115, 116]⟩, ⟨#[111, 116, 104, 101, 114]⟩, ⟨#[115, 101, 99, 111, 110, 100]⟩, ⟨#[120, 111, 114]⟩, ⟨#[111, 114]⟩, ⟨#[110, 111, 114]⟩, ⟨#[120, 110, 111, 114]⟩, ⟨#[111, 116, 104, 101, 114]⟩, ⟨#[111, 116, 104, 101, 114]⟩, ⟨#[111, 116, 104, 101, 114]⟩, ⟨#[111, 116, 104, 101, 114]⟩, ⟨#[110, 97, 110, 100]⟩, ⟨#[111, 110, 101]⟩]
def gnV (k : Int) : Value := if 0 ≤ k ∧ k ≤ 15 then .tuple #[.string (gnL.getD k.toNat ⟨#[]⟩), .bool true] else .tuple #[.string ⟨#[]⟩, .bool false]
theorem gnV_no {k : Int} (h : ¬ (0 ≤ k ∧ k ≤ 15)) : gnV k = .tuple #[.string ⟨#[]⟩, .bool false] := if_neg h
theorem ret_vg {v v' : Value} (h : v = v') : Ending.returned v = Ending.returned v' := by rw [h]
def GnAt (w : World) : Prop := ∀ n, n < 16 → w.cell? ⟨0, n, none⟩ = some (.string (gnL.getD n ⟨#[]⟩))
set_option maxHeartbeats 800000 in
set_option maxRecDepth 100000 in
theorem iGateName (k : Int) (w : World) (hG : GnAt w) : Calls Tryd.prog 15 #[.int .i64 k] w (Ret (gnV k) w) := by
  have gg := Gr.refl w
  by_cases hk : 0 ≤ k ∧ k ≤ 15
  · obtain ⟨n, rfl⟩ : ∃ n : Nat, k = n := ⟨k.toNat, by omega⟩
    have hn : n < 16 := by omega
    have hc := hG n hn
    clear hG hk
    have h16 : n = 0 ∨ n = 1 ∨ n = 2 ∨ n = 3 ∨ n = 4 ∨ n = 5 ∨ n = 6 ∨ n = 7 ∨ n = 8 ∨ n = 9 ∨ n = 10 ∨ n = 11 ∨ n = 12 ∨ n = 13 ∨ n = 14 ∨ n = 15 := by omega
    clear hn
    rcases h16 with rfl | rfl | rfl | rfl | rfl | rfl | rfl | rfl | rfl | rfl | rfl | rfl | rfl | rfl | rfl | rfl
    all_goals
      go_enter Tryd.func15, Tryd.ntmps15
      go_wp2
      go_ret2
      exact ⟨rfl, gg⟩
  · have HV := hidI (gnV_no hk)
    rcases (show k < 0 ∨ (0 ≤ k ∧ ¬ k < 16) by omega) with h | ⟨h, h2⟩
    all_goals
      clear hk hG
      go_enter Tryd.func15, Tryd.ntmps15
      go_wp2
      go_ret2
      exact ⟨ret_vg HV.out.symm, gg⟩
set_option maxHeartbeats 800000 in
set_option maxRecDepth 100000 in
theorem sGateName (k : Int) (w : World) : Calls Tryd.prog 14 #[.int .i64 k] w (Ret (gnV k) w) := by
  have gg := Gr.refl w
  by_cases hk : 0 ≤ k ∧ k ≤ 15
  · obtain ⟨n, rfl⟩ : ∃ n : Nat, k = n := ⟨k.toNat, by omega⟩
    have hn : n < 16 := by omega
    clear hk
    have h16 : n = 0 ∨ n = 1 ∨ n = 2 ∨ n = 3 ∨ n = 4 ∨ n = 5 ∨ n = 6 ∨ n = 7 ∨ n = 8 ∨ n = 9 ∨ n = 10 ∨ n = 11 ∨ n = 12 ∨ n = 13 ∨ n = 14 ∨ n = 15 := by omega
    clear hn
    rcases h16 with rfl | rfl | rfl | rfl | rfl | rfl | rfl | rfl | rfl | rfl | rfl | rfl | rfl | rfl | rfl | rfl
    all_goals
      go_enter Tryd.func14, Tryd.ntmps14
      go_wp2
      go_ret2
      exact ⟨rfl, gg.alloc _⟩
  · have HV := hidI (gnV_no hk)
    rcases (show k < 0 ∨ (0 ≤ k ∧ ¬ k ≤ 15) by omega) with h | ⟨h, h2⟩
    all_goals
      clear hk
      go_enter Tryd.func14, Tryd.ntmps14
      go_wp2
      go_ret2
      exact ⟨ret_vg HV.out.symm, gg⟩
set_option maxHeartbeats 800000 in
set_option maxRecDepth 100000 in
theorem lawGateName (k : Int) (w : World) (hG : GnAt w) : Calls Tryd.prog 5 #[.int .i64 k] w (Ret (.bool true) w) := by
  have gg := Gr.refl w
  have HI := hidI (fun (w' : World) (g : Gr w w') => iGateName k w' (fun n hn => g.cell (hG n hn)))
  have HS := hidI (sGateName k)
  clear hG
  by_cases hk : 0 ≤ k ∧ k ≤ 15
  · obtain ⟨s, hs⟩ : ∃ s, gnV k = .tuple #[.string s, .bool true] := ⟨_, if_pos hk⟩
    rw [hs] at HI HS
    clear hs hk
    go_enter Tryd.func5, Tryd.ntmps5
    go_wp2_with (first | (go_at_call 14; refine (HS.out _).mono ?_; rintro e w1 ⟨rfl, g1⟩; have gg := gg.trans g1) | (go_at_call 15; refine (HI.out _ gg).mono ?_; rintro e w2 ⟨rfl, g2⟩; have gg := gg.trans g2))
    go_ret
    exact ⟨rfl, gg⟩
  · rw [gnV_no hk] at HI HS
    clear hk
    go_enter Tryd.func5, Tryd.ntmps5
    go_wp2_with (first | (go_at_call 14; refine (HS.out _).mono ?_; rintro e w1 ⟨rfl, g1⟩; have gg := gg.trans g1) | (go_at_call 15; refine (HI.out _ gg).mono ?_; rintro e w2 ⟨rfl, g2⟩; have gg := gg.trans g2))
    go_ret
    exact ⟨rfl, gg⟩
end Go.Proofs.YtbppbbkcampglaaDoor
