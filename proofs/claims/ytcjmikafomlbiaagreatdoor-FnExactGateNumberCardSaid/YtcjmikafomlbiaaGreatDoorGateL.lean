/-
  The law of GateTable.
-/
import Derived.Test.YtcjmikafomlbiaaGreatDoorGateC
import Derived.Test.YtcjmikafomlbiaaGreatDoorBLs
namespace Go.Proofs.YtcjmikafomlbiaaGreatDoor
open Go.RowKit
theorem apart_symm {a b : Option Nat} (h : a = none ∨ a ≠ b) : b = none ∨ b ≠ a := by
  cases b with
  | none => exact .inl rfl
  | some k =>
    refine .inr fun e => ?_
    rcases h with h | h
    · rw [h] at e; cases e
    · exact h e.symm
set_option maxHeartbeats 2000000 in
set_option maxRecDepth 100000 in
theorem lawGateTable (s : ByteArray) (z1 : Option Addr) (c1 : Nat) (I : List Int) (z2 : Option Addr) (c2 : Nat) (O : List Int) (u : ByteArray) (w : World)
    (hs1 : Rd w z1 I.length (intsV I)) (_hb1 : I.length ≤ 9223372036854775807) (hw1 : ∀ k, k < I.length → (Lit.int .i64 (gi I k)).wf = true)
    (hs2 : Rd w z2 O.length (intsV O)) (_hb2 : O.length ≤ 9223372036854775807) (hw2 : ∀ k, k < O.length → (Lit.int .i64 (gi O k)).wf = true) (hm : ML w) :
    Calls Tryz.prog 3 #[.string s, .slice z1 I.length c1, .slice z2 O.length c2, .string u] w (Ret (.bool true) w) := by
  have gg := Gr.refl w
  by_cases h1 : 1048576 < s.size
  · go_enter Tryz.func3, Tryz.ntmps3
    go_wp2
    go_ret
    exact ⟨rfl, gg⟩
  have hs : s.size ≤ 1048576 := by omega
  clear h1
  by_cases h2 : 1048576 < I.length
  · go_enter Tryz.func3, Tryz.ntmps3
    go_wp2
    go_ret
    exact ⟨rfl, gg⟩
  have hI : I.length ≤ 1048576 := by omega
  clear h2
  by_cases h3 : 1048576 < O.length
  · go_enter Tryz.func3, Tryz.ntmps3
    go_wp2
    go_ret
    exact ⟨rfl, gg⟩
  have hO : O.length ≤ 1048576 := by omega
  clear h3
  by_cases h4 : 1048576 < u.size
  · go_enter Tryz.func3, Tryz.ntmps3
    go_wp2
    go_ret
    exact ⟨rfl, gg⟩
  have hu : u.size ≤ 1048576 := by omega
  clear h4
  have HT1 := hidI (fun (w' : World) (g : Gr w w') => toInts_any z1 c1 I w' (hs1.gr g) hI)
  have HT2 := hidI (fun (w' : World) (g : Gr w w') => toInts_any z2 c2 O w' (hs2.gr g) hO)
  have HSP := hidI (fun (w' : World) (b1 b2 : Nat) (v1 v2 : Value) (h1 : w'.ownsRow b1 3 1 v1 I.length (intsV I)) (h2 : w'.ownsRow b2 3 1 v2 O.length (intsV O)) => sGateTable s u I O b1 b2 v1 v2 w' hs h1 h2)
  have HIM := hidI (fun (w' : World) (g : Gr w w') (b1 b2 : Nat) (v1 v2 : Value) (h1 : w'.ownsRow b1 3 1 v1 I.length (intsV I)) (h2 : w'.ownsRow b2 3 1 v2 O.length (intsV O)) => iGateTable s u I O b1 b2 v1 v2 w' (g.ml hm) hs h1 h2 hw1 hw2)
  have hle : (gtL s.data.toList I O u).length ≤ 8 := gtL_le _ _ _ _
  obtain ⟨L, hL⟩ : ∃ L, L = gtL s.data.toList I O u := ⟨_, rfl⟩
  obtain ⟨ok, hok⟩ : ∃ ok, ok = gtOk s.data.toList I O u := ⟨_, rfl⟩
  rw [← hL, ← hok] at HSP HIM
  rw [← hL] at hle
  clear hL hok hw1 hw2 hs1 hs2 hm
  go_enter Tryz.func3, Tryz.ntmps3
  go_wp2_with fail
  refine (HT1.out _ gg).mono ?_
  rintro e wm ⟨ga, va, rfl, owa⟩
  obtain ⟨wn, rfl⟩ : ∃ wn : World, wn = wm := ⟨_, rfl⟩
  have gg := gg.trans ga
  go_wp2_with fail
  refine (HT2.out _ gg).mono ?_
  rintro e wm ⟨gb, vb, rfl, owb⟩
  obtain ⟨wn, rfl⟩ : ∃ wn : World, wn = wm := ⟨_, rfl⟩
  have owa := gb.row owa
  have gg := gg.trans gb
  go_wp2_with fail
  refine (HSP.out _ _ _ _ _ owa owb).mono ?_
  rintro e wm ⟨gc, vw, rfl, oww⟩
  obtain ⟨wn, rfl⟩ : ∃ wn : World, wn = wm := ⟨_, rfl⟩
  have zw := gg.size
  have gg := gg.trans gc
  go_wp2_with fail
  refine (HT1.out _ gg).mono ?_
  rintro e wm ⟨gd, vx, rfl, owx⟩
  obtain ⟨wn, rfl⟩ : ∃ wn : World, wn = wm := ⟨_, rfl⟩
  have AWX := hidI (own_apart oww owx (Nat.le_refl _))
  have oww := gd.row oww
  have zx := gg.size
  have gg := gg.trans gd
  go_wp2_with fail
  refine (HT2.out _ gg).mono ?_
  rintro e wm ⟨ge, vy, rfl, owy⟩
  obtain ⟨wn, rfl⟩ : ∃ wn : World, wn = wm := ⟨_, rfl⟩
  have AWY := hidI (own_apart oww owy (Nat.le_refl _))
  have AXY := hidI (own_apart owx owy (Nat.le_refl _))
  have oww := ge.row oww
  have owx := ge.row owx
  have zy := gg.size
  have gg := gg.trans ge
  go_wp2_with fail
  refine (HIM.out _ gg _ _ _ _ owx owy).mono ?_
  rintro e wm ⟨gf, vg, rfl, owg⟩
  obtain ⟨wn, rfl⟩ : ∃ wn : World, wn = wm := ⟨_, rfl⟩
  have AWG := hidI (own_apart oww owg (Nat.le_refl _))
  have AXG := hidI (own_apart owx owg (Nat.le_refl _))
  have AYG := hidI (own_apart owy owg (Nat.le_refl _))
  have oww := gf.row oww
  have owx := gf.row owx
  have owy := gf.row owy
  have zg := gg.size
  have gg := gg.trans gf
  go_wp2_with fail
  refine (eqIntS_any vg vw L L _ _ _ owg oww (by omega)).mono ?_
  rintro e w3 ⟨rfl, g3⟩
  rw [decide_eq_true rfl]
  have oww := g3.row oww
  have owg := g3.row owg
  have owx := g3.row owx
  have owy := g3.row owy
  have gg := gg.trans g3
  go_wp2_with fail
  refine (HT1.out _ gg).mono ?_
  rintro e wm ⟨gh, vt, rfl, owt⟩
  obtain ⟨wn, rfl⟩ : ∃ wn : World, wn = wm := ⟨_, rfl⟩
  have oww := gh.row oww
  have owg := gh.row owg
  have owx := gh.row owx
  have owy := gh.row owy
  have gg := gg.trans gh
  go_wp2_with fail
  refine (eqIntS_any vx vt I I _ _ _ owx owt hI).mono ?_
  rintro e w4 ⟨rfl, g4⟩
  rw [decide_eq_true rfl]
  have oww := g4.row oww
  have owg := g4.row owg
  have owx := g4.row owx
  have owy := g4.row owy
  have gg := gg.trans g4
  go_wp2_with fail
  refine (HT2.out _ gg).mono ?_
  rintro e wm ⟨gk, vt2, rfl, owt2⟩
  obtain ⟨wn, rfl⟩ : ∃ wn : World, wn = wm := ⟨_, rfl⟩
  have oww := gk.row oww
  have owg := gk.row owg
  have owx := gk.row owx
  have owy := gk.row owy
  have gg := gg.trans gk
  go_wp2_with fail
  refine (eqIntS_any vy vt2 O O _ _ _ owy owt2 hO).mono ?_
  rintro e w5 ⟨rfl, g5⟩
  rw [decide_eq_true rfl]
  have oww := g5.row oww
  have owg := g5.row owg
  have owx := g5.row owx
  have owy := g5.row owy
  have gg := gg.trans g5
  go_wp2_with fail
  refine (markIntS_any vx I 1 _ _ owx hI (by decide)).mono ?_
  rintro e w6 ⟨rfl, owx', g6, z6⟩
  have oww := g6.row oww AWX.out
  have owg := g6.row owg (apart_symm AXG.out)
  have owy := g6.row owy (apart_symm AXY.out)
  have gg := g6.gr gg (own_gr owx (by omega))
  obtain ⟨n, hn⟩ : ∃ n : Nat, n = 1 + I.length := ⟨_, rfl⟩
  rw [← hn]
  have hn2 : n ≤ 1048577 := by omega
  clear hn
  go_wp2_with fail
  refine (markIntS_any vy O n _ _ owy hO (by omega)).mono ?_
  rintro e w7 ⟨rfl, owy', g7, z7⟩
  have oww := g7.row oww AWY.out
  have owg := g7.row owg (apart_symm AYG.out)
  have gg := g7.gr gg (own_gr owy (by omega))
  obtain ⟨m, hm⟩ : ∃ m : Nat, m = n + O.length := ⟨_, rfl⟩
  rw [← hm]
  have hm2 : m ≤ 2097153 := by omega
  clear hm
  go_wp2_with fail
  refine (eqIntS_any vg vw L L _ _ _ owg oww (by omega)).mono ?_
  rintro e w8 ⟨rfl, g8⟩
  rw [decide_eq_true rfl]
  have oww := g8.row oww
  have owg := g8.row owg
  have gg := gg.trans g8
  go_wp2_with fail
  refine (markIntS_any vg L 1 _ _ owg (by omega) (by decide)).mono ?_
  rintro e w9 ⟨rfl, owg', g9, z9⟩
  have oww := g9.row oww AWG.out
  have gg := g9.gr gg (own_gr owg (by omega))
  obtain ⟨q, hq⟩ : ∃ q : Nat, q = 1 + L.length := ⟨_, rfl⟩
  rw [← hq]
  have HQ := hidI hq
  have hq2 : q ≤ 9 := by omega
  clear hq
  have owg := owg'
  clear owg'
  go_wp2_with fail
  refine (heldIntS_any vg L.length 1 _ _ owg (by omega) (by decide)).mono ?_
  rintro e w10 ⟨rfl, g10⟩
  rw [← HQ.out]
  have oww := g10.row oww
  have owg := g10.row owg
  have gg := gg.trans g10
  go_wp2_with fail
  refine (HT1.out _ gg).mono ?_
  rintro e wm ⟨gl, vk, rfl, owk⟩
  obtain ⟨wn, rfl⟩ : ∃ wn : World, wn = wm := ⟨_, rfl⟩
  have oww := gl.row oww
  have owg := gl.row owg
  have gg := gg.trans gl
  go_wp2_with fail
  refine (HT2.out _ gg).mono ?_
  rintro e wm ⟨gm, vl, rfl, owl⟩
  obtain ⟨wn, rfl⟩ : ∃ wn : World, wn = wm := ⟨_, rfl⟩
  have oww := gm.row oww
  have owg := gm.row owg
  have owk := gm.row owk
  have gg := gg.trans gm
  go_wp2_with fail
  refine (HIM.out _ gg _ _ _ _ owk owl).mono ?_
  rintro e wm ⟨gn, vr, rfl, owr⟩
  obtain ⟨wn, rfl⟩ : ∃ wn : World, wn = wm := ⟨_, rfl⟩
  have oww := gn.row oww
  have owg := gn.row owg
  have gg := gg.trans gn
  go_wp2_with fail
  refine (eqIntS_any vr vw L L _ _ _ owr oww (by omega)).mono ?_
  rintro e w11 ⟨rfl, g11⟩
  rw [decide_eq_true rfl]
  have owg := g11.row owg
  have gg := gg.trans g11
  go_wp2_with fail
  refine (heldIntS_any vg L.length 1 _ _ owg (by omega) (by decide)).mono ?_
  rintro e w12 ⟨rfl, g12⟩
  rw [← HQ.out]
  have gg := gg.trans g12
  go_wp2
  go_ret
  exact ⟨rfl, gg⟩
end Go.Proofs.YtcjmikafomlbiaaGreatDoor
