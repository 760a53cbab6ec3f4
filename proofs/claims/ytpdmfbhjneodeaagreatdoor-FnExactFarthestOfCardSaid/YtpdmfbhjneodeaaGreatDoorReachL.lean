/-
  How many trays a tray reaches: in the program and in the model, and the law.
-/
import Derived.Test.YtpdmfbhjneodeaaGreatDoorReachJ
import Derived.Test.YtpdmfbhjneodeaaGreatDoorReachU
namespace Go.Proofs.YtpdmfbhjneodeaaGreatDoor
open Go.RowKit
theorem fin_ib {a b : Int} {c d : Bool} (h1 : a = b) (h2 : c = d) : Ending.returned (.tuple #[.int .i64 a, .bool c]) = .returned (.tuple #[.int .i64 b, .bool d]) := by rw [h1, h2]
set_option maxHeartbeats 1000000 in
set_option maxRecDepth 100000 in
theorem readStates_any (s : ByteArray) (w : World) (hm : ML w) (hs : s.size ≤ 1048576) : Calls Tryz.prog 8 #[.string s] w (RetI (rcS s.data.toList) w) := by
  have gg := Gr.refl w
  rcases rd_cases s.data.toList with ⟨hp, hg, hk⟩ | ⟨g, hp, hg, hk⟩
  · have HK := hidI hk
    have HV := hidI (show rcS s.data.toList = none from by unfold rcS; rw [hp])
    clear hg hp hk
    go_enter Tryz.func8, Tryz.ntmps8
    go_wp2_with (first | (go_at_call 17; refine (readTray_any s _ (gg.ml hm) hs).mono ?_; rintro e w1 ⟨rfl, g1⟩; rw [HK.out]; have z1 := g1.size; have gg := gg.trans g1) | (refine r_alloc 43 _ Tryz.gzero rfl ?_; intro w2 B2 N2; have g2 := N2.gr; have b2 : Blk w2 B2 (gv 0 0 []) 43 := N2.blk; have l2 := N2.lo; have t2 := N2.hi; have z2 := g2.size; have gg := gg.trans g2; clear N2; obtain ⟨b2_0, b2_1, b2_2⟩ := gcells b2) | (refine r_store_row 43 43 _ _ _ rfl (gv _ _ _) _ rfl b2 (Tryz.gsize' _ _ _) (by simp only [gv_size]) (gv_one _ _ _) rfl ?_; intro w3 u3 b2'; have z3 := u3.size; have gg := u3.gr gg (by omega); clear b2; have b2 := b2'; clear b2'; obtain ⟨b2_0, b2_1, b2_2⟩ := gcells b2))
    go_ret2
    exact ⟨gg, by rw [HV.out]; exact rfl⟩
  · have HK := hidI hk
    have HG := hidI hg
    obtain ⟨hc, -, -, -⟩ := cel_of hp
    have HC := hidI hc
    cases hR : reachS tiltG g with
    | none =>
      have HV := hidI (show rcS s.data.toList = none from by unfold rcS; rw [hp]; exact hR)
      have HS := hidI (fun w => show Calls Tryz.prog 18 #[.agg (gvG g)] w (Ret (.tuple #[.slice none 0 0, .bool false]) w) from (statesFrom_any g w hc).mono fun e w' h => by
        unfold RetI at h
        rw [hR] at h
        exact ⟨h.2, h.1⟩)
      clear hg hp hk hc hR
      go_enter Tryz.func8, Tryz.ntmps8
      go_wp2_with (first | (go_at_call 17; refine (readTray_any s _ (gg.ml hm) hs).mono ?_; rintro e w1 ⟨rfl, g1⟩; rw [HK.out, HG.out, gvG]; have z1 := g1.size; have gg := gg.trans g1) | (refine r_alloc 43 _ Tryz.gzero rfl ?_; intro w2 B2 N2; have g2 := N2.gr; have b2 : Blk w2 B2 (gv 0 0 []) 43 := N2.blk; have l2 := N2.lo; have t2 := N2.hi; have z2 := g2.size; have gg := gg.trans g2; clear N2; obtain ⟨b2_0, b2_1, b2_2⟩ := gcells b2) | (refine r_store_row 43 43 _ _ _ rfl (gv g.w g.h g.c) _ rfl b2 (Tryz.gsize' _ _ _) (by simp only [gv_size]) (gv_one _ _ _) rfl ?_; intro w3 u3 b2'; have z3 := u3.size; have gg := u3.gr gg (by omega); clear b2; have b2 := b2'; clear b2'; obtain ⟨b2_0, b2_1, b2_2⟩ := gcells b2) | (refine r_load_row 43 _ _ rfl _ _ _ b2 Tryz.underlying43 rfl (Tryz.ginfo' _ _ _) rfl ?_) | (go_at_call 18; refine (HS.out _).mono ?_; rintro e w4 ⟨rfl, g4⟩; have z4 := g4.size; have gg := gg.trans g4))
      go_ret2
      exact ⟨gg, by rw [HV.out]; exact rfl⟩
    | some S =>
      have HV := hidI (show rcS s.data.toList = some S from by unfold rcS; rw [hp]; exact hR)
      have HS := hidI (fun w => show Calls Tryz.prog 18 #[.agg (gvG g)] w (fun e w' => Gr w w' ∧ ∃ v nx, e = .returned (.tuple #[v, .bool true]) ∧ ISt w.heap.size w' v S nx) from (statesFrom_any g w hc).mono fun e w' h => by
        unfold RetI at h
        rw [hR] at h
        exact h)
      clear hg hp hk hc hR
      go_enter Tryz.func8, Tryz.ntmps8
      go_wp2_with (first | (go_at_call 17; refine (readTray_any s _ (gg.ml hm) hs).mono ?_; rintro e w1 ⟨rfl, g1⟩; rw [HK.out, HG.out, gvG]; have z1 := g1.size; have gg := gg.trans g1) | (refine r_alloc 43 _ Tryz.gzero rfl ?_; intro w2 B2 N2; have g2 := N2.gr; have b2 : Blk w2 B2 (gv 0 0 []) 43 := N2.blk; have l2 := N2.lo; have t2 := N2.hi; have z2 := g2.size; have gg := gg.trans g2; clear N2; obtain ⟨b2_0, b2_1, b2_2⟩ := gcells b2) | (refine r_store_row 43 43 _ _ _ rfl (gv g.w g.h g.c) _ rfl b2 (Tryz.gsize' _ _ _) (by simp only [gv_size]) (gv_one _ _ _) rfl ?_; intro w3 u3 b2'; have z3 := u3.size; have gg := u3.gr gg (by omega); clear b2; have b2 := b2'; clear b2'; obtain ⟨b2_0, b2_1, b2_2⟩ := gcells b2) | (refine r_load_row 43 _ _ rfl _ _ _ b2 Tryz.underlying43 rfl (Tryz.ginfo' _ _ _) rfl ?_) | (go_at_call 18; refine (HS.out _).mono ?_; rintro e w4 ⟨g4, v4, nx4, rfl, IS4⟩; have z4 := g4.size; have zb := gg.size; have gg := gg.trans g4))
      go_ret2
      exact ⟨gg, by rw [HV.out]; exact ⟨v4, nx4, rfl, own_up IS4.row zb, fun j hj => own_up (IS4.nxt j hj) zb⟩⟩
def crN (l : List UInt8) : Int := match rcS l with
  | none => 0
  | some S => S.length
def crOk (l : List UInt8) : Bool := (rcS l).isSome
end Go.Proofs.YtpdmfbhjneodeaaGreatDoor
