/-
  Orders: the model's two functions, and the laws.
-/
import Derived.Test.YtdebiobhmpoiiaaDoorOrdT
namespace Go.Proofs.YtdebiobhmpoiiaaDoor
open Go.RowKit
theorem od_out {l : List UInt8} {L : List Int} (h : odIn l L = false) : odOk l L = false ∧ odB l L = ByteArray.empty := by
  rcases fm_cases l with ⟨hk, -⟩ | ⟨g, hp, hg, hk, hf, hfg, F⟩
  · exact od_bad hk
  · obtain ⟨e1, e2⟩ := od_of (L := L) hf hg
    have e3 : orOkG g L = false := by
      cases ho : orOkG g L with
      | false => rfl
      | true => have := od_in F hg hf ho; rw [h] at this; cases this
    rw [e3] at e1 e2
    exact ⟨e1, e2⟩
set_option maxHeartbeats 1000000 in
set_option maxRecDepth 100000 in
theorem sWaysOfOrder (s : ByteArray) (L : List Int) (sl : Value) (bL : Nat) (w : World) (hs : s.size ≤ 1048576) (hL : L.length ≤ 1048576) (hown : w.ownsRow bL 3 1 sl L.length (intsV L)) :
    Calls Tryd.prog 21 #[.string s, sl] w (Ret (.tuple #[.string (odB s.data.toList L), .bool (odOk s.data.toList L)]) w) := by
  have gg := Gr.refl w
  have HBL := hidI (fun w' ho => buList_any s L sl bL w' hs hL ho)
  have HROW := hidI hown
  obtain ⟨p, q, rfl⟩ := own_slO hown
  go_enter Tryd.func21, Tryd.ntmps21
  go_wp2_with fail
  refine (HBL.out _ HROW.out).mono ?_
  rintro e w1 ⟨g1, ⟨hin, xa, xb, se, hone, rfl⟩ | ⟨g, G, cap, hg, hf, F, hin, rfl, own⟩⟩
  · obtain ⟨e1, e2⟩ := od_out hin
    have HO := hidI e1
    have HV := hidI e2
    have gg := gg.trans g1
    have z1 := g1.size
    clear hin e1 e2
    go_wp2_with (first | (refine r_alloc (dst := some 6) 55 _ Tryd.tzero rfl ?_; intro w2 B2 N2; have g2 := N2.gr; have b2 : Blk w2 B2 (tg 0 0 (.slice none 0 0)) 55 := N2.blk; have l2 := N2.lo; have t2 := N2.hi; have z2 := g2.size; have gg := gg.trans g2; clear N2; obtain ⟨b2_0, b2_1, b2_2⟩ := tcells b2) | (refine r_store_row 55 55 _ _ _ rfl (tg _ _ _) _ rfl b2 Tryd.tsize rfl (tg_one hone) rfl ?_; intro w3 u3 b2'; have z3 := u3.size; have gg := u3.gr gg (by omega); clear b2; have b2 := b2'; clear b2'; obtain ⟨b2_0, b2_1, b2_2⟩ := tcells b2))
    go_ret2
    exact ⟨fin_sbO HV.out.symm HO.out.symm, gg⟩
  · obtain ⟨e1, e2⟩ := od_of (L := L) hf hg
    have HO := hidI e1
    have HV := hidI e2
    have gg := gg.trans g1
    have z1 := g1.size
    have hone := own_one own
    have HBO := hidI (fun w' ho hr => buOrder_any g L G cap w.heap.size bL (.slice p L.length q) w' F hL ho hr)
    unfold RetOd at HBO
    obtain ⟨ok, hok⟩ : ∃ ok, ok = orOkG g L := ⟨_, rfl⟩
    rw [← hok] at HO HV HBO
    obtain ⟨N, hN⟩ : ∃ N, N = nn g.w g.h := ⟨_, rfl⟩
    rw [← hN] at own HBO ⊢
    clear hin e1 e2 hg hf F hok hown hN
    cases ok with
    | false =>
      go_wp2_with (first | (refine r_alloc (dst := some 6) 55 _ Tryd.tzero rfl ?_; intro w2 B2 N2; have g2 := N2.gr; have b2 : Blk w2 B2 (tg 0 0 (.slice none 0 0)) 55 := N2.blk; have l2 := N2.lo; have t2 := N2.hi; have z2 := g2.size; have gg := gg.trans g2; clear N2; obtain ⟨b2_0, b2_1, b2_2⟩ := tcells b2) | (refine r_store_row 55 55 _ _ _ rfl (tg _ _ _) _ rfl b2 Tryd.tsize rfl (tg_one hone) rfl ?_; intro w3 u3 b2'; have z3 := u3.size; have gg := u3.gr gg (by omega); clear b2; have b2 := b2'; clear b2'; obtain ⟨b2_0, b2_1, b2_2⟩ := tcells b2) | (refine r_load_row 55 _ _ rfl _ _ _ b2 Tryd.underlying55 rfl Tryd.tinfo rfl ?_) | (go_at_call 42; refine (HBO.out _ (u3.row (g2.row own) (own_new own l2)) (gg.row HROW.out)).mono ?_; rintro e w4 ⟨rfl, g4⟩; have gg := gg.trans g4))
      go_ret2
      exact ⟨fin_sbO HV.out.symm HO.out.symm, gg⟩
    | true =>
      go_wp2_with (first | (refine r_alloc (dst := some 6) 55 _ Tryd.tzero rfl ?_; intro w2 B2 N2; have g2 := N2.gr; have b2 : Blk w2 B2 (tg 0 0 (.slice none 0 0)) 55 := N2.blk; have l2 := N2.lo; have t2 := N2.hi; have z2 := g2.size; have gg := gg.trans g2; clear N2; obtain ⟨b2_0, b2_1, b2_2⟩ := tcells b2) | (refine r_store_row 55 55 _ _ _ rfl (tg _ _ _) _ rfl b2 Tryd.tsize rfl (tg_one hone) rfl ?_; intro w3 u3 b2'; have z3 := u3.size; have gg := u3.gr gg (by omega); clear b2; have b2 := b2'; clear b2'; obtain ⟨b2_0, b2_1, b2_2⟩ := tcells b2) | (refine r_load_row 55 _ _ rfl _ _ _ b2 Tryd.underlying55 rfl Tryd.tinfo rfl ?_) | (go_at_call 42; refine (HBO.out _ (u3.row (g2.row own) (own_new own l2)) (gg.row HROW.out)).mono ?_; rintro e w4 ⟨rfl, g4⟩; have gg := gg.trans g4))
      go_ret2
      exact ⟨fin_sbO HV.out.symm HO.out.symm, gg⟩
set_option maxHeartbeats 1000000 in
set_option maxRecDepth 100000 in
theorem sIsOrder (s : ByteArray) (L : List Int) (sl : Value) (bL : Nat) (w : World) (hs : s.size ≤ 1048576) (hL : L.length ≤ 1048576) (hown : w.ownsRow bL 3 1 sl L.length (intsV L)) :
    Calls Tryd.prog 17 #[.string s, sl] w (Ret (.tuple #[.bool (odOk s.data.toList L), .bool (odIn s.data.toList L)]) w) := by
  have gg := Gr.refl w
  have HBL := hidI (fun w' ho => buList_any s L sl bL w' hs hL ho)
  have HROW := hidI hown
  obtain ⟨p, q, rfl⟩ := own_slO hown
  go_enter Tryd.func17, Tryd.ntmps17
  go_wp2_with fail
  refine (HBL.out _ HROW.out).mono ?_
  rintro e w1 ⟨g1, ⟨hin, xa, xb, se, hone, rfl⟩ | ⟨g, G, cap, hg, hf, F, hin, rfl, own⟩⟩
  · obtain ⟨e1, -⟩ := od_out hin
    have HO := hidI e1
    have HI := hidI hin
    have gg := gg.trans g1
    have z1 := g1.size
    clear hin e1
    go_wp2_with (first | (refine r_alloc (dst := some 6) 55 _ Tryd.tzero rfl ?_; intro w2 B2 N2; have g2 := N2.gr; have b2 : Blk w2 B2 (tg 0 0 (.slice none 0 0)) 55 := N2.blk; have l2 := N2.lo; have t2 := N2.hi; have z2 := g2.size; have gg := gg.trans g2; clear N2; obtain ⟨b2_0, b2_1, b2_2⟩ := tcells b2) | (refine r_store_row 55 55 _ _ _ rfl (tg _ _ _) _ rfl b2 Tryd.tsize rfl (tg_one hone) rfl ?_; intro w3 u3 b2'; have z3 := u3.size; have gg := u3.gr gg (by omega); clear b2; have b2 := b2'; clear b2'; obtain ⟨b2_0, b2_1, b2_2⟩ := tcells b2))
    go_ret2
    exact ⟨fin_bbO HO.out.symm HI.out.symm, gg⟩
  · obtain ⟨e1, -⟩ := od_of (L := L) hf hg
    have HO := hidI e1
    have HI := hidI hin
    have gg := gg.trans g1
    have z1 := g1.size
    have hone := own_one own
    have HBO := hidI (fun w' ho hr => buOrder_any g L G cap w.heap.size bL (.slice p L.length q) w' F hL ho hr)
    unfold RetOd at HBO
    obtain ⟨ok, hok⟩ : ∃ ok, ok = orOkG g L := ⟨_, rfl⟩
    rw [← hok] at HO HBO
    obtain ⟨t, ht⟩ : ∃ t, t = if ok then mkS (orW g.w g.h L L.length) else ByteArray.empty := ⟨_, rfl⟩
    rw [← ht] at HBO
    obtain ⟨N, hN⟩ : ∃ N, N = nn g.w g.h := ⟨_, rfl⟩
    rw [← hN] at own HBO ⊢
    clear hin e1 hg hf F hok hown hN ht
    go_wp2_with (first | (refine r_alloc (dst := some 6) 55 _ Tryd.tzero rfl ?_; intro w2 B2 N2; have g2 := N2.gr; have b2 : Blk w2 B2 (tg 0 0 (.slice none 0 0)) 55 := N2.blk; have l2 := N2.lo; have t2 := N2.hi; have z2 := g2.size; have gg := gg.trans g2; clear N2; obtain ⟨b2_0, b2_1, b2_2⟩ := tcells b2) | (refine r_store_row 55 55 _ _ _ rfl (tg _ _ _) _ rfl b2 Tryd.tsize rfl (tg_one hone) rfl ?_; intro w3 u3 b2'; have z3 := u3.size; have gg := u3.gr gg (by omega); clear b2; have b2 := b2'; clear b2'; obtain ⟨b2_0, b2_1, b2_2⟩ := tcells b2) | (refine r_load_row 55 _ _ rfl _ _ _ b2 Tryd.underlying55 rfl Tryd.tinfo rfl ?_) | (go_at_call 42; refine (HBO.out _ (u3.row (g2.row own) (own_new own l2)) (gg.row HROW.out)).mono ?_; rintro e w4 ⟨rfl, g4⟩; have gg := gg.trans g4))
    go_ret2
    exact ⟨fin_bbO HO.out.symm HI.out.symm, gg⟩
set_option maxHeartbeats 2000000 in
set_option maxRecDepth 100000 in
theorem lawWaysOfOrder (s : ByteArray) (p : Option Addr) (c : Nat) (L : List Int) (w : World) (hr : Rd w p L.length (intsV L)) (_ : L.length ≤ 9223372036854775807) (_ : ∀ k, k < L.length → (Lit.int .i64 (gi L k)).wf = true) (hm : ML w) : Calls Tryd.prog 7 #[.string s, .slice p L.length c] w (Ret (.bool true) w) := by
  have gg := Gr.refl w
  by_cases hs : 1048576 < s.size
  · go_enter Tryd.func7, Tryd.ntmps7
    go_wp2
    go_ret
    exact ⟨rfl, gg⟩
  · have hs' : s.size ≤ 1048576 := by omega
    clear hs
    by_cases hc : 1048576 < L.length
    · go_enter Tryd.func7, Tryd.ntmps7
      go_wp2
      go_ret
      exact ⟨rfl, gg⟩
    · have hc' : L.length ≤ 1048576 := by omega
      have hc2 : ¬ (1048576 : Int) < (L.length : Int) := by omega
      clear hc
      have HSW := hidI (fun v b w' ho => sWaysOfOrder s L v b w' hs' hc' ho)
      have HIW := hidI (fun v b w' hm ho => iWaysOfOrder s L v b w' hm hs' hc' ho)
      obtain ⟨a, ha⟩ : ∃ a, a = odB s.data.toList L := ⟨_, rfl⟩
      obtain ⟨b, hb'⟩ : ∃ b, b = odOk s.data.toList L := ⟨_, rfl⟩
      rw [← ha, ← hb'] at HSW HIW
      clear ha hb'
      have HTI := hidI (fun w' (h : Rd w' p L.length (intsV L)) => toIntsO_any p c L w' h hc')
      have HR := hidI hr
      clear hr
      go_enter Tryd.func7, Tryd.ntmps7
      go_wp2_with fail
      refine (HTI.out _ HR.out).mono ?_
      rintro e w1 ⟨g1, v1, rfl, o1⟩
      have gg := gg.trans g1
      go_wp2_with fail
      refine (HSW.out _ _ _ o1).mono ?_
      rintro e w2 ⟨rfl, g2⟩
      have gg := gg.trans g2
      go_wp2_with fail
      refine (HTI.out _ (HR.out.gr gg)).mono ?_
      rintro e w3 ⟨g3, v3, rfl, o3⟩
      have gg := gg.trans g3
      go_wp2_with fail
      refine (HIW.out _ _ _ (gg.ml hm) o3).mono ?_
      rintro e w4 ⟨rfl, g4⟩
      have gg := gg.trans g4
      have o3 := g4.row o3
      go_wp2_with fail
      refine (HTI.out _ (HR.out.gr gg)).mono ?_
      rintro e w5 ⟨g5, v5, rfl, o5⟩
      have gg := gg.trans g5
      have o3 := g5.row o3
      go_wp2_with fail
      refine (eqIntS_any v3 v5 L L _ _ _ o3 o5 hc').mono ?_
      rintro e w6 ⟨rfl, g6⟩
      rw [decide_eq_true rfl]
      have gg := gg.trans g6
      go_wp2
      go_ret
      exact ⟨rfl, gg⟩
set_option maxHeartbeats 2000000 in
set_option maxRecDepth 100000 in
theorem lawIsOrder (s : ByteArray) (p : Option Addr) (c : Nat) (L : List Int) (w : World) (hr : Rd w p L.length (intsV L)) (_ : L.length ≤ 9223372036854775807) (_ : ∀ k, k < L.length → (Lit.int .i64 (gi L k)).wf = true) (hm : ML w) : Calls Tryd.prog 6 #[.string s, .slice p L.length c] w (Ret (.bool true) w) := by
  have gg := Gr.refl w
  by_cases hs : 1048576 < s.size
  · go_enter Tryd.func6, Tryd.ntmps6
    go_wp2
    go_ret
    exact ⟨rfl, gg⟩
  · have hs' : s.size ≤ 1048576 := by omega
    clear hs
    by_cases hc : 1048576 < L.length
    · go_enter Tryd.func6, Tryd.ntmps6
      go_wp2
      go_ret
      exact ⟨rfl, gg⟩
    · have hc' : L.length ≤ 1048576 := by omega
      have hc2 : ¬ (1048576 : Int) < (L.length : Int) := by omega
      clear hc
      have HSW := hidI (fun v b w' ho => sIsOrder s L v b w' hs' hc' ho)
      have HIW := hidI (fun v b w' hm ho => iIsOrder s L v b w' hm hs' hc' ho)
      obtain ⟨a, ha⟩ : ∃ a, a = odOk s.data.toList L := ⟨_, rfl⟩
      obtain ⟨b, hb'⟩ : ∃ b, b = odIn s.data.toList L := ⟨_, rfl⟩
      rw [← ha, ← hb'] at HSW HIW
      clear ha hb'
      have HTI := hidI (fun w' (h : Rd w' p L.length (intsV L)) => toIntsO_any p c L w' h hc')
      have HR := hidI hr
      clear hr
      go_enter Tryd.func6, Tryd.ntmps6
      go_wp2_with fail
      refine (HTI.out _ HR.out).mono ?_
      rintro e w1 ⟨g1, v1, rfl, o1⟩
      have gg := gg.trans g1
      go_wp2_with fail
      refine (HSW.out _ _ _ o1).mono ?_
      rintro e w2 ⟨rfl, g2⟩
      have gg := gg.trans g2
      go_wp2_with fail
      refine (HTI.out _ (HR.out.gr gg)).mono ?_
      rintro e w3 ⟨g3, v3, rfl, o3⟩
      have gg := gg.trans g3
      go_wp2_with fail
      refine (HIW.out _ _ _ (gg.ml hm) o3).mono ?_
      rintro e w4 ⟨rfl, g4⟩
      have gg := gg.trans g4
      have o3 := g4.row o3
      go_wp2_with fail
      refine (HTI.out _ (HR.out.gr gg)).mono ?_
      rintro e w5 ⟨g5, v5, rfl, o5⟩
      have gg := gg.trans g5
      have o3 := g5.row o3
      go_wp2_with fail
      refine (eqIntS_any v3 v5 L L _ _ _ o3 o5 hc').mono ?_
      rintro e w6 ⟨rfl, g6⟩
      rw [decide_eq_true rfl]
      have gg := gg.trans g6
      go_wp2
      go_ret
      exact ⟨rfl, gg⟩
end Go.Proofs.YtdebiobhmpoiiaaDoor
