/-
  How far the balls of a tray move when it is tilted: in the program and in the model, and the laws.
-/
import Derived.Test.YtppjlcmfmbpkjaaDoorTiltV
namespace Go.Proofs.YtppjlcmfmbpkjaaDoor
open Go.RowKit
def mvAll (c : List UInt8) (L : List (List Nat)) : List Int := (L.map fun s => mvTo c s s.length).flatten
theorem mvAll_take {c : List UInt8} {L : List (List Nat)} {k : Nat} {s : List Nat} (h : L[k]? = some s) : mvAll c (L.take (k + 1)) = mvAll c (L.take k) ++ mvTo c s s.length := by
  unfold mvAll
  rw [List.take_add_one, h]
  simp
theorem mvAll_len {c : List UInt8} {L : List (List Nat)} (h : ∀ s ∈ L, 0 < s.length ∧ s.length ≤ 7) : (mvAll c L).length ≤ 7 * L.length := by
  induction L with
  | nil => exact Nat.le_refl _
  | cons s L ih =>
    have h1 := ih (fun t ht => h t (by simp [ht]))
    have h2 := (h s (by simp)).2
    have h3 := mvTo_length c s s.length
    have h4 := nbTo_le c s s.length
    have e : mvAll c (s :: L) = mvTo c s s.length ++ mvAll c L := by unfold mvAll; simp
    rw [e, List.length_append, List.length_cons]
    omega
theorem intsV_length (L : List Int) : (intsV L).length = L.length := by simp [intsV]
set_option maxHeartbeats 4000000 in
set_option maxRecDepth 100000 in
theorem slidesIn_any (g : Grid) (d : Nat) (w : World) (hg : Cel g) (hd : d < 4) :
    Calls Tryd.prog 51 #[.agg (gvG g), .int .u8 (dB d).toNat] w fun e w' => Gr w w' ∧ ∃ v, e = .returned v ∧ w'.ownsRow w.heap.size 3 1 v (mvAll g.c (strL g.w g.h g.c d)).length (intsV (mvAll g.c (strL g.w g.h g.c d))) := by
  have gg := Gr.refl w
  have hS := hg.strs hd
  have w7 := hg.w7
  have h7 := hg.h7
  have n36 := hg.n36
  have hlen := hg.len
  have hcells := hg.cells
  unfold gvG
  obtain ⟨W, hW⟩ : ∃ W, W = g.w := ⟨_, rfl⟩
  obtain ⟨H, hH⟩ : ∃ H, H = g.h := ⟨_, rfl⟩
  obtain ⟨c, hc⟩ : ∃ c, c = g.c := ⟨_, rfl⟩
  rw [← hW] at w7 n36 hlen hS ⊢
  rw [← hH] at h7 n36 hlen hS ⊢
  rw [← hc] at hlen hcells hS ⊢
  have h36 : c.length ≤ 36 := by omega
  obtain ⟨L, hL⟩ : ∃ L, L = strL W H c d := ⟨_, rfl⟩
  rw [← hL] at hS ⊢
  have hml := mvAll_len (c := c) hS.len7
  have hsm := hS.small
  have HML := hidI (fun m (hm : m ≤ L.length) => (show (mvAll c (L.take m)).length ≤ 252 from by
    have := mvAll_len (c := c) (L := L.take m) (fun s hs => hS.len7 s (List.mem_of_mem_take hs))
    rw [List.length_take] at this
    omega))
  have HS := hidI hS
  have HLEN := hidI hlen
  have HCELLS := hidI hcells
  have HL := hidI hL
  clear hW hH hc hL hS hlen hcells hml
  go_enter Tryd.func51, Tryd.ntmps51
  go_wp2_with (first | (refine r_box 53 _ (gv W H c) rfl rfl ?_; intro w1 B1 N1; have g1 := N1.gr; have b1 : Blk w1 B1 (gv W H c) 53 := N1.blk; have l1 := N1.lo; have t1 := N1.hi; have z1 := g1.size; have gg := gg.trans g1; clear N1; obtain ⟨b1_0, b1_1, b1_2⟩ := gcells b1) | (refine r_load_row 53 _ _ rfl _ _ _ b1 Tryd.underlying53 rfl (Tryd.ginfo' _ _ _) rfl ?_))
  refine (stretches_any W H d c _ hd w7 h7 n36 HLEN.out HCELLS.out).mono ?_
  rintro e w3 ⟨g3, sv, vs, rfl, own, R⟩
  rw [← HL.out] at own R
  rw [zzz_length] at own
  have hvl : vs.length = (zzz L).length := by have := own.1; rw [zzz_length]; omega
  have HVL := hidI hvl
  obtain ⟨p3, n3, k3, rfl⟩ := own_slice own
  obtain rfl : n3 = L.length := own_len own
  have b1 := g3.blk b1
  have gg := gg.trans g3
  have R0 := R
  have z3 := g3.size
  clear hvl
  go_wp2
  have ownm : w3.ownsRow w3.heap.size 3 1 (.slice none 0 0) (mvAll c (L.take 0)).length (intsV (mvAll c (L.take 0))) := World.ownsRow_nil _ _ _ _
  go_loopw [5, 12] (fun mv iv wr => ∃ k : Nat, k ≤ L.length ∧ iv = .int .i64 k ∧ Blk wr B1 (gv W H (slAll c (L.take k))) 53 ∧ wr.ownsRow w1.heap.size 34 1 (.slice p3 L.length k3) L.length vs ∧ RowsK 3 w1.heap.size (zzz L) 1 0 vs wr ∧ wr.ownsRow w3.heap.size 3 1 mv (mvAll c (L.take k)).length (intsV (mvAll c (L.take k))) ∧ w3.heap.size ≤ wr.heap.size ∧ Gr w wr) (fun _ iv _ => L.length - (intOf iv).toNat)
  case atStart => exact ⟨0, Nat.zero_le _, rfl, b1, own, R, ownm, Nat.le_refl _, gg⟩
  case round =>
    obtain ⟨k, hk, rfl, b1, own, R, ownm, zs, gg⟩ := hrel
    by_cases hlk : k < L.length
    · obtain ⟨s, hs⟩ : ∃ s, L[k]? = some s := ⟨L[k], List.getElem?_eq_getElem hlk⟩
      obtain ⟨v, hv, ov⟩ := R.get hs
      obtain ⟨g1', c1', e1, -, -⟩ := own_shape own (by omega)
      cases e1
      have hcv := own_val own k v hlk hv
      obtain ⟨hst, hcg⟩ := HS.out.step hs
      have hs7 := (HS.out.len7 s (List.mem_of_getElem? hs)).2
      have HT := hidI (slAll_take (c := c) hs)
      have hmv : mvTo (slAll c (L.take k)) s s.length = mvTo c s s.length := ((nbTo_congr hcg s.length (Nat.le_refl _)).2.2).symm
      have HM := hidI (show mvAll c (L.take (k + 1)) = mvAll c (L.take k) ++ mvTo (slAll c (L.take k)) s s.length from by rw [hmv]; exact mvAll_take hs)
      have hcl : (slAll c (L.take k)).length ≤ 36 := by rw [slAll_length]; exact h36
      have lo1 : w.heap.size ≤ B1 := by omega
      have hix := Tryd.ssix g1' L.length k3 k hlk
      obtain ⟨pv, nv, kv, rfl⟩ := own_slice ov
      have OV := hidI ov
      have hm252 := HML.out k hk
      have hmt : (mvTo (slAll c (L.take k)) s s.length).length ≤ 7 := by rw [mvTo_length]; have := nbTo_le (slAll c (L.take k)) s s.length; omega
      clear hs hv ov hcg hmv
      go_wp2_with fail
      refine (slide_any B1 w1.heap.size W H (slAll c (L.take k)) s _ _ b1 hst hcl OV.out hs7).mono ?_
      rintro e w5 ⟨b15, g5, mv5, rfl, om⟩
      obtain ⟨pm, nm, km, rfl⟩ := own_slice om
      obtain rfl := own_len om
      have own5 := g5.row own (.inr (own_ne own b1 (by decide)))
      have R5 := R.grbB b1 (by decide) g5
      have gg5 := g5.gr gg (fun x hx => by cases hx; exact lo1)
      have ownm5 := g5.row ownm (.inr (own_ne ownm b1 (by decide)))
      have z5 := g5.size
      rw [← HT.out] at b15
      obtain ⟨pq, nq, kq, rfl⟩ := own_slice ownm5
      obtain rfl := own_len ownm5
      go_wp2_with (refine r_append_any (.tmp 16) (.tmp 18) 34 3 _ 8 w3.heap.size Tryd.intsI (.slice pq (mvAll c (L.take k)).length kq) (mvAll c (L.take k)).length (intsV (mvAll c (L.take k))) rfl ownm5 pm _ km (intsV (mvTo (slAll c (L.take k)) s s.length)) rfl (Rd.of_own om) (intsV_one _) (by omega) (by decide) (by omega) rfl ?_; intro v6 w6 own6 g6)
      rw [intsV_append, ← HM.out] at own6
      have own7 : w6.ownsRow w3.heap.size 3 1 v6 (mvAll c (L.take (k + 1))).length (intsV (mvAll c (L.take (k + 1)))) := by
        have e : (mvAll c (L.take (k + 1))).length = (mvAll c (L.take k)).length + (mvTo (slAll c (L.take k)) s s.length).length := by rw [HM.out, List.length_append]
        rw [e]
        exact own6
      go_roundw
      case rel => exact ⟨k + 1, by omega, by go_num, g6.blk b15 (own_ne ownm5 b15 (by decide)), g6.row own5 (own_ne2 own5 ownm5 (by decide)), RowsK.grow5 R5 R0 HVL.out ownm5 g6 (Nat.le_refl _), own7, by have := g6.size; omega, g6.gr gg5 (own_gr ownm5 (by omega))⟩
      case measure => simp [intOf]; omega
    · obtain rfl : k = L.length := by omega
      rw [List.take_length] at ownm
      clear hlk
      go_wp2
      go_ret
      exact ⟨gg, _, rfl, own_up ownm (by omega)⟩
set_option maxHeartbeats 4000000 in
set_option maxRecDepth 100000 in
theorem tiMoves_any (g : Grid) (base d : Nat) (sl : Value) (w : World) (hg : Cel g) (hd : d < 4) (h1 : 0 < g.c.length) (hown0 : w.ownsRow base 5 1 sl g.c.length (cellsV g.c)) :
    Calls Tryd.prog 57 #[.agg (tg g.w g.h sl), .int .i64 d] w fun e w' => Gr w w' ∧ ∃ v, e = .returned v ∧ w'.ownsRow w.heap.size 3 1 v (mvAll g.c (strL g.w g.h g.c d)).length (intsV (mvAll g.c (strL g.w g.h g.c d))) := by
  have gg := Gr.refl w
  obtain ⟨G, cap, rfl, -, -⟩ := own_shape hown0 h1
  have hown := hown0
  have hS := hg.strs hd
  have w7 := hg.w7
  have h7 := hg.h7
  have n36 := hg.n36
  have hlen := hg.len
  have h36 : g.c.length ≤ 36 := by omega
  have hcells := hg.cells
  obtain ⟨W, hW⟩ : ∃ W, W = g.w := ⟨_, rfl⟩
  obtain ⟨H, hH⟩ : ∃ H, H = g.h := ⟨_, rfl⟩
  obtain ⟨c, hc⟩ : ∃ c, c = g.c := ⟨_, rfl⟩
  rw [← hW] at w7 n36 hlen hS ⊢
  rw [← hH] at h7 n36 hlen hS ⊢
  rw [← hc] at h1 hown hlen hcells h36 hS ⊢
  obtain ⟨L, hL⟩ : ∃ L, L = strL W H c d := ⟨_, rfl⟩
  rw [← hL] at hS ⊢
  have hsm := hS.small
  have HML := hidI (fun m (hm : m ≤ L.length) => (show (mvAll c (L.take m)).length ≤ 252 from by
    have := mvAll_len (c := c) (L := L.take m) (fun s hs => hS.len7 s (List.mem_of_mem_take hs))
    rw [List.length_take] at this
    omega))
  have HS := hidI hS
  have HLEN := hidI hlen
  have HCELLS := hidI hcells
  have HL := hidI hL
  clear hW hH hc hL hS hlen hcells hown0
  go_enter Tryd.func57, Tryd.ntmps57
  go_wp2_with (first | (refine r_box 46 _ (tg (W) (H) (.slice (some ⟨G, 0, none⟩) c.length cap)) rfl rfl ?_; intro w1 B1 N1; have g1 := N1.gr; have b1 : Blk w1 B1 (tg (W) (H) (.slice (some ⟨G, 0, none⟩) c.length cap)) 46 := N1.blk; have l1 := N1.lo; have t1 := N1.hi; have z1 := g1.size; have gg := gg.trans g1; clear N1; obtain ⟨b1_0, b1_1, b1_2⟩ := tcells b1) | (refine r_load_row 46 _ _ rfl _ _ _ b1 Tryd.underlying46 rfl Tryd.tinfo rfl ?_))
  refine (tiStretches_any W H base d c G cap _ hd w7 h7 h36 HLEN.out HCELLS.out (gg.row hown)).mono ?_
  rintro e w3 ⟨g3, sv, vs, rfl, own, R⟩
  rw [← HL.out] at own R
  rw [zzz_length] at own
  have hvl : vs.length = (zzz L).length := by have := own.1; rw [zzz_length]; omega
  have HVL := hidI hvl
  obtain ⟨p3, n3, k3, rfl⟩ := own_slice own
  obtain rfl : n3 = L.length := own_len own
  have b1 := g3.blk b1
  have gg := gg.trans g3
  have R0 := R
  have z3 := g3.size
  clear hvl
  go_wp2
  have ownm : w3.ownsRow w3.heap.size 3 1 (.slice none 0 0) (mvAll c (L.take 0)).length (intsV (mvAll c (L.take 0))) := World.ownsRow_nil _ _ _ _
  go_loopw [5, 15] (fun mv iv wr => ∃ m : Nat, m ≤ L.length ∧ iv = .int .i64 m ∧ Blk wr B1 (tg W H (.slice (some ⟨G, 0, none⟩) c.length cap)) 46 ∧ wr.ownsRow w1.heap.size 34 1 (.slice p3 L.length k3) L.length vs ∧ RowsK 3 w1.heap.size (zzz L) 1 0 vs wr ∧ wr.ownsRow w3.heap.size 3 1 mv (mvAll c (L.take m)).length (intsV (mvAll c (L.take m))) ∧ w3.heap.size ≤ wr.heap.size ∧ Gr w wr) (fun _ iv _ => L.length - (intOf iv).toNat)
  case atStart => exact ⟨0, Nat.zero_le _, rfl, b1, own, R, ownm, Nat.le_refl _, gg⟩
  case round =>
    obtain ⟨m, hm, rfl, b1, own, R, ownm, zs, gg⟩ := hrel
    by_cases hlm : m < L.length
    · obtain ⟨s, hs⟩ : ∃ s, L[m]? = some s := ⟨L[m], List.getElem?_eq_getElem hlm⟩
      obtain ⟨v, hv, ov⟩ := R.get hs
      obtain ⟨g1', c1', e1, -, -⟩ := own_shape own (by omega)
      cases e1
      have hcv := own_val own m v hlm hv
      have hsmm := List.mem_of_getElem? hs
      have hstr := HS.out.str s hsmm
      obtain ⟨hs1, hs7⟩ := HS.out.len7 s hsmm
      have HT1 := hidI (mvAll_take (c := c) hs)
      obtain ⟨gs, cs, rfl, -, -⟩ := own_shape ov hs1
      obtain ⟨q, hq⟩ : ∃ q, q = mvAll c (L.take m) := ⟨_, rfl⟩
      have hq252 : q.length ≤ 252 := by rw [hq]; exact HML.out m hm
      rw [← hq] at ownm HT1
      have HSTR := hidI hstr
      have hixv := Tryd.ssix g1' L.length k3 m hlm
      have HROW := hidI hs
      clear hs hv hsmm hq hstr ov
      go_wp2
      have ownm : wr.ownsRow w3.heap.size 3 1 u5 (q ++ mvTo c s 0).length (intsV (q ++ mvTo c s 0)) := by rw [show q ++ mvTo c s 0 = q from List.append_nil q]; exact ownm
      go_loopw [5, 8, 21] (fun mv kv jv wr => ∃ j : Nat, j ≤ s.length ∧ jv = .int .i64 j ∧ kv = .int .i64 (nbTo c s j : Nat) ∧ Blk wr B1 (tg W H (.slice (some ⟨G, 0, none⟩) c.length cap)) 46 ∧ wr.ownsRow w1.heap.size 34 1 (.slice (some ⟨g1', 0, none⟩) L.length k3) L.length vs ∧ RowsK 3 w1.heap.size (zzz L) 1 0 vs wr ∧ wr.ownsRow w3.heap.size 3 1 mv (q ++ mvTo c s j).length (intsV (q ++ mvTo c s j)) ∧ wr.cell? ⟨g1', m, none⟩ = some (.slice (some ⟨gs, 0, none⟩) s.length cs) ∧ w3.heap.size ≤ wr.heap.size ∧ Gr w wr) (fun _ _ jv _ => s.length - (intOf jv).toNat)
      case atStart => exact ⟨0, Nat.zero_le _, rfl, rfl, b1, own, R, ownm, hcv, zs, gg⟩
      case round =>
        obtain ⟨j, hj, rfl, rfl, b1, own, R, ownm, hcv, zs, gg⟩ := hrel
        have hnb := nbTo_le c s j
        obtain ⟨v', hv', ov⟩ := R.get HROW.out
        have e2 := own_val own m v' hlm hv'
        rw [hcv] at e2
        cases e2
        by_cases hlj : j < s.length
        · obtain ⟨x, hx⟩ : ∃ x, x = s.getD j 0 := ⟨_, rfl⟩
          have hcs := own_int ov j hlj (zz_length s).symm
          rw [zz_get hlj, ← hx] at hcs
          have hxl := HSTR.out.lt x (by rw [hx]; exact getD_mem hlj)
          have hcx := own_cell (gg.row hown) x hxl rfl
          have hix := Tryd.six0 G c.length cap x hxl
          obtain ⟨b1_0, b1_1, b1_2⟩ := tcells b1
          by_cases hb : isBallB (at0 c x) = true
          · have hb' : isBallB (at0 c (s.getD j 0)) = true := by rw [← hx]; exact hb
            obtain ⟨p, hp⟩ : ∃ p, p = nbTo c s j := ⟨_, rfl⟩
            have hml := mvTo_length c s j
            rw [← hp] at hnb hml
            have hql : (q ++ mvTo c s j).length ≤ 260 := by rw [List.length_append, hml]; omega
            have HST := hidI (show nbTo c s (j + 1) = p + 1 ∧ mvTo c s (j + 1) = mvTo c s j ++ [((j - p : Nat) : Int)] from ⟨by rw [nbTo, if_pos hb', hp], by rw [mvTo, if_pos hb', ← hp]⟩)
            have HB := hidI hb
            rw [← hp]
            clear hb hb' hx hp hml hv'
            go_wp2_with (first | (go_at_call 58; refine (tyBall_any _ _).mono ?_; rintro e wSame ⟨rfl, rfl⟩; rw [HB.out]) | (refine r_slice1 34 3 (.tmp 35) (.int .i64 ((j : Int) - (p : Int))) rfl (Tryd.bsi1 _ _) rfl ?_; intro w9 B9 N9; have g9 := N9.gr; have b1 := g9.blk b1; have own := g9.row own; have ownm := g9.row ownm; have R := R.gr g9; have hcv := g9.cell hcv; have gg := gg.trans g9; have z9 := g9.size) | (refine r_append (.tmp 32) (.tmp 36) 34 3 _ 1 8 w3.heap.size Tryd.intsI _ _ (intsV (q ++ mvTo c s j)) rfl ownm ⟨B9, 0, none⟩ 1 1 [.int .i64 ((j : Int) - (p : Int))] rfl rfl N9.cell1 (by intro u hu; simp at hu; subst hu; rfl) (by omega) (by decide) (by omega) rfl ?_; intro v10 w10 own10 g10))
            have ownA := g10.row own (own_ne2 own ownm (by decide))
            have hcvA : w10.cell? ⟨g1', m, none⟩ = some (.slice (some ⟨gs, 0, none⟩) s.length cs) := by
              obtain ⟨v2, hv2, -⟩ := R.get HROW.out
              have e3 := own_val own m v2 hlm hv2
              rw [hcv] at e3
              cases e3
              exact own_val ownA m _ hlm hv2
            have own11 : w10.ownsRow w3.heap.size 3 1 v10 (q ++ mvTo c s (j + 1)).length (intsV (q ++ mvTo c s (j + 1))) := by
              rw [HST.out.2, ← List.append_assoc, List.length_append, ← intsV_append]
              have e : intsV [((j - p : Nat) : Int)] = [.int .i64 ((j : Int) - (p : Int))] := by show [Value.int .i64 _] = _; congr 2; omega
              rw [e]
              exact own10
            go_roundw
            case rel => exact ⟨j + 1, by omega, by go_num, by (rw [HST.out.1]; go_num), g10.blk b1 (own_ne ownm b1 (by decide)), ownA, RowsK.grow5 R R0 HVL.out ownm g10 (Nat.le_refl _), own11, hcvA, by have := g10.size; omega, g10.gr gg (own_gr ownm (by omega))⟩
            case measure => simp [intOf]; omega
          · have hb' : ¬ isBallB (at0 c (s.getD j 0)) = true := by rw [← hx]; exact hb
            have HST := hidI (show nbTo c s (j + 1) = nbTo c s j ∧ mvTo c s (j + 1) = mvTo c s j from ⟨by rw [nbTo, if_neg hb']; rfl, by rw [mvTo, if_neg hb']⟩)
            have HB := hidI (show isBallB (at0 c x) = false from by simpa using hb)
            clear hb hb' hx hv'
            go_wp2_with (go_at_call 58; refine (tyBall_any _ _).mono ?_; rintro e wSame ⟨rfl, rfl⟩; rw [HB.out])
            go_roundw
            case rel => exact ⟨j + 1, by omega, by go_num, by rw [HST.out.1], b1, own, R, by rw [HST.out.2]; exact ownm, hcv, zs, gg⟩
            case measure => simp [intOf]; omega
        · obtain rfl : j = s.length := by omega
          rw [← HT1.out] at ownm
          clear hlj
          go_wp2
          go_roundw
          case rel => exact ⟨m + 1, by omega, by go_num, b1, own, R, ownm, zs, gg⟩
          case measure => simp [intOf]; omega
    · obtain rfl : m = L.length := by omega
      rw [List.take_length] at ownm
      clear hlm
      go_wp2
      go_ret
      exact ⟨gg, _, rfl, own_up ownm (by omega)⟩
/-- How many of the first k numbers are above 0. -/
def posTo (l : List Int) : Nat → Nat
  | 0 => 0
  | k + 1 => posTo l k + if 0 < gi l k then 1 else 0
theorem posTo_le (l : List Int) (k : Nat) : posTo l k ≤ k := by
  induction k with
  | zero => exact Nat.le_refl _
  | succ k ih => unfold posTo; split <;> omega
/-- The sum of the first k numbers, as the machine adds. -/
def sumTo (l : List Int) : Nat → Int
  | 0 => 0
  | k + 1 => wrap64 (sumTo l k + gi l k)
def mvL (l : List UInt8) (dir : ByteArray) : List Int := mvAll (rdG l).c (strL (rdG l).w (rdG l).h (rdG l).c (dS dir).toNat)
def mbN (l : List UInt8) (dir : ByteArray) : Nat := if dtOk l dir then posTo (mvL l dir) (mvL l dir).length else 0
def mcN (l : List UInt8) (dir : ByteArray) : Int := if dtOk l dir then sumTo (mvL l dir) (mvL l dir).length else 0
theorem mvL_eq {l : List UInt8} {dir : ByteArray} {g : Grid} {d : Nat} (hg : rdG l = g) (hd : dS dir = (d : Nat)) : mvL l dir = mvAll g.c (strL g.w g.h g.c d) := by unfold mvL; rw [hg, hd]; rfl
theorem mvL_le {g : Grid} {d : Nat} (hc : Cel g) (hd : d < 4) : (mvAll g.c (strL g.w g.h g.c d)).length ≤ 252 := by
  have h1 := mvAll_len (c := g.c) (hc.strs hd).len7
  have h2 := (hc.strs hd).small
  have h3 := hc.n36
  omega
theorem dS_dB {d : Nat} (h : d < 4) : dS ⟨#[dB d]⟩ = (d : Nat) := by
  rcases dB_cases h with ⟨rfl, e⟩ | ⟨rfl, e⟩ | ⟨rfl, e⟩ | ⟨rfl, e⟩ <;> rfl
set_option maxHeartbeats 1000000 in
set_option maxRecDepth 100000 in
theorem iMovedBalls (s dir : ByteArray) (w : World) (hm : ML w) (hs : s.size ≤ 1048576) : Calls Tryd.prog 28 #[.string s, .string dir] w (Ret (.tuple #[.int .i64 (mbN s.data.toList dir : Nat), .bool (dtOk s.data.toList dir)]) w) := by
  have gg := Gr.refl w
  rcases dt_cases s.data.toList dir with hn | ⟨g, d, hp, hg, hk, h4, e1, e2, hdo, hy⟩
  · have HV := hidI (show mbN s.data.toList dir = 0 from by unfold mbN; rw [hn] <;> rfl)
    have HN := hidI hn
    clear hn
    go_enter Tryd.func28, Tryd.ntmps28
    go_wp2_with (first | (go_at_call 45; refine (readTilt_no s dir _ (gg.ml hm) hs HN.out).mono ?_; rintro e w1 ⟨rfl, g1⟩; have z1 := g1.size; have gg := gg.trans g1) | (refine r_alloc 53 _ Tryd.gzero rfl ?_; intro w2 B2 N2; have g2 := N2.gr; have b2 : Blk w2 B2 (gv 0 0 []) 53 := N2.blk; have l2 := N2.lo; have t2 := N2.hi; have z2 := g2.size; have gg := gg.trans g2; clear N2; obtain ⟨b2_0, b2_1, b2_2⟩ := gcells b2) | (refine r_store_row 53 53 _ _ _ rfl (gv 0 0 []) _ rfl b2 (Tryd.gsize' _ _ _) (by simp only [gv_size]) (gv_one _ _ _) rfl ?_; intro w3 u3 b2'; have z3 := u3.size; have gg := u3.gr gg (by omega); clear b2; have b2 := b2'; clear b2'; obtain ⟨b2_0, b2_1, b2_2⟩ := gcells b2))
    go_ret2
    exact ⟨fin_nb (by rw [HV.out] <;> rfl) HN.out.symm, gg⟩
  · obtain ⟨hc, w1', h1', hl⟩ := cel_of hp
    have HC := hidI hc
    obtain ⟨l, hL⟩ : ∃ l, l = mvAll g.c (strL g.w g.h g.c d) := ⟨_, rfl⟩
    have hl252 : l.length ≤ 252 := by rw [hL]; exact mvL_le hc h4
    have HL := hidI hL
    have HML := hidI (show mvL s.data.toList dir = l from by rw [hL]; exact mvL_eq hg e2)
    have HY := hidI hy
    have HRT := hidI (fun w (hm : ML w) => readTilt_yes s dir g d w hm hs hg hk e1 hdo)
    clear hp hg hk e1 e2 hdo hc hl hL
    go_enter Tryd.func28, Tryd.ntmps28
    go_wp2_with (first | (go_at_call 45; refine (HRT.out _ (gg.ml hm)).mono ?_; rintro e w1 ⟨rfl, g1⟩; have z1 := g1.size; have gg := gg.trans g1) | (refine r_alloc 53 _ Tryd.gzero rfl ?_; intro w2 B2 N2; have g2 := N2.gr; have b2 : Blk w2 B2 (gv 0 0 []) 53 := N2.blk; have l2 := N2.lo; have t2 := N2.hi; have z2 := g2.size; have gg := gg.trans g2; clear N2; obtain ⟨b2_0, b2_1, b2_2⟩ := gcells b2) | (refine r_store_row 53 53 _ _ _ rfl (gv g.w g.h g.c) _ rfl b2 (Tryd.gsize' _ _ _) (by simp only [gv_size]) (gv_one _ _ _) rfl ?_; intro w3 u3 b2'; have z3 := u3.size; have gg := u3.gr gg (by omega); clear b2; have b2 := b2'; clear b2'; obtain ⟨b2_0, b2_1, b2_2⟩ := gcells b2) | (refine r_load_row 53 _ _ rfl _ _ _ b2 Tryd.underlying53 rfl (Tryd.ginfo' _ _ _) rfl ?_))
    refine (slidesIn_any g d _ HC.out h4).mono ?_
    rintro e w4 ⟨g4, v4, rfl, ownl⟩
    rw [← HL.out] at ownl
    have HV := hidI (show mbN s.data.toList dir = _ from by unfold mbN; rw [HY.out, HML.out] <;> rfl)
    have ownl := own_up ownl (show w.heap.size ≤ w3.heap.size by omega)
    have gg := gg.trans g4
    obtain ⟨pl, nl, kl, rfl⟩ := own_slice ownl
    obtain rfl := own_len ownl
    go_wp2
    go_loopw [9, 25] (fun nv iv wr => ∃ k : Nat, k ≤ l.length ∧ iv = .int .i64 k ∧ nv = .int .i64 (posTo l k : Nat) ∧ wr.ownsRow w.heap.size 3 1 (.slice pl l.length kl) l.length (intsV l) ∧ Gr w wr) (fun _ iv _ => l.length - (intOf iv).toNat)
    case atStart => exact ⟨0, Nat.zero_le _, rfl, rfl, ownl, gg⟩
    case round =>
      obtain ⟨k, hk, rfl, rfl, ownl, gg⟩ := hrel
      have hpl := posTo_le l k
      by_cases hlt : k < l.length
      · obtain ⟨gl, cl, e1, -, -⟩ := own_shape ownl (by omega)
        cases e1
        have hc := own_int ownl k hlt rfl
        obtain ⟨x, hx⟩ : ∃ x, x = gi l k := ⟨_, rfl⟩
        rw [← hx] at hc
        by_cases hb : 0 < x
        · have HST := hidI (show posTo l (k + 1) = posTo l k + 1 from by rw [posTo, ← hx, if_pos hb])
          clear hx
          go_wp2
          go_roundw
          case rel => exact ⟨k + 1, by omega, by go_num, by (rw [HST.out]; go_num), ownl, gg⟩
          case measure => simp [intOf]; omega
        · have HST := hidI (show posTo l (k + 1) = posTo l k from by rw [posTo, ← hx, if_neg hb]; rfl)
          clear hx
          go_wp2
          go_roundw
          case rel => exact ⟨k + 1, by omega, by go_num, by rw [HST.out], ownl, gg⟩
          case measure => simp [intOf]; omega
      · obtain rfl : k = l.length := by omega
        clear hlt
        go_wp2
        go_ret2
        exact ⟨fin_nb (by rw [HV.out] <;> rfl) HY.out.symm, gg⟩
set_option maxHeartbeats 1000000 in
set_option maxRecDepth 100000 in
theorem sMovedBalls (s dir : ByteArray) (w : World) (hs : s.size ≤ 1048576) : Calls Tryd.prog 27 #[.string s, .string dir] w (Ret (.tuple #[.int .i64 (mbN s.data.toList dir : Nat), .bool (dtOk s.data.toList dir)]) w) := by
  have gg := Gr.refl w
  go_enter Tryd.func27, Tryd.ntmps27
  go_wp2_with fail
  refine (tiRead_any s dir _ hs).mono ?_
  rintro e w1 ⟨g1, ⟨hn, W, H, sl, x, hone, rfl⟩ | ⟨g, sl, d, hp, h4, e1, hy, rfl, hown⟩⟩
  · have HV := hidI (show mbN s.data.toList dir = 0 from by unfold mbN; rw [hn] <;> rfl)
    have HN := hidI hn
    have gg := gg.trans g1
    have z1 := g1.size
    clear hn
    go_wp2_with (first | (refine r_alloc 46 _ Tryd.tzero rfl ?_; intro w2 B2 N2; have g2 := N2.gr; have b2 : Blk w2 B2 (tg 0 0 (.slice none 0 0)) 46 := N2.blk; have l2 := N2.lo; have t2 := N2.hi; have z2 := g2.size; have gg := gg.trans g2; clear N2; obtain ⟨b2_0, b2_1, b2_2⟩ := tcells b2) | (refine r_store_row 46 46 _ _ _ rfl (tg _ _ _) _ rfl b2 Tryd.tsize rfl (tg_one hone) rfl ?_; intro w3 u3 b2'; have z3 := u3.size; have gg := u3.gr gg (by omega); clear b2; have b2 := b2'; clear b2'; obtain ⟨b2_0, b2_1, b2_2⟩ := tcells b2))
    go_ret2
    exact ⟨fin_nb (by rw [HV.out] <;> rfl) HN.out.symm, gg⟩
  · obtain ⟨hc, w1', h1', hl⟩ := cel_of hp
    have hg := (rd_parse_some hp).1
    have HC := hidI hc
    obtain ⟨l, hL⟩ : ∃ l, l = mvAll g.c (strL g.w g.h g.c d) := ⟨_, rfl⟩
    have hl252 : l.length ≤ 252 := by rw [hL]; exact mvL_le hc h4
    have HL := hidI hL
    have HML := hidI (show mvL s.data.toList dir = l from by rw [hL]; exact mvL_eq hg (by rw [e1]; exact dS_dB h4))
    have HY := hidI hy
    have hone := own_one hown
    have gg := gg.trans g1
    have z1 := g1.size
    clear hp e1 hg hc hL
    go_wp2_with (first | (refine r_alloc 46 _ Tryd.tzero rfl ?_; intro w2 B2 N2; have g2 := N2.gr; have b2 : Blk w2 B2 (tg 0 0 (.slice none 0 0)) 46 := N2.blk; have l2 := N2.lo; have t2 := N2.hi; have z2 := g2.size; have gg := gg.trans g2; clear N2; obtain ⟨b2_0, b2_1, b2_2⟩ := tcells b2) | (refine r_store_row 46 46 _ _ _ rfl (tg _ _ _) _ rfl b2 Tryd.tsize rfl (tg_one hone) rfl ?_; intro w3 u3 b2'; have z3 := u3.size; have gg := u3.gr gg (by omega); clear b2; have b2 := b2'; clear b2'; obtain ⟨b2_0, b2_1, b2_2⟩ := tcells b2) | (refine r_load_row 46 _ _ rfl _ _ _ b2 Tryd.underlying46 rfl Tryd.tinfo rfl ?_))
    refine (tiMoves_any g w.heap.size d sl _ HC.out h4 hl (u3.row (g2.row hown) (own_new hown l2))).mono ?_
    rintro e w4 ⟨g4, v4, rfl, ownl⟩
    rw [← HL.out] at ownl
    have HV := hidI (show mbN s.data.toList dir = _ from by unfold mbN; rw [HY.out, HML.out] <;> rfl)
    have ownl := own_up ownl (show w.heap.size ≤ w3.heap.size by omega)
    have gg := gg.trans g4
    obtain ⟨pl, nl, kl, rfl⟩ := own_slice ownl
    obtain rfl := own_len ownl
    go_wp2
    go_loopw [9, 25] (fun nv iv wr => ∃ k : Nat, k ≤ l.length ∧ iv = .int .i64 k ∧ nv = .int .i64 (posTo l k : Nat) ∧ wr.ownsRow w.heap.size 3 1 (.slice pl l.length kl) l.length (intsV l) ∧ Gr w wr) (fun _ iv _ => l.length - (intOf iv).toNat)
    case atStart => exact ⟨0, Nat.zero_le _, rfl, rfl, ownl, gg⟩
    case round =>
      obtain ⟨k, hk, rfl, rfl, ownl, gg⟩ := hrel
      have hpl := posTo_le l k
      by_cases hlt : k < l.length
      · obtain ⟨gl, cl, e1, -, -⟩ := own_shape ownl (by omega)
        cases e1
        have hc := own_int ownl k hlt rfl
        obtain ⟨x, hx⟩ : ∃ x, x = gi l k := ⟨_, rfl⟩
        rw [← hx] at hc
        by_cases hb : 0 < x
        · have HST := hidI (show posTo l (k + 1) = posTo l k + 1 from by rw [posTo, ← hx, if_pos hb])
          clear hx
          go_wp2
          go_roundw
          case rel => exact ⟨k + 1, by omega, by go_num, by (rw [HST.out]; go_num), ownl, gg⟩
          case measure => simp [intOf]; omega
        · have HST := hidI (show posTo l (k + 1) = posTo l k from by rw [posTo, ← hx, if_neg hb]; rfl)
          clear hx
          go_wp2
          go_roundw
          case rel => exact ⟨k + 1, by omega, by go_num, by rw [HST.out], ownl, gg⟩
          case measure => simp [intOf]; omega
      · obtain rfl : k = l.length := by omega
        clear hlt
        go_wp2
        go_ret2
        exact ⟨fin_nb (by rw [HV.out] <;> rfl) HY.out.symm, gg⟩
set_option maxHeartbeats 1000000 in
set_option maxRecDepth 100000 in
theorem iMovedCells (s dir : ByteArray) (w : World) (hm : ML w) (hs : s.size ≤ 1048576) : Calls Tryd.prog 30 #[.string s, .string dir] w (Ret (.tuple #[.int .i64 (mcN s.data.toList dir), .bool (dtOk s.data.toList dir)]) w) := by
  have gg := Gr.refl w
  rcases dt_cases s.data.toList dir with hn | ⟨g, d, hp, hg, hk, h4, e1, e2, hdo, hy⟩
  · have HV := hidI (show mcN s.data.toList dir = 0 from by unfold mcN; rw [hn] <;> rfl)
    have HN := hidI hn
    clear hn
    go_enter Tryd.func30, Tryd.ntmps30
    go_wp2_with (first | (go_at_call 45; refine (readTilt_no s dir _ (gg.ml hm) hs HN.out).mono ?_; rintro e w1 ⟨rfl, g1⟩; have z1 := g1.size; have gg := gg.trans g1) | (refine r_alloc 53 _ Tryd.gzero rfl ?_; intro w2 B2 N2; have g2 := N2.gr; have b2 : Blk w2 B2 (gv 0 0 []) 53 := N2.blk; have l2 := N2.lo; have t2 := N2.hi; have z2 := g2.size; have gg := gg.trans g2; clear N2; obtain ⟨b2_0, b2_1, b2_2⟩ := gcells b2) | (refine r_store_row 53 53 _ _ _ rfl (gv 0 0 []) _ rfl b2 (Tryd.gsize' _ _ _) (by simp only [gv_size]) (gv_one _ _ _) rfl ?_; intro w3 u3 b2'; have z3 := u3.size; have gg := u3.gr gg (by omega); clear b2; have b2 := b2'; clear b2'; obtain ⟨b2_0, b2_1, b2_2⟩ := gcells b2))
    go_ret2
    exact ⟨fin_nb (by rw [HV.out] <;> rfl) HN.out.symm, gg⟩
  · obtain ⟨hc, w1', h1', hl⟩ := cel_of hp
    have HC := hidI hc
    obtain ⟨l, hL⟩ : ∃ l, l = mvAll g.c (strL g.w g.h g.c d) := ⟨_, rfl⟩
    have hl252 : l.length ≤ 252 := by rw [hL]; exact mvL_le hc h4
    have HL := hidI hL
    have HML := hidI (show mvL s.data.toList dir = l from by rw [hL]; exact mvL_eq hg e2)
    have HY := hidI hy
    have HRT := hidI (fun w (hm : ML w) => readTilt_yes s dir g d w hm hs hg hk e1 hdo)
    clear hp hg hk e1 e2 hdo hc hl hL
    go_enter Tryd.func30, Tryd.ntmps30
    go_wp2_with (first | (go_at_call 45; refine (HRT.out _ (gg.ml hm)).mono ?_; rintro e w1 ⟨rfl, g1⟩; have z1 := g1.size; have gg := gg.trans g1) | (refine r_alloc 53 _ Tryd.gzero rfl ?_; intro w2 B2 N2; have g2 := N2.gr; have b2 : Blk w2 B2 (gv 0 0 []) 53 := N2.blk; have l2 := N2.lo; have t2 := N2.hi; have z2 := g2.size; have gg := gg.trans g2; clear N2; obtain ⟨b2_0, b2_1, b2_2⟩ := gcells b2) | (refine r_store_row 53 53 _ _ _ rfl (gv g.w g.h g.c) _ rfl b2 (Tryd.gsize' _ _ _) (by simp only [gv_size]) (gv_one _ _ _) rfl ?_; intro w3 u3 b2'; have z3 := u3.size; have gg := u3.gr gg (by omega); clear b2; have b2 := b2'; clear b2'; obtain ⟨b2_0, b2_1, b2_2⟩ := gcells b2) | (refine r_load_row 53 _ _ rfl _ _ _ b2 Tryd.underlying53 rfl (Tryd.ginfo' _ _ _) rfl ?_))
    refine (slidesIn_any g d _ HC.out h4).mono ?_
    rintro e w4 ⟨g4, v4, rfl, ownl⟩
    rw [← HL.out] at ownl
    have HV := hidI (show mcN s.data.toList dir = _ from by unfold mcN; rw [HY.out, HML.out] <;> rfl)
    have ownl := own_up ownl (show w.heap.size ≤ w3.heap.size by omega)
    have gg := gg.trans g4
    obtain ⟨pl, nl, kl, rfl⟩ := own_slice ownl
    obtain rfl := own_len ownl
    go_wp2
    go_loopw [9, 25] (fun nv iv wr => ∃ k : Nat, k ≤ l.length ∧ iv = .int .i64 k ∧ nv = .int .i64 (sumTo l k) ∧ wr.ownsRow w.heap.size 3 1 (.slice pl l.length kl) l.length (intsV l) ∧ Gr w wr) (fun _ iv _ => l.length - (intOf iv).toNat)
    case atStart => exact ⟨0, Nat.zero_le _, rfl, rfl, ownl, gg⟩
    case round =>
      obtain ⟨k, hk, rfl, rfl, ownl, gg⟩ := hrel
      by_cases hlt : k < l.length
      · obtain ⟨gl, cl, e1, -, -⟩ := own_shape ownl (by omega)
        cases e1
        have hc := own_int ownl k hlt rfl
        have HST := hidI (show sumTo l (k + 1) = wrap64 (sumTo l k + gi l k) from rfl)
        generalize gi l k = x at *
        generalize sumTo l k = y at *
        go_wp2
        go_roundw
        case rel => exact ⟨k + 1, by omega, by go_num, by (rw [HST.out]), ownl, gg⟩
        case measure => simp [intOf]; omega
      · obtain rfl : k = l.length := by omega
        clear hlt
        go_wp2
        go_ret2
        exact ⟨fin_nb (by rw [HV.out] <;> rfl) HY.out.symm, gg⟩
set_option maxHeartbeats 1000000 in
set_option maxRecDepth 100000 in
theorem sMovedCells (s dir : ByteArray) (w : World) (hs : s.size ≤ 1048576) : Calls Tryd.prog 29 #[.string s, .string dir] w (Ret (.tuple #[.int .i64 (mcN s.data.toList dir), .bool (dtOk s.data.toList dir)]) w) := by
  have gg := Gr.refl w
  go_enter Tryd.func29, Tryd.ntmps29
  go_wp2_with fail
  refine (tiRead_any s dir _ hs).mono ?_
  rintro e w1 ⟨g1, ⟨hn, W, H, sl, x, hone, rfl⟩ | ⟨g, sl, d, hp, h4, e1, hy, rfl, hown⟩⟩
  · have HV := hidI (show mcN s.data.toList dir = 0 from by unfold mcN; rw [hn] <;> rfl)
    have HN := hidI hn
    have gg := gg.trans g1
    have z1 := g1.size
    clear hn
    go_wp2_with (first | (refine r_alloc 46 _ Tryd.tzero rfl ?_; intro w2 B2 N2; have g2 := N2.gr; have b2 : Blk w2 B2 (tg 0 0 (.slice none 0 0)) 46 := N2.blk; have l2 := N2.lo; have t2 := N2.hi; have z2 := g2.size; have gg := gg.trans g2; clear N2; obtain ⟨b2_0, b2_1, b2_2⟩ := tcells b2) | (refine r_store_row 46 46 _ _ _ rfl (tg _ _ _) _ rfl b2 Tryd.tsize rfl (tg_one hone) rfl ?_; intro w3 u3 b2'; have z3 := u3.size; have gg := u3.gr gg (by omega); clear b2; have b2 := b2'; clear b2'; obtain ⟨b2_0, b2_1, b2_2⟩ := tcells b2))
    go_ret2
    exact ⟨fin_nb (by rw [HV.out] <;> rfl) HN.out.symm, gg⟩
  · obtain ⟨hc, w1', h1', hl⟩ := cel_of hp
    have hg := (rd_parse_some hp).1
    have HC := hidI hc
    obtain ⟨l, hL⟩ : ∃ l, l = mvAll g.c (strL g.w g.h g.c d) := ⟨_, rfl⟩
    have hl252 : l.length ≤ 252 := by rw [hL]; exact mvL_le hc h4
    have HL := hidI hL
    have HML := hidI (show mvL s.data.toList dir = l from by rw [hL]; exact mvL_eq hg (by rw [e1]; exact dS_dB h4))
    have HY := hidI hy
    have hone := own_one hown
    have gg := gg.trans g1
    have z1 := g1.size
    clear hp e1 hg hc hL
    go_wp2_with (first | (refine r_alloc 46 _ Tryd.tzero rfl ?_; intro w2 B2 N2; have g2 := N2.gr; have b2 : Blk w2 B2 (tg 0 0 (.slice none 0 0)) 46 := N2.blk; have l2 := N2.lo; have t2 := N2.hi; have z2 := g2.size; have gg := gg.trans g2; clear N2; obtain ⟨b2_0, b2_1, b2_2⟩ := tcells b2) | (refine r_store_row 46 46 _ _ _ rfl (tg _ _ _) _ rfl b2 Tryd.tsize rfl (tg_one hone) rfl ?_; intro w3 u3 b2'; have z3 := u3.size; have gg := u3.gr gg (by omega); clear b2; have b2 := b2'; clear b2'; obtain ⟨b2_0, b2_1, b2_2⟩ := tcells b2) | (refine r_load_row 46 _ _ rfl _ _ _ b2 Tryd.underlying46 rfl Tryd.tinfo rfl ?_))
    refine (tiMoves_any g w.heap.size d sl _ HC.out h4 hl (u3.row (g2.row hown) (own_new hown l2))).mono ?_
    rintro e w4 ⟨g4, v4, rfl, ownl⟩
    rw [← HL.out] at ownl
    have HV := hidI (show mcN s.data.toList dir = _ from by unfold mcN; rw [HY.out, HML.out] <;> rfl)
    have ownl := own_up ownl (show w.heap.size ≤ w3.heap.size by omega)
    have gg := gg.trans g4
    obtain ⟨pl, nl, kl, rfl⟩ := own_slice ownl
    obtain rfl := own_len ownl
    go_wp2
    go_loopw [9, 25] (fun nv iv wr => ∃ k : Nat, k ≤ l.length ∧ iv = .int .i64 k ∧ nv = .int .i64 (sumTo l k) ∧ wr.ownsRow w.heap.size 3 1 (.slice pl l.length kl) l.length (intsV l) ∧ Gr w wr) (fun _ iv _ => l.length - (intOf iv).toNat)
    case atStart => exact ⟨0, Nat.zero_le _, rfl, rfl, ownl, gg⟩
    case round =>
      obtain ⟨k, hk, rfl, rfl, ownl, gg⟩ := hrel
      by_cases hlt : k < l.length
      · obtain ⟨gl, cl, e1, -, -⟩ := own_shape ownl (by omega)
        cases e1
        have hc := own_int ownl k hlt rfl
        have HST := hidI (show sumTo l (k + 1) = wrap64 (sumTo l k + gi l k) from rfl)
        generalize gi l k = x at *
        generalize sumTo l k = y at *
        go_wp2
        go_roundw
        case rel => exact ⟨k + 1, by omega, by go_num, by (rw [HST.out]), ownl, gg⟩
        case measure => simp [intOf]; omega
      · obtain rfl : k = l.length := by omega
        clear hlt
        go_wp2
        go_ret2
        exact ⟨fin_nb (by rw [HV.out] <;> rfl) HY.out.symm, gg⟩
set_option maxHeartbeats 1000000 in
theorem lawMovedBalls (s t : ByteArray) (w : World) (hm : ML w) : Calls Tryd.prog 8 #[.string s, .string t] w (Ret (.bool true) w) := by
  have gg := Gr.refl w
  by_cases hs : 1048576 < s.size
  · go_enter Tryd.func8, Tryd.ntmps8
    go_wp2
    go_ret
    exact ⟨rfl, gg⟩
  · have hs' : s.size ≤ 1048576 := by omega
    clear hs
    by_cases hc : 1048576 < t.size
    · go_enter Tryd.func8, Tryd.ntmps8
      go_wp2
      go_ret
      exact ⟨rfl, gg⟩
    · have hc' : t.size ≤ 1048576 := by omega
      clear hc
      go_enter Tryd.func8, Tryd.ntmps8
      go_wp2_with (first | (go_at_call 27; refine (sMovedBalls s t _ hs').mono ?_; rintro e w1 ⟨rfl, g1⟩; have z1 := g1.size; have gg := gg.trans g1) | (go_at_call 28; refine (iMovedBalls s t _ (gg.ml hm) hs').mono ?_; rintro e w2 ⟨rfl, g2⟩; have z2 := g2.size; have gg := gg.trans g2))
      go_ret
      exact ⟨rfl, gg⟩
set_option maxHeartbeats 1000000 in
theorem lawMovedCells (s t : ByteArray) (w : World) (hm : ML w) : Calls Tryd.prog 9 #[.string s, .string t] w (Ret (.bool true) w) := by
  have gg := Gr.refl w
  by_cases hs : 1048576 < s.size
  · go_enter Tryd.func9, Tryd.ntmps9
    go_wp2
    go_ret
    exact ⟨rfl, gg⟩
  · have hs' : s.size ≤ 1048576 := by omega
    clear hs
    by_cases hc : 1048576 < t.size
    · go_enter Tryd.func9, Tryd.ntmps9
      go_wp2
      go_ret
      exact ⟨rfl, gg⟩
    · have hc' : t.size ≤ 1048576 := by omega
      clear hc
      go_enter Tryd.func9, Tryd.ntmps9
      go_wp2_with (first | (go_at_call 29; refine (sMovedCells s t _ hs').mono ?_; rintro e w1 ⟨rfl, g1⟩; have z1 := g1.size; have gg := gg.trans g1) | (go_at_call 30; refine (iMovedCells s t _ (gg.ml hm) hs').mono ?_; rintro e w2 ⟨rfl, g2⟩; have z2 := g2.size; have gg := gg.trans g2))
      go_ret
      exact ⟨rfl, gg⟩
end Go.Proofs.YtppjlcmfmbpkjaaDoor
