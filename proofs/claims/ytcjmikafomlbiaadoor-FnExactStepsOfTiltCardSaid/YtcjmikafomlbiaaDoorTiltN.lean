/-
  How far the balls of a tray move when it is tilted: in the program and in the model, and the laws.
-/
import Derived.Test.YtcjmikafomlbiaaDoorTiltV
namespace Go.Proofs.YtcjmikafomlbiaaDoor
open Go.RowKit
def mvAll (c : List UInt8) (L : List (List Nat)) : List Int := (L.map fun s => mvTo c s s.length).flatten
theorem mvAll_take {c : List UInt8} {L : List (List Nat)} {k : Nat} {s : List Nat} (h : L[k]? = some s) : mvAll c (L.take (k + 1)) = mvAll c (L.take k) ++ mvTo c s s.length := by
  unfold mvAll
  rw [List.take_add_one, h]
  simp
theorem mvAll_len {c : List UInt8} {L : List (List Nat)} (h : ∀ s ∈ L, 0 < s.length ∧ s.length ≤ 7) : (mvAll c L).length ≤ 7 * L.length := by
  induction L with
  | nil => exact Nat.le_refl _
  | cons s L ih =>
    have h1 := ih (fun t ht => h t (by simp [ht]))
    have h2 := (h s (by simp)).2
    have h3 := mvTo_length c s s.length
    have h4 := nbTo_le c s s.length
    have e : mvAll c (s :: L) = mvTo c s s.length ++ mvAll c L := by unfold mvAll; simp
    rw [e, List.length_append, List.length_cons]
    omega
theorem intsV_length (L : List Int) : (intsV L).length = L.length := by simp [intsV]
set_option maxHeartbeats 4000000 in
set_option maxRecDepth 100000 in
theorem slidesIn_any (g : Grid) (d : Nat) (w : World) (hg : Cel g) (hd : d < 4) :
    Calls Tryd.prog 35 #[.agg (gvG g), .int .u8 (dB d).toNat] w fun e w' => Gr w w' ∧ ∃ v, e = .returned v ∧ w'.ownsRow w.heap.size 3 1 v (mvAll g.c (strL g.w g.h g.c d)).length (intsV (mvAll g.c (strL g.w g.h g.c d))) := by
  have gg := Gr.refl w
  have hS := hg.strs hd
  have w7 := hg.w7
  have h7 := hg.h7
  have n36 := hg.n36
  have hlen := hg.len
  have hcells := hg.cells
  unfold gvG
  obtain ⟨W, hW⟩ : ∃ W, W = g.w := ⟨_, rfl⟩
  obtain ⟨H, hH⟩ : ∃ H, H = g.h := ⟨_, rfl⟩
  obtain ⟨c, hc⟩ : ∃ c, c = g.c := ⟨_, rfl⟩
  rw [← hW] at w7 n36 hlen hS ⊢
  rw [← hH] at h7 n36 hlen hS ⊢
  rw [← hc] at hlen hcells hS ⊢
  have h36 : c.length ≤ 36 := by omega
  obtain ⟨L, hL⟩ : ∃ L, L = strL W H c d := ⟨_, rfl⟩
  rw [← hL] at hS ⊢
  have hml := mvAll_len (c := c) hS.len7
  have hsm := hS.small
  have HML := hidI (fun m (hm : m ≤ L.length) => (show (mvAll c (L.take m)).length ≤ 252 from by
    have := mvAll_len (c := c) (L := L.take m) (fun s hs => hS.len7 s (List.mem_of_mem_take hs))
    rw [List.length_take] at this
    omega))
  have HS := hidI hS
  have HLEN := hidI hlen
  have HCELLS := hidI hcells
  have HL := hidI hL
  clear hW hH hc hL hS hlen hcells hml
  go_enter Tryd.func35, Tryd.ntmps35
  go_wp2_with (first | (refine r_box 38 _ (gv W H c) rfl rfl ?_; intro w1 B1 N1; have g1 := N1.gr; have b1 : Blk w1 B1 (gv W H c) 38 := N1.blk; have l1 := N1.lo; have t1 := N1.hi; have z1 := g1.size; have gg := gg.trans g1; clear N1; obtain ⟨b1_0, b1_1, b1_2⟩ := gcells b1) | (refine r_load_row 38 _ _ rfl _ _ _ b1 Tryd.underlying38 rfl (Tryd.ginfo' _ _ _) rfl ?_))
  refine (stretches_any W H d c _ hd w7 h7 n36 HLEN.out HCELLS.out).mono ?_
  rintro e w3 ⟨g3, sv, vs, rfl, own, R⟩
  rw [← HL.out] at own R
  rw [zzz_length] at own
  have hvl : vs.length = (zzz L).length := by have := own.1; rw [zzz_length]; omega
  have HVL := hidI hvl
  obtain ⟨p3, n3, k3, rfl⟩ := own_slice own
  obtain rfl : n3 = L.length := own_len own
  have b1 := g3.blk b1
  have gg := gg.trans g3
  have R0 := R
  have z3 := g3.size
  clear hvl
  go_wp2
  have ownm : w3.ownsRow w3.heap.size 3 1 (.slice none 0 0) (mvAll c (L.take 0)).length (intsV (mvAll c (L.take 0))) := World.ownsRow_nil _ _ _ _
  go_loopw [5, 12] (fun mv iv wr => ∃ k : Nat, k ≤ L.length ∧ iv = .int .i64 k ∧ Blk wr B1 (gv W H (slAll c (L.take k))) 38 ∧ wr.ownsRow w1.heap.size 45 1 (.slice p3 L.length k3) L.length vs ∧ RowsK 3 w1.heap.size (zzz L) 1 0 vs wr ∧ wr.ownsRow w3.heap.size 3 1 mv (mvAll c (L.take k)).length (intsV (mvAll c (L.take k))) ∧ w3.heap.size ≤ wr.heap.size ∧ Gr w wr) (fun _ iv _ => L.length - (intOf iv).toNat)
  case atStart => exact ⟨0, Nat.zero_le _, rfl, b1, own, R, ownm, Nat.le_refl _, gg⟩
  case round =>
    obtain ⟨k, hk, rfl, b1, own, R, ownm, zs, gg⟩ := hrel
    by_cases hlk : k < L.length
    · obtain ⟨s, hs⟩ : ∃ s, L[k]? = some s := ⟨L[k], List.getElem?_eq_getElem hlk⟩
      obtain ⟨v, hv, ov⟩ := R.get hs
      obtain ⟨g1', c1', e1, -, -⟩ := own_shape own (by omega)
      cases e1
      have hcv := own_val own k v hlk hv
      obtain ⟨hst, hcg⟩ := HS.out.step hs
      have hs7 := (HS.out.len7 s (List.mem_of_getElem? hs)).2
      have HT := hidI (slAll_take (c := c) hs)
      have hmv : mvTo (slAll c (L.take k)) s s.length = mvTo c s s.length := ((nbTo_congr hcg s.length (Nat.le_refl _)).2.2).symm
      have HM := hidI (show mvAll c (L.take (k + 1)) = mvAll c (L.take k) ++ mvTo (slAll c (L.take k)) s s.length from by rw [hmv]; exact mvAll_take hs)
      have hcl : (slAll c (L.take k)).length ≤ 36 := by rw [slAll_length]; exact h36
      have lo1 : w.heap.size ≤ B1 := by omega
      have hix := Tryd.ssix g1' L.length k3 k hlk
      obtain ⟨pv, nv, kv, rfl⟩ := own_slice ov
      have OV := hidI ov
      have hm252 := HML.out k hk
      have hmt : (mvTo (slAll c (L.take k)) s s.length).length ≤ 7 := by rw [mvTo_length]; have := nbTo_le (slAll c (L.take k)) s s.length; omega
      clear hs hv ov hcg hmv
      go_wp2_with fail
      refine (slide_any B1 w1.heap.size W H (slAll c (L.take k)) s _ _ b1 hst hcl OV.out hs7).mono ?_
      rintro e w5 ⟨b15, g5, mv5, rfl, om⟩
      obtain ⟨pm, nm, km, rfl⟩ := own_slice om
      obtain rfl := own_len om
      have own5 := g5.row own (.inr (own_ne own b1 (by decide)))
      have R5 := R.grbB b1 (by decide) g5
      have gg5 := g5.gr gg (fun x hx => by cases hx; exact lo1)
      have ownm5 := g5.row ownm (.inr (own_ne ownm b1 (by decide)))
      have z5 := g5.size
      rw [← HT.out] at b15
      obtain ⟨pq, nq, kq, rfl⟩ := own_slice ownm5
      obtain rfl := own_len ownm5
      go_wp2_with (refine r_append_any (.tmp 16) (.tmp 18) 45 3 _ 8 w3.heap.size Tryd.intsI (.slice pq (mvAll c (L.take k)).length kq) (mvAll c (L.take k)).length (intsV (mvAll c (L.take k))) rfl ownm5 pm _ km (intsV (mvTo (slAll c (L.take k)) s s.length)) rfl (Rd.of_own om) (intsV_one _) (by omega) (by decide) (by omega) rfl ?_; intro v6 w6 own6 g6)
      rw [intsV_append, ← HM.out] at own6
      have own7 : w6.ownsRow w3.heap.size 3 1 v6 (mvAll c (L.take (k + 1))).length (intsV (mvAll c (L.take (k + 1)))) := by
        have e : (mvAll c (L.take (k + 1))).length = (mvAll c (L.take k)).length + (mvTo (slAll c (L.take k)) s s.length).length := by rw [HM.out, List.length_append]
        rw [e]
        exact own6
      go_roundw
      case rel => exact ⟨k + 1, by omega, by go_num, g6.blk b15 (own_ne ownm5 b15 (by decide)), g6.row own5 (own_ne2 own5 ownm5 (by decide)), RowsK.grow5 R5 R0 HVL.out ownm5 g6 (Nat.le_refl _), own7, by have := g6.size; omega, g6.gr gg5 (own_gr ownm5 (by omega))⟩
      case measure => simp [intOf]; omega
    · obtain rfl : k = L.length := by omega
      rw [List.take_length] at ownm
      clear hlk
      go_wp2
      go_ret
      exact ⟨gg, _, rfl, own_up ownm (by omega)⟩
/-- How many of the first k numbers are above 0. -/
def posTo (l : List Int) : Nat → Nat
  | 0 => 0
  | k + 1 => posTo l k + if 0 < gi l k then 1 else 0
theorem posTo_le (l : List Int) (k : Nat) : posTo l k ≤ k := by
  induction k with
  | zero => exact Nat.le_refl _
  | succ k ih => unfold posTo; split <;> omega
/-- The sum of the first k numbers, as the machine adds. -/
def sumTo (l : List Int) : Nat → Int
  | 0 => 0
  | k + 1 => wrap64 (sumTo l k + gi l k)
def mvL (l : List UInt8) (dir : ByteArray) : List Int := mvAll (rdG l).c (strL (rdG l).w (rdG l).h (rdG l).c (dS dir).toNat)
def mbN (l : List UInt8) (dir : ByteArray) : Nat := if dtOk l dir then posTo (mvL l dir) (mvL l dir).length else 0
def mcN (l : List UInt8) (dir : ByteArray) : Int := if dtOk l dir then sumTo (mvL l dir) (mvL l dir).length else 0
theorem mvL_eq {l : List UInt8} {dir : ByteArray} {g : Grid} {d : Nat} (hg : rdG l = g) (hd : dS dir = (d : Nat)) : mvL l dir = mvAll g.c (strL g.w g.h g.c d) := by unfold mvL; rw [hg, hd]; rfl
theorem mvL_le {g : Grid} {d : Nat} (hc : Cel g) (hd : d < 4) : (mvAll g.c (strL g.w g.h g.c d)).length ≤ 252 := by
  have h1 := mvAll_len (c := g.c) (hc.strs hd).len7
  have h2 := (hc.strs hd).small
  have h3 := hc.n36
  omega
theorem dS_dB {d : Nat} (h : d < 4) : dS ⟨#[dB d]⟩ = (d : Nat) := by
  rcases dB_cases h with ⟨rfl, e⟩ | ⟨rfl, e⟩ | ⟨rfl, e⟩ | ⟨rfl, e⟩ <;> rfl
end Go.Proofs.YtcjmikafomlbiaaDoor
