/-
  Lists of numbers: copied by the laws, looked through and cut by the model.
-/
import Derived.Test.YtcjmikafomlbiaaGreatDoorGateK
import Derived.Test.YtcjmikafomlbiaaGreatDoorBLa
namespace Go.Proofs.YtcjmikafomlbiaaGreatDoor
open Go.RowKit
theorem set_mid (A B : List Int) (y x : Int) : (A ++ y :: B).set A.length x = A ++ x :: B := by
  induction A with
  | nil => rfl
  | cons a A ih => rw [List.cons_append, List.length_cons, List.set_cons_succ, ih]; rfl
def cpL (L : List Int) (k : Nat) : List Int := L.take k ++ List.replicate (L.length - k) 0
theorem cpL_length (L : List Int) {k : Nat} (hk : k ≤ L.length) : (cpL L k).length = L.length := by unfold cpL; rw [List.length_append, List.length_take, List.length_replicate]; omega
theorem cpL_zero (L : List Int) : cpL L 0 = List.replicate L.length 0 := by unfold cpL; simp
theorem cpL_all (L : List Int) : cpL L L.length = L := by unfold cpL; simp
theorem take_gi {L : List Int} {k : Nat} (h : k < L.length) : L.take (k + 1) = L.take k ++ [gi L k] := by
  rw [List.take_succ_eq_append_getElem h]
  unfold gi
  rw [List.getD_eq_getElem?_getD, List.getElem?_eq_getElem h]
  rfl
theorem cpL_set {L : List Int} {k : Nat} (h : k < L.length) : (cpL L k).set k (gi L k) = cpL L (k + 1) := by
  unfold cpL
  obtain ⟨m, hm⟩ : ∃ m, L.length - k = m + 1 := ⟨L.length - k - 1, by omega⟩
  rw [hm, List.replicate_succ, take_gi h, show L.length - (k + 1) = m by omega, List.append_assoc]
  have hl : (L.take k).length = k := by rw [List.length_take]; omega
  conv => lhs; rw [← hl]
  rw [hl]
  have := set_mid (L.take k) (List.replicate m 0) 0 (gi L k)
  rw [hl] at this
  exact this
theorem own_zerosG {w w1 : World} {B n : Nat} {T : TypeId} (N : New w w1 B (madeCells (Value.int .i64 0).cells (n * 1)) T) (hn : n ≤ 1073741824) : w1.ownsRow w.heap.size T 1 (.slice (some ⟨B, 0, none⟩) n n) n (intsV (List.replicate n 0)) := by
  refine ⟨by simp [intsV], .inr ⟨B, n, _, rfl, N.lo, N.blk, Nat.le_refl _, by unfold maxLen; omega, size_madeCells _ _, ?_⟩⟩
  apply List.ext_getElem?
  intro i
  by_cases hi : i < n
  · rw [List.getElem?_take, if_pos (by omega)]
    unfold madeCells intsV
    simp [hi]
    have e : (Value.int .i64 0).cells = #[Value.int .i64 0] := rfl
    rw [e]
    simp [Nat.mod_one]
  · rw [List.getElem?_eq_none (by simp; omega), List.getElem?_eq_none (by simp [intsV]; omega)]
theorem own_cutG {w : World} {base : Nat} {e : TypeId} {g n cap q : Nat} {L : List Int} (h : w.ownsRow base e 1 (.slice (some ⟨g, 0, none⟩) n cap) n (intsV L)) (hq : q ≤ n) : w.ownsRow base e 1 (.slice (some ⟨g, 0, none⟩) q cap) q (intsV (L.take q)) := by
  obtain ⟨h1, ⟨h', _⟩ | ⟨g', cap', cur, h', hb, hg, hnc, hcm, hcs, ht⟩⟩ := h
  · cases h'
  · simp only [Value.slice.injEq, Option.some.injEq, Addr.mk.injEq, and_true, true_and] at h'
    obtain ⟨rfl, rfl⟩ := h'
    have e1 : intsV (L.take q) = (intsV L).take q := by unfold intsV; rw [List.map_take]
    refine ⟨by rw [e1, List.length_take, h1]; omega, .inr ⟨g, cap, cur, rfl, hb, hg, by omega, hcm, hcs, ?_⟩⟩
    rw [e1, ← ht, List.take_take, Nat.mul_one, Nat.mul_one, Nat.min_eq_left hq]
set_option maxHeartbeats 1000000 in
set_option maxRecDepth 100000 in
theorem toInts_any (p : Option Addr) (c : Nat) (L : List Int) (w : World) (hr : Rd w p L.length (intsV L)) (hl : L.length ≤ 1048576) :
    Calls Tryz.prog 7 #[.slice p L.length c] w fun e w' => Gr w w' ∧ ∃ v, e = .returned v ∧ w'.ownsRow w.heap.size 3 1 v L.length (intsV L) := by
  have gg := Gr.refl w
  have HZ := hidI (cpL_zero L)
  have HE := hidI (cpL_all L)
  have HS := hidI (fun k (hk : k < L.length) => cpL_set hk)
  have HG := hidI (fun k (hk : k < L.length) => intsV_getM L k hk)
  obtain ⟨n, hn⟩ : ∃ n, n = L.length := ⟨_, rfl⟩
  rw [← hn] at hr hl HZ HE HS HG ⊢
  have HR := hidI hr
  have hmk : n * 1 ≤ 16777216 := by omega
  have hby : 8 * n ≤ 281474976710656 := by omega
  clear hn hr
  go_enter Tryz.func7, Tryz.ntmps7
  go_wp2_with (refine r_make 22 3 _ _ _ Tryz.intsI (.tmp 6) (.tmp 6) n rfl rfl hmk hby (by omega) rfl ?_; intro w1 B1 N1; have own1 := own_zerosG N1 (by omega); have g1 := N1.gr; have z1 := g1.size; have gg := gg.trans g1; clear N1)
  rw [← HZ.out] at own1
  go_loopw [4] (fun i wr => ∃ k : Nat, k ≤ n ∧ i = .int .i64 k ∧ wr.ownsRow w.heap.size 3 1 (.slice (some ⟨B1, 0, none⟩) n n) n (intsV (cpL L k)) ∧ Gr w wr) (fun i _ => n - (intOf i).toNat)
  case atStart => exact ⟨0, Nat.zero_le _, rfl, own1, gg⟩
  case round =>
    obtain ⟨k, hk, rfl, own, gg⟩ := hrel
    by_cases hlt : k < n
    · obtain ⟨ad, rfl, hcell⟩ := (HR.out.gr gg).2 (by omega)
      have hc := hcell k (.int .i64 (gi L k)) (HG.out k hlt)
      have HK := hidI (HS.out k hlt)
      clear hcell
      generalize gi L k = x at *
      go_wp2_with (refine r_store_own 3 3 _ _ B1 k n n w.heap.size (intsV (cpL L k)) rfl (.int .i64 x) rfl own hlt Tryz.sizeOf3 rfl rfl ?_; intro w10 u10 own10; rw [intsV_set, HK.out] at own10)
      go_roundw
      case rel => exact ⟨k + 1, by omega, by go_num, own10, u10.gr gg (own_gr own (Nat.le_refl _) _ rfl)⟩
      case measure => simp [intOf]; omega
    · obtain rfl : k = n := by omega
      rw [HE.out] at own
      clear hlt
      go_wp2
      go_ret
      exact ⟨gg, _, rfl, own⟩
def hsIn (L : List Int) (x : Int) : Bool := L.contains x
theorem hsIn_iff {L : List Int} {x : Int} : hsIn L x = true ↔ x ∈ L := by unfold hsIn; rw [List.contains_iff_mem]
theorem hs_gi_mem {L : List Int} {i : Nat} (h : i < L.length) : gi L i ∈ L := by
  unfold gi
  rw [List.getD_eq_getElem?_getD, List.getElem?_eq_getElem h]
  exact List.getElem_mem h
theorem hs_mem_gi {L : List Int} {x : Int} (h : x ∈ L) : ∃ j, j < L.length ∧ gi L j = x := by
  obtain ⟨j, hj, rfl⟩ := List.getElem_of_mem h
  exact ⟨j, hj, by unfold gi; rw [List.getD_eq_getElem?_getD, List.getElem?_eq_getElem hj]; rfl⟩
set_option maxHeartbeats 400000 in
theorem hsHas_any (v : Value) (L : List Int) (x : Int) (base : Nat) (w : World) (h1 : w.ownsRow base 3 1 v L.length (intsV L)) (hl : L.length ≤ 1048576) : Calls Tryz.prog 27 #[v, .int .i64 x] w (Ret (.bool (hsIn L x)) w) := by
  have gg := Gr.refl w
  have H1 := hidI h1
  obtain ⟨p1, m1, q1, rfl⟩ := own_slice h1
  obtain rfl := own_len h1
  clear h1
  go_enter Tryz.func27, Tryz.ntmps27
  go_wp2
  go_loop [6, 9] (fun _ i => ∃ k : Nat, k ≤ L.length ∧ i = .int .i64 k ∧ Hid (∀ j, j < k → gi L j ≠ x)) (fun _ i => L.length - (intOf i).toNat)
  case atStart => exact ⟨0, Nat.zero_le _, rfl, fun j hj => by omega⟩
  case round =>
    obtain ⟨k, hk, rfl, HA⟩ := hrel
    by_cases hlt : k < L.length
    · obtain ⟨g, c, e, -, -⟩ := own_shape H1.out (by omega)
      cases e
      have hc := own_int H1.out k hlt rfl
      by_cases hb : gi L k = x
      · have e1 : (gi L k == x) = true := by rw [hb]; simp
        have HV := hidI (show hsIn L x = true from by exact hsIn_iff.2 (hb ▸ hs_gi_mem hlt))
        clear hb
        go_wp2
        go_ret
        exact ⟨ret_bool HV.out.symm, gg⟩
      · have e1 : (gi L k == x) = false := by rw [beq_eq_false_iff_ne]; exact hb
        have HB := hidI hb
        clear hb
        go_wp2
        go_round
        case rel => exact ⟨k + 1, by omega, by go_num, fun j hj => if h : j < k then HA.out j h else by rw [show j = k by omega]; exact HB.out⟩
        case measure => simp [intOf]; omega
    · obtain rfl : k = L.length := by omega
      have HV := hidI (show hsIn L x = false from by
        rw [← Bool.not_eq_true, hsIn_iff]
        intro hm
        obtain ⟨j, hj, e⟩ := hs_mem_gi hm
        exact HA.out j hj e)
      clear hlt HA
      go_wp2
      go_ret
      exact ⟨ret_bool HV.out.symm, gg⟩
end Go.Proofs.YtcjmikafomlbiaaGreatDoor
