/-
  Which states a state of the model reaches; trays that reach each other: in the program and in the model, and the law.
-/
import Derived.Test.YtcldlnleiiloaaaGreatDoorReachG
namespace Go.Proofs.YtcldlnleiiloaaaGreatDoor
open Go.RowKit
/-- One state leads to another, over some others. -/
inductive GReach (S : List (Sta Grid)) (a : Nat) : Nat → Prop where
  | refl : GReach S a a
  | step {j e : Nat} : GReach S a j → e ∈ (sta S j).next → GReach S a e
theorem nodup_le : ∀ (n : Nat) (Q : List Nat), Q.Nodup → (∀ q ∈ Q, q < n) → Q.length ≤ n
  | 0, Q, _, h => by
    cases Q with
    | nil => exact Nat.le_refl _
    | cons q Q => exact absurd (h q (by simp)) (Nat.not_lt_zero _)
  | n + 1, Q, hn, h => by
    by_cases hm : n ∈ Q
    · have h1 := nodup_le n (Q.erase n) (hn.erase n) (fun q hq => by
        obtain ⟨h2, h3⟩ := (hn.mem_erase_iff).1 hq
        have := h q h3
        omega)
      have h2 := List.length_erase_of_mem hm
      have := List.length_pos_of_mem hm
      omega
    · have h1 := nodup_le n Q hn (fun q hq => by
        have := h q hq
        have h2 : q ≠ n := fun e => hm (e ▸ hq)
        omega)
      omega
/-- The queue so far: k of it are done, and of the next one i numbers. -/
structure BFq (S : List (Sta Grid)) (a : Nat) (Q : List Nat) (k : Nat) : Prop where
  nd : Q.Nodup
  lt : ∀ q ∈ Q, q < S.length
  re : ∀ q ∈ Q, GReach S a q
  mem : a ∈ Q
  cl : ∀ i, i < k → ∀ e ∈ (sta S (Q.getD i 0)).next, e ∈ Q
theorem BFq.start {S : List (Sta Grid)} {a : Nat} (ha : a < S.length) : BFq S a [a] 0 :=
  ⟨by simp, fun q hq => by simp at hq; omega, fun q hq => by simp at hq; subst hq; exact .refl, by simp, fun i hi => absurd hi (Nat.not_lt_zero _)⟩
theorem BFq.le {S : List (Sta Grid)} {a : Nat} {Q : List Nat} {k : Nat} (h : BFq S a Q k) : Q.length ≤ S.length := nodup_le _ _ h.nd h.lt
theorem BFq.add {S : List (Sta Grid)} {a : Nat} {Q : List Nat} {k q e : Nat} (h : BFq S a Q k) (hk : k < Q.length) (hq : Q.getD k 0 = q) (he : e ∈ (sta S q).next) (hlt : e < S.length) (hn : e ∉ Q) : BFq S a (Q ++ [e]) k := by
  have hqm : q ∈ Q := by rw [← hq]; exact getD_mem hk
  refine ⟨?_, fun x hx => ?_, fun x hx => ?_, by simp [h.mem], fun i hi x hx => ?_⟩
  · rw [List.nodup_append]
    exact ⟨h.nd, by simp, fun x hx y hy => by simp at hy; subst hy; exact fun e2 => hn (e2 ▸ hx)⟩
  · rcases List.mem_append.1 hx with hx | hx
    · exact h.lt x hx
    · simp at hx; omega
  · rcases List.mem_append.1 hx with hx | hx
    · exact h.re x hx
    · simp at hx; subst hx; exact .step (h.re q hqm) he
  · have hg : (Q ++ [e]).getD i 0 = Q.getD i 0 := by simp only [List.getD_eq_getElem?_getD, List.getElem?_append_left (show i < Q.length by omega)]
    rw [hg] at hx
    exact List.mem_append_left _ (h.cl i hi x hx)
theorem BFq.done {S : List (Sta Grid)} {a : Nat} {Q : List Nat} {k q : Nat} (h : BFq S a Q k) (hq : Q.getD k 0 = q) (hc : ∀ e ∈ (sta S q).next, e ∈ Q) : BFq S a Q (k + 1) :=
  ⟨h.nd, h.lt, h.re, h.mem, fun i hi e he => by
    rcases Nat.lt_or_ge i k with h' | h'
    · exact h.cl i h' e he
    · obtain rfl : i = k := by omega
      rw [hq] at he
      exact hc e he⟩
theorem BFq.all {S : List (Sta Grid)} {a : Nat} {Q : List Nat} (h : BFq S a Q Q.length) (j : Nat) : j ∈ Q ↔ GReach S a j := by
  constructor
  · exact h.re j
  · intro hj
    induction hj with
    | refl => exact h.mem
    | step _ he ih =>
      obtain ⟨i, hi, e⟩ := List.getElem_of_mem ih
      refine h.cl i hi _ ?_
      rw [List.getD_eq_getElem?_getD, List.getElem?_eq_getElem hi, e]
      exact he
def boolsV (n : Nat) (f : Nat → Bool) : List Value := (List.range n).map fun j => Value.bool (f j)
theorem boolsV_get (n : Nat) (f : Nat → Bool) (j : Nat) (h : j < n) : (boolsV n f)[j]? = some (.bool (f j)) := by
  unfold boolsV
  rw [List.getElem?_map, List.getElem?_range h]
  rfl
theorem boolsV_set (n : Nat) (Q : List Nat) (e : Nat) : (boolsV n (fun j => decide (j ∈ Q))).set e (.bool true) = boolsV n (fun j => decide (j ∈ Q ++ [e])) := by
  apply List.ext_getElem?
  intro i
  unfold boolsV
  rw [List.getElem?_set, List.length_map, List.length_range]
  by_cases h : e = i
  · subst h
    rw [if_pos rfl]
    by_cases hn : e < n
    · rw [if_pos hn, List.getElem?_map, List.getElem?_range hn]
      show _ = some (Value.bool (decide (e ∈ Q ++ [e])))
      rw [decide_eq_true (by simp)]
    · rw [if_neg hn, List.getElem?_eq_none (by simp; omega)]
  · rw [if_neg h, List.getElem?_map, List.getElem?_map]
    rcases Nat.lt_or_ge i n with hi | hi
    · rw [List.getElem?_range hi]
      show some (Value.bool (decide (i ∈ Q))) = some (Value.bool (decide (i ∈ Q ++ [e])))
      have : (i ∈ Q ++ [e]) ↔ i ∈ Q := by simp; exact fun h2 => absurd h2.symm h
      congr 2
      exact (decide_eq_decide.2 this).symm
    · rw [List.getElem?_eq_none (by simpa using hi)]
      rfl
theorem own_bools0 {w w1 : World} {B n : Nat} {T : TypeId} (N : New w w1 B (madeCells (Value.bool false).cells (n * 1)) T) (hn : n ≤ 1073741824) : w1.ownsRow w.heap.size T 1 (.slice (some ⟨B, 0, none⟩) n n) n (boolsV n (fun j => decide (j ∈ ([] : List Nat)))) := by
  refine ⟨by simp [boolsV], .inr ⟨B, n, _, rfl, N.lo, N.blk, Nat.le_refl _, by unfold maxLen; omega, size_madeCells _ _, ?_⟩⟩
  apply List.ext_getElem?
  intro i
  by_cases hi : i < n
  · rw [List.getElem?_take, if_pos (by omega)]
    unfold madeCells boolsV
    simp [hi]
    have e : (Value.bool false).cells = #[Value.bool false] := rfl
    rw [e]
    simp [Nat.mod_one]
  · rw [List.getElem?_eq_none (by simp; omega), List.getElem?_eq_none (by simp [boolsV]; omega)]
theorem Tryz.boolI : ElemInfo Tryz.prog 66 4 (.bool false) 1 1 := ⟨Tryz.underlying66, by kernel_rfl, rfl, by decide⟩
theorem Tryz.boix (g n cap k : Nat) (hk : k < n) (w : World) : (Instr.indexAt 66 (.slice (some ⟨g, 0, none⟩) n cap) (.int .i64 k)).run Tryz.prog w = .ok (.pointer (some ⟨g, k, none⟩)) w := by
  have he : Tryz.prog.elem 66 = 4 := by kernel_rfl
  have hu : Tryz.prog.underlying 66 = some (.slice (Tryz.prog.elem 66)) := by rw [he]; exact Tryz.underlying66
  have hs : (sizeOf 4).run Tryz.prog w = .ok 1 w := by kernel_rfl
  rw [run_indexAt_slice w 66 ⟨g, 0, none⟩ n cap .i64 k hu, if_pos (by omega), he]
  simp [hs, Result.andThen, add_flat]
theorem Tryz.isixA (g n cap k : Nat) (hk : k < n) (w : World) : (Instr.indexAt 35 (.slice (some ⟨g, 0, none⟩) n cap) (.int .i64 k)).run Tryz.prog w = .ok (.pointer (some ⟨g, k, none⟩)) w := by
  have he : Tryz.prog.elem 35 = 3 := by kernel_rfl
  have hu : Tryz.prog.underlying 35 = some (.slice (Tryz.prog.elem 35)) := by rw [he]; exact Tryz.underlying35
  have hs : (sizeOf 3).run Tryz.prog w = .ok 1 w := by kernel_rfl
  rw [run_indexAt_slice w 35 ⟨g, 0, none⟩ n cap .i64 k hu, if_pos (by omega), he]
  simp [hs, Result.andThen, add_flat]
theorem natsV_get {w : World} {base g n cap : Nat} {e : TypeId} {Q : List Nat} (h : w.ownsRow base e 1 (.slice (some ⟨g, 0, none⟩) n cap) n (natsV Q)) (hn : Q.length = n) (k : Nat) (hk : k < n) : w.cell? ⟨g, k, none⟩ = some (.int .i64 ((Q.getD k 0 : Nat) : Int)) := by
  refine own_val h k _ hk ?_
  unfold natsV
  rw [List.getElem?_map, List.getElem?_eq_getElem (by omega), List.getD_eq_getElem?_getD, List.getElem?_eq_getElem (by omega)]
  rfl
set_option maxHeartbeats 4000000 in
set_option maxRecDepth 100000 in
theorem reFrom_any (S : List (Sta Grid)) (base a : Nat) (v : Value) (bk : Nat → Nat) (sl nx : Nat → Value) (w : World) (h : SSt base w v S bk sl nx) (hx : SNx base w S nx) (ha : a < S.length) (hle : S.length ≤ 300)
    (hnx : ∀ j, j < S.length → ∀ e ∈ (sta S j).next, e < S.length) (hnl : ∀ j, j < S.length → (sta S j).next.length = 4) :
    Calls Tryz.prog 36 #[v, .int .i64 a] w fun e w' => Gr w w' ∧ ∃ v' f, e = .returned v' ∧ w'.ownsRow w.heap.size 4 1 v' S.length (boolsV S.length f) ∧ ∀ j, j < S.length → (f j = true ↔ GReach S a j) := by
  have gg := Gr.refl w
  obtain ⟨gB, cap, rfl, -, -⟩ := own_shape h.row (by omega)
  obtain ⟨N, hN⟩ : ∃ N, N = S.length := ⟨_, rfl⟩
  have HH := hidI h
  have HXX := hidI hx
  have HNX := hidI hnx
  have HNL := hidI hnl
  have HST := hidI (BFq.start ha)
  have hmk : N * 1 ≤ 16777216 := by omega
  have hby : 1 * N ≤ 281474976710656 := by omega
  rw [← hN] at ha hle ⊢
  have HNN := hidI hN
  clear h hx hnx hnl hN
  go_enter Tryz.func36, Tryz.ntmps36
  go_wp2_with (first | (refine r_make 66 4 _ _ _ Tryz.boolI (.tmp 11) (.tmp 11) N rfl rfl hmk hby (by omega) rfl ?_; intro w1 B1 N1; have sn := own_bools0 N1 (by omega); have g1 := N1.gr; have l1 := N1.lo; have z1 := g1.size; have gg := gg.trans g1; clear N1) | (refine r_idx 66 _ _ (.slice (some ⟨B1, 0, none⟩) N N) (.int .i64 a) _ rfl rfl (Tryz.boix B1 N N a ha _) rfl ?_) | (refine r_store_own 4 4 _ _ B1 a N N w.heap.size (boolsV N (fun j => decide (j ∈ ([] : List Nat)))) rfl (.bool true) rfl sn ha Tryz.sizeOf4 rfl rfl ?_; intro w2 u2 sn2; have gg := u2.gr gg l1; have z2 := u2.size) | (refine r_slice1 35 3 (.tmp 16) (.int .i64 a) rfl (Tryz.bsi1 _ _) rfl ?_; intro w3 B3 N3; have g3 := N3.gr; have qu := own_made (m := 1) (base := w.heap.size) (l := natsV [a]) N3 (by omega) rfl; have sn3 := g3.row sn2; have gg := gg.trans g3; clear N3))
  rw [boolsV_set] at sn3
  clear sn sn2
  go_loopw [6, 7] (fun qv iv wr => ∃ (Q : List Nat) (k : Nat), k ≤ Q.length ∧ Q.length ≤ N ∧ iv = .int .i64 k ∧ wr.ownsRow w.heap.size 3 1 qv Q.length (natsV Q) ∧ wr.ownsRow w.heap.size 4 1 (.slice (some ⟨B1, 0, none⟩) N N) N (boolsV N (fun j => decide (j ∈ Q))) ∧ Gr w wr ∧ Hid (BFq S a Q k)) (fun _ iv _ => N - (intOf iv).toNat)
  case atStart => exact ⟨[a], 0, Nat.zero_le _, by show 1 ≤ N; omega, rfl, qu, sn3, gg, HST⟩
  case round =>
    clear qu sn3 gg
    obtain ⟨Q, k, hk, hQN, rfl, qu, sn, gg, HB⟩ := hrel
    have zr := gg.size
    by_cases hlt : k < Q.length
    · obtain ⟨G1, c1, rfl, -, -⟩ := own_shape qu (by omega)
      have ck := natsV_get qu rfl k hlt
      obtain ⟨q, hq⟩ : ∃ q, q = Q.getD k 0 := ⟨_, rfl⟩
      rw [← hq] at ck
      have HQ := hidI hq.symm
      have hqN : q < N := by rw [HNN.out]; exact HB.out.lt q (by rw [hq]; exact getD_mem hlt)
      have hqS : q < S.length := by rw [← HNN.out]; exact hqN
      have M := HH.out.gr gg
      have cp := M.ptr hqS
      have rx := gg.row (HXX.out.nxt q hqS)
      have hl4 := HNL.out q hqS
      have HNE := hidI (HNX.out q hqS)
      obtain ⟨L, hL⟩ : ∃ L, L = (sta S q).next := ⟨_, rfl⟩
      rw [← hL] at rx hl4 HNE
      rw [hl4] at rx
      obtain ⟨G2, c2, e2, hG2, -⟩ := own_shape rx (by omega)
      have c8 : wr.cell? ⟨bk q, 8, none⟩ = some (.slice (some ⟨G2, 0, none⟩) 4 c2) := by rw [← e2]; exact M.cell hqS 8
      rw [e2] at rx
      have hG2' : G2 < w.heap.size := by
        have := ((HXX.out.nxt q hqS).lt G2 (by rw [e2]; rfl)).2
        exact this
      have HL := hidI hL
      have RX := hidI rx
      clear hq hL e2 rx
      go_wp2_with (first | (refine r_idx 35 _ _ (.slice (some ⟨G1, 0, none⟩) Q.length c1) (.int .i64 k) _ rfl rfl (Tryz.isixA G1 Q.length c1 k hlt _) rfl ?_) | (refine r_ldc 3 _ ⟨G1, k, none⟩ (.int .i64 q) rfl (Tryz.isAgg3 _) ck rfl ?_) | (refine r_idx 41 _ _ (.slice (some ⟨gB, 0, none⟩) N cap) (.int .i64 q) _ rfl rfl (Tryz.psix gB N cap q hqN _) rfl ?_) | (refine r_ldc 44 _ ⟨gB, q, none⟩ (ptrV (bk q)) rfl (Tryz.isAgg44 _) cp rfl ?_) | (refine r_nil _ ⟨bk q, 0, none⟩ rfl rfl ?_) | (refine r_fld 49 _ 6 (.pointer (some ⟨bk q, 0, none⟩)) (.pointer (some ⟨bk q, 8, none⟩)) rfl (Tryz.rf6 _ _) rfl ?_) | (refine r_ldc 35 _ ⟨bk q, 8, none⟩ (.slice (some ⟨G2, 0, none⟩) 4 c2) rfl (Tryz.isAgg35 _) c8 rfl ?_))
      obtain ⟨wo, hwo⟩ : ∃ wo : World, wo = wr := ⟨_, rfl⟩
      have rx0 : wo.ownsRow base 3 1 (.slice (some ⟨G2, 0, none⟩) 4 c2) 4 (natsV L) := by rw [hwo]; exact RX.out
      have RXW := hidI (show ∀ wi : World, Gr w wi → wi.ownsRow base 3 1 (.slice (some ⟨G2, 0, none⟩) 4 c2) 4 (natsV L) from fun wi gi => by
        obtain ⟨ha1, ⟨hb1, _⟩ | ⟨g', cap', cur, hv, hb, hg, hr⟩⟩ := rx0
        · cases hb1
        · simp only [Value.slice.injEq, Option.some.injEq, Addr.mk.injEq, and_true, true_and] at hv
          obtain ⟨rfl, rfl⟩ := hv
          have hgw : wr.heap[G2]? = w.heap[G2]? := gg.block G2 hG2'
          rw [hwo, hgw] at hg
          exact ⟨ha1, .inr ⟨G2, c2, cur, rfl, hb, gi.keep hg, hr⟩⟩)
      clear hwo rx0 c8 cp ck
      go_loopw [6, 35] (fun qv iv wi => ∃ (Q : List Nat) (i : Nat), i ≤ 4 ∧ k < Q.length ∧ Q.length ≤ N ∧ iv = .int .i64 i ∧ wi.ownsRow w.heap.size 3 1 qv Q.length (natsV Q) ∧ wi.ownsRow w.heap.size 4 1 (.slice (some ⟨B1, 0, none⟩) N N) N (boolsV N (fun j => decide (j ∈ Q))) ∧ Gr w wi ∧ Hid (BFq S a Q k) ∧ Hid (Q.getD k 0 = q) ∧ Hid (∀ e ∈ L.take i, e ∈ Q)) (fun _ iv _ => 4 - (intOf iv).toNat)
      case atStart => exact ⟨Q, 0, by omega, hlt, hQN, rfl, qu, sn, gg, HB, HQ, hidI (fun e he => by simp at he)⟩
      case round =>
        clear qu sn gg HB HQ hlt hQN hk M
        obtain ⟨Q, i, hi, hlt, hQN, rfl, qu, sn, gg, HB, HQ, HC⟩ := hrel
        have zr := gg.size
        by_cases hi4 : i < 4
        · have ci := natsV_get (RXW.out _ gg) hl4 i hi4
          obtain ⟨e, he⟩ : ∃ e, e = L.getD i 0 := ⟨_, rfl⟩
          rw [← he] at ci
          have hem : e ∈ L := by rw [he]; exact getD_mem (by omega)
          have heN : e < N := by rw [HNN.out]; exact HNE.out e hem
          have cs := own_val sn e _ heN (boolsV_get N (fun j => decide (j ∈ Q)) e heN)
          have HTK := hidI (show L.take (i + 1) = L.take i ++ [e] from by
            rw [List.take_add_one, he, List.getD_eq_getElem?_getD, List.getElem?_eq_getElem (by omega)]
            rfl)
          have HEM := hidI hem
          clear he hem
          by_cases hin : e ∈ Q
          · have HC2 := hidI (show ∀ x ∈ L.take (i + 1), x ∈ Q from fun x hx => by
              rw [HTK.out] at hx
              rcases List.mem_append.1 hx with hx | hx
              · exact HC.out x hx
              · simp at hx; subst hx; exact hin)
            simp only [decide_eq_true hin] at cs
            clear hin
            go_wp2_with (first | (refine r_idx 35 _ _ (.slice (some ⟨G2, 0, none⟩) 4 c2) (.int .i64 i) _ rfl rfl (Tryz.isixA G2 4 c2 i hi4 _) rfl ?_) | (refine r_ldc 3 _ ⟨G2, i, none⟩ (.int .i64 e) rfl (Tryz.isAgg3 _) ci rfl ?_) | (refine r_idx 66 _ _ (.slice (some ⟨B1, 0, none⟩) N N) (.int .i64 e) _ rfl rfl (Tryz.boix B1 N N e heN _) rfl ?_) | (refine r_ldc 4 _ ⟨B1, e, none⟩ (.bool true) rfl (Tryz.isAgg4 _) cs rfl ?_))
            go_roundw
            case rel => exact ⟨Q, i + 1, by omega, hlt, hQN, by go_num, qu, sn, gg, HB, HQ, HC2⟩
            case measure => simp [intOf]; omega
          · have heS : e < S.length := by rw [← HNN.out]; exact heN
            have HB2 := hidI (HB.out.add hlt HQ.out (HL.out ▸ HEM.out) heS hin)
            have HQ2 := hidI (show (Q ++ [e]).getD k 0 = q from by rw [← HQ.out]; simp only [List.getD_eq_getElem?_getD, List.getElem?_append_left hlt])
            have HC2 := hidI (show ∀ x ∈ L.take (i + 1), x ∈ Q ++ [e] from fun x hx => by
              rw [HTK.out] at hx
              rcases List.mem_append.1 hx with hx | hx
              · exact List.mem_append_left _ (HC.out x hx)
              · exact List.mem_append_right _ hx)
            have hl2 := HB2.out.le
            rw [← HNN.out, List.length_append, List.length_singleton] at hl2
            simp only [decide_eq_false hin] at cs
            clear hin
            obtain ⟨pq, nq, cq, rfl⟩ := own_slice qu
            obtain rfl : nq = Q.length := own_len qu
            go_wp2_with (first | (refine r_idx 35 _ _ (.slice (some ⟨G2, 0, none⟩) 4 c2) (.int .i64 i) _ rfl rfl (Tryz.isixA G2 4 c2 i hi4 _) rfl ?_) | (refine r_ldc 3 _ ⟨G2, i, none⟩ (.int .i64 e) rfl (Tryz.isAgg3 _) ci rfl ?_) | (refine r_idx 66 _ _ (.slice (some ⟨B1, 0, none⟩) N N) (.int .i64 e) _ rfl rfl (Tryz.boix B1 N N e heN _) rfl ?_) | (refine r_ldc 4 _ ⟨B1, e, none⟩ (.bool false) rfl (Tryz.isAgg4 _) cs rfl ?_) | (refine r_store_own 4 4 _ _ B1 e N N w.heap.size (boolsV N (fun j => decide (j ∈ Q))) rfl (.bool true) rfl sn heN Tryz.sizeOf4 rfl rfl ?_; intro w5 u5 sn5; have qu := u5.row qu (own_neS qu sn (by decide)); have gg := u5.gr gg l1; have z5 := u5.size) | (refine r_slice1 35 3 (.tmp 48) (.int .i64 e) rfl (Tryz.bsi1 _ _) rfl ?_; intro w6 B6 N6; have g6 := N6.gr; have qu := g6.row qu; have sn5 := g6.row sn5; have gg := gg.trans g6; have z6 := g6.size) | (refine r_append (.tmp 47) (.tmp 49) 35 3 _ 1 8 w.heap.size Tryz.intsI (.slice pq Q.length cq) Q.length (natsV Q) rfl qu ⟨B6, 0, none⟩ 1 1 [.int .i64 e] rfl rfl N6.cell1 (by intro u hu; simp at hu; subst hu; rfl) (by omega) (by decide) (by omega) rfl ?_; intro v7 w7 own7 g7))
            rw [natsV_app] at own7
            rw [boolsV_set] at sn5
            have sn7 := g7.row sn5 (own_ne2 sn5 qu (by decide))
            have gg := g7.gr gg (own_gr qu (Nat.le_refl _))
            go_roundw
            case rel => exact ⟨Q ++ [e], i + 1, by omega, by rw [List.length_append, List.length_singleton]; omega, by rw [List.length_append, List.length_singleton]; exact hl2, by go_num, by rw [List.length_append, List.length_singleton]; exact own7, sn7, gg, HB2, HQ2, HC2⟩
            case measure => simp [intOf]; omega
        · obtain rfl : i = 4 := by omega
          have HB2 := hidI (HB.out.done HQ.out (fun e he => HC.out e (by rw [List.take_of_length_le (by omega), HL.out]; exact he)))
          clear hi4
          go_wp2
          go_roundw
          case rel => exact ⟨Q, k + 1, by omega, hQN, by go_num, qu, sn, gg, HB2⟩
          case measure => simp [intOf]; omega
    · obtain rfl : k = Q.length := by omega
      have HE := hidI (HB.out.all)
      clear hlt
      obtain ⟨pq, nq, cq, rfl⟩ := own_slice qu
      obtain rfl : nq = Q.length := own_len qu
      go_wp2
      go_ret
      exact ⟨gg, _, _, rfl, sn, fun j _ => by rw [decide_eq_true_eq]; exact HE.out j⟩
end Go.Proofs.YtcldlnleiiloaaaGreatDoor
