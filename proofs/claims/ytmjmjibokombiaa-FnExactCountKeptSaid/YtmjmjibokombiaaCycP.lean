/-
  The cycles of a permutation: in the program and in the model.
-/
import Derived.Test.YtmjmjibokombiaaBTm
import Derived.Test.YtmjmjibokombiaaBLa
import Derived.Test.YtmjmjibokombiaaBMv
namespace Go.Proofs.Ytmjmjibokombiaa
open Go.RowKit
/-- From a number on along the permutation until one comes that is told already. -/
def cyW (p : List Nat) : Nat → List Nat → Nat → List Nat
  | 0, Q, _ => Q
  | f + 1, Q, i => if i ∈ Q then Q else cyW p f (Q ++ [i]) (p.getD i 0)
def cyN (p Q : List Nat) (i : Nat) : List Nat := cyW p (p.length - Q.length) Q i
/-- Those that are told behind k beginnings. -/
def cyQ (p : List Nat) : Nat → List Nat
  | 0 => []
  | k + 1 => cyN p (cyQ p k) k
/-- The cycles behind k beginnings. -/
def cyL (p : List Nat) : Nat → List (List Nat)
  | 0 => []
  | k + 1 => if k ∈ cyQ p k then cyL p k else cyL p k ++ [(cyN p (cyQ p k) k).drop (cyQ p k).length]
structure CyI (m : Nat) (Q : List Nat) : Prop where
  nd : Q.Nodup
  lt : ∀ q ∈ Q, q < m
theorem nodup_leC : ∀ (n : Nat) (Q : List Nat), Q.Nodup → (∀ q ∈ Q, q < n) → Q.length ≤ n
  | 0, Q, _, h => by
    cases Q with
    | nil => exact Nat.le_refl _
    | cons q Q => exact absurd (h q (by simp)) (Nat.not_lt_zero _)
  | n + 1, Q, hn, h => by
    by_cases hm : n ∈ Q
    · have h1 := nodup_leC n (Q.erase n) (hn.erase n) (fun q hq => by
        obtain ⟨h2, h3⟩ := (hn.mem_erase_iff).1 hq
        have := h q h3
        omega)
      have h2 := List.length_erase_of_mem hm
      have := List.length_pos_of_mem hm
      omega
    · have h1 := nodup_leC n Q hn (fun q hq => by
        have := h q hq
        have h2 : q ≠ n := fun e => hm (e ▸ hq)
        omega)
      omega
theorem CyI.le {m : Nat} {Q : List Nat} (h : CyI m Q) : Q.length ≤ m := nodup_leC m Q h.nd h.lt
theorem CyI.add {m : Nat} {Q : List Nat} (h : CyI m Q) {i : Nat} (hi : i < m) (hn : i ∉ Q) : CyI m (Q ++ [i]) := by
  refine ⟨?_, fun x hx => ?_⟩
  · rw [List.nodup_append]
    exact ⟨h.nd, by simp, fun x hx y hy => by simp at hy; subst hy; exact fun e => hn (e ▸ hx)⟩
  · rcases List.mem_append.1 hx with hx | hx
    · exact h.lt x hx
    · simp at hx; omega
theorem CyI.room {m : Nat} {Q : List Nat} (h : CyI m Q) {i : Nat} (hi : i < m) (hn : i ∉ Q) : Q.length < m := by
  have := (h.add hi hn).le
  rw [List.length_append, List.length_singleton] at this
  omega
theorem cyN_done {p Q : List Nat} {i : Nat} (h : i ∈ Q) : cyN p Q i = Q := by
  unfold cyN
  cases p.length - Q.length with
  | zero => rfl
  | succ f => rw [cyW, if_pos h]
theorem cyN_step {p Q : List Nat} {i : Nat} (h : CyI p.length Q) (hi : i < p.length) (hn : i ∉ Q) : cyN p Q i = cyN p (Q ++ [i]) (p.getD i 0) := by
  have := h.room hi hn
  unfold cyN
  rw [List.length_append, List.length_singleton, show p.length - Q.length = (p.length - (Q.length + 1)) + 1 by omega, cyW, if_neg hn]
theorem cyW_inv {p : List Nat} (hp : ∀ i, i < p.length → p.getD i 0 < p.length) : ∀ (f : Nat) (Q : List Nat) (i : Nat), CyI p.length Q → i < p.length → CyI p.length (cyW p f Q i) ∧ ∃ T, cyW p f Q i = Q ++ T
  | 0, Q, _, h, _ => ⟨h, [], by simp [cyW]⟩
  | f + 1, Q, i, h, hi => by
    unfold cyW
    split
    · exact ⟨h, [], by simp⟩
    · rename_i hn
      obtain ⟨h1, T, h2⟩ := cyW_inv hp f (Q ++ [i]) (p.getD i 0) (h.add hi hn) (hp i hi)
      exact ⟨h1, [i] ++ T, by rw [h2, List.append_assoc]⟩
theorem cyQ_inv {p : List Nat} (hp : ∀ i, i < p.length → p.getD i 0 < p.length) (k : Nat) (hk : k ≤ p.length) : CyI p.length (cyQ p k) := by
  induction k with
  | zero => exact ⟨List.nodup_nil, fun q hq => (by cases hq)⟩
  | succ k ih => exact (cyW_inv hp _ _ k (ih (by omega)) hk).1
theorem cyL_skip {p : List Nat} {k : Nat} (h : k ∈ cyQ p k) : cyL p (k + 1) = cyL p k ∧ cyQ p (k + 1) = cyQ p k := ⟨by rw [cyL, if_pos h], by rw [cyQ, cyN_done h]⟩
theorem cyL_add {p : List Nat} {k : Nat} {T : List Nat} (h : k ∉ cyQ p k) (e : cyN p (cyQ p k) k = cyQ p k ++ T) : cyL p (k + 1) = cyL p k ++ [T] ∧ cyQ p (k + 1) = cyQ p k ++ T := ⟨by rw [cyL, if_neg h, e, List.drop_left], by rw [cyQ, e]⟩
theorem total_snoc (L : List (List Int)) (l : List Int) : total (L ++ [l]) = total L + l.length := by
  unfold total; rw [List.map_append, List.sum_append]; simp
theorem cyL_le {p : List Nat} (hp : ∀ i, i < p.length → p.getD i 0 < p.length) (k : Nat) (hk : k ≤ p.length) : (cyL p k).length ≤ k ∧ total (zzz (cyL p k)) = (cyQ p k).length := by
  induction k with
  | zero => exact ⟨Nat.le_refl _, rfl⟩
  | succ k ih =>
    obtain ⟨i1, i2⟩ := ih (by omega)
    by_cases h : k ∈ cyQ p k
    · rw [(cyL_skip h).1, (cyL_skip h).2]
      exact ⟨by omega, i2⟩
    · obtain ⟨-, T, e⟩ := cyW_inv hp (p.length - (cyQ p k).length) (cyQ p k) k (cyQ_inv hp k (by omega)) hk
      rw [(cyL_add h e).1, (cyL_add h e).2, zzz_snoc, total_snoc, i2, zz_length, List.length_append, List.length_append]
      exact ⟨by simp; omega, rfl⟩
theorem cyL_all {p : List Nat} (hp : ∀ i, i < p.length → p.getD i 0 < p.length) (h36 : p.length ≤ 36) : (cyL p p.length).length ≤ 36 ∧ total (zzz (cyL p p.length)) ≤ 36 := by
  obtain ⟨h1, h2⟩ := cyL_le hp p.length (Nat.le_refl _)
  have := (cyQ_inv hp p.length (Nat.le_refl _)).le
  omega
/-- A row of flags. -/
def flV (n : Nat) (Q : List Nat) : List Value := (List.range n).map fun j => Value.bool (decide (j ∈ Q))
theorem flV_get (n : Nat) (Q : List Nat) (j : Nat) (h : j < n) : (flV n Q)[j]? = some (.bool (decide (j ∈ Q))) := by
  unfold flV
  rw [List.getElem?_map, List.getElem?_range h]
  rfl
theorem flV_set (n : Nat) (Q : List Nat) (e : Nat) : (flV n Q).set e (.bool true) = flV n (Q ++ [e]) := by
  apply List.ext_getElem?
  intro i
  unfold flV
  rw [List.getElem?_set, List.length_map, List.length_range]
  by_cases h : e = i
  · subst h
    rw [if_pos rfl]
    by_cases hn : e < n
    · rw [if_pos hn, List.getElem?_map, List.getElem?_range hn]
      show _ = some (Value.bool (decide (e ∈ Q ++ [e])))
      rw [decide_eq_true (by simp)]
    · rw [if_neg hn, List.getElem?_eq_none (by simp; omega)]
  · rw [if_neg h, List.getElem?_map, List.getElem?_map]
    rcases Nat.lt_or_ge i n with hi | hi
    · rw [List.getElem?_range hi]
      show some (Value.bool (decide (i ∈ Q))) = some (Value.bool (decide (i ∈ Q ++ [e])))
      have : (i ∈ Q ++ [e]) ↔ i ∈ Q := by simp; exact fun h2 => absurd h2.symm h
      congr 2
      exact (decide_eq_decide.2 this).symm
    · rw [List.getElem?_eq_none (by simpa using hi)]
      rfl
theorem own_flags0 {w w1 : World} {B n : Nat} {T : TypeId} (N : New w w1 B (madeCells (Value.bool false).cells (n * 1)) T) (hn : n ≤ 1073741824) : w1.ownsRow w.heap.size T 1 (.slice (some ⟨B, 0, none⟩) n n) n (flV n []) := by
  refine ⟨by simp [flV], .inr ⟨B, n, _, rfl, N.lo, N.blk, Nat.le_refl _, by unfold maxLen; omega, size_madeCells _ _, ?_⟩⟩
  apply List.ext_getElem?
  intro i
  by_cases hi : i < n
  · rw [List.getElem?_take, if_pos (by omega)]
    unfold madeCells flV
    simp [hi]
    have e : (Value.bool false).cells = #[Value.bool false] := rfl
    rw [e]
    simp [Nat.mod_one]
  · rw [List.getElem?_eq_none (by simp; omega), List.getElem?_eq_none (by simp [flV]; omega)]
def lenV : Value → Nat
  | .slice _ n _ => n
  | _ => 0
theorem lenV_slice (p : Option Addr) (n k : Nat) : lenV (.slice p n k) = n := rfl
/-- Rows of earlier memory are no block of a later row. -/
theorem rowsC_before {T e : TypeId} {base b s n k j : Nat} {L : List (List Int)} {vs : List Value} {w w' : World} {v : Value} {xs : List Value} (h : RowsK T base L k j vs w) (hn : vs.length = L.length) (ho : w'.ownsRow b e s v n xs) (hb : w.heap.size ≤ b) : ∀ u ∈ vs, u.ownBlock = none ∨ u.ownBlock ≠ v.ownBlock := by
  intro u hu
  obtain ⟨i, hi, rfl⟩ := List.getElem_of_mem hu
  obtain ⟨x, hx, hox⟩ := h.at' i _ (List.getElem?_eq_getElem (show i < L.length by omega))
  rw [List.getElem?_eq_getElem hi] at hx
  cases hx
  exact own_apart' hox ho hb
theorem rowsC_grow {T : TypeId} {base b k j : Nat} {L : List (List Int)} {vs : List Value} {w0 w w' : World} {v : Value} {n : Nat} {xs : List Value} (h : RowsK T base L k j vs w) (h0 : RowsK T base L k j vs w0) (ho : w.ownsRow b T 1 v n xs) (g : Grb v.ownBlock w w') (hb : w0.heap.size ≤ b) : RowsK T base L k j vs w' :=
  ⟨fun i l hl => by
    obtain ⟨x, hx, h1⟩ := h.at' i l hl
    obtain ⟨y, hy, h2⟩ := h0.at' i l hl
    rw [hx] at hy
    cases hy
    exact ⟨x, hx, g.row h1 (own_apart' h2 ho hb)⟩, h.ap⟩
theorem Try.boolI7 : ElemInfo Try.prog 51 4 (.bool false) 1 1 := ⟨Try.underlying51, by kernel_rfl, rfl, by decide⟩
theorem Try.boix7 (g n cap k : Nat) (hk : k < n) (w : World) : (Instr.indexAt 51 (.slice (some ⟨g, 0, none⟩) n cap) (.int .i64 k)).run Try.prog w = .ok (.pointer (some ⟨g, k, none⟩)) w := by
  have he : Try.prog.elem 51 = 4 := by kernel_rfl
  have hu : Try.prog.underlying 51 = some (.slice (Try.prog.elem 51)) := by rw [he]; exact Try.underlying51
  have hs : (sizeOf 4).run Try.prog w = .ok 1 w := by kernel_rfl
  rw [run_indexAt_slice w 51 ⟨g, 0, none⟩ n cap .i64 k hu, if_pos (by omega), he]
  simp [hs, Result.andThen, add_flat]
set_option maxHeartbeats 600000 in
set_option maxRecDepth 100000 in
theorem cyclesOf_any (p : List Nat) (b0 : Nat) (pv : Value) (w : World) (hlt0 : ∀ i, i < p.length → p.getD i 0 < p.length) (h36 : p.length ≤ 36) (hown : w.ownsRow b0 3 1 pv p.length (intsV (zz p))) :
    Calls Try.prog 26 #[pv] w (RetSS1 34 3 (zzz (cyL p p.length)) w) := by
  skip
  have gg := Gr.refl w
  obtain ⟨pp, m, cp0, rfl⟩ := own_slice hown
  obtain rfl : m = p.length := own_len hown
  obtain ⟨m, hm⟩ : ∃ m, m = p.length := ⟨_, rfl⟩
  have HP := hidI hown
  have HLT := hidI hlt0
  have HM := hidI hm.symm
  have HQI0 := hidI (fun k (hk : k ≤ m) => hm ▸ cyQ_inv hlt0 k (hm ▸ hk))
  have HLL0 := hidI (fun k (hk : k ≤ m) => (cyL_le hlt0 k (hm ▸ hk)).1)
  rw [← hm] at h36 HP HLT ⊢
  have hmk : m * 1 ≤ 16777216 := by omega
  have hby : 1 * m ≤ 281474976710656 := by omega
  clear hown hlt0 hm
  go_enter Try.func26, Try.ntmps26
  go_wp2_with (refine r_make 51 4 _ _ _ Try.boolI7 (.tmp 9) (.tmp 9) m rfl rfl hmk hby (by omega) rfl ?_; intro w1 B4 N1; have seen := own_flags0 N1 (by omega); have g1 := N1.gr; have lo4 := N1.lo; have z1 := g1.size; have gg := gg.trans g1; clear N1)
  have own0 : w1.ownsRow w.heap.size 34 1 (.slice none 0 0) (zzz (cyL p 0)).length [] := World.ownsRow_nil _ _ _ _
  have R0 : RowsK 3 w.heap.size (zzz (cyL p 0)) 1 0 [] w1 := RowsK.nil _ _ _ _ _
  have seen : w1.ownsRow w.heap.size 4 1 (.slice (some ⟨B4, 0, none⟩) m m) m (flV m (cyQ p 0)) := seen
  go_loopw [3, 13] (fun sv iv wr => ∃ (k : Nat) (vs : List Value), k ≤ m ∧ iv = .int .i64 k ∧ wr.ownsRow w.heap.size 34 1 sv (zzz (cyL p k)).length vs ∧ RowsK 3 w.heap.size (zzz (cyL p k)) 1 0 vs wr ∧ wr.ownsRow w.heap.size 4 1 (.slice (some ⟨B4, 0, none⟩) m m) m (flV m (cyQ p k)) ∧ Gr w wr) (fun _ iv _ => m - (intOf iv).toNat)
  case atStart => exact ⟨0, [], Nat.zero_le _, rfl, own0, R0, seen, gg⟩
  case round =>
    skip
    clear own0 R0 seen gg
    obtain ⟨k, vs, hk, rfl, own, R, seen, gg⟩ := hrel
    obtain ⟨wo, rfl⟩ : ∃ wo : World, wo = wr := ⟨_, rfl⟩
    obtain ⟨p7, n7, k7, rfl⟩ := own_slice own
    have hnl := own_len own
    have zo := gg.size
    have hLl := HLL0.out k hk
    rw [← zzz_length] at hLl
    obtain ⟨L, hL⟩ : ∃ L, L = zzz (cyL p k) := ⟨_, rfl⟩
    obtain ⟨Q, hQ⟩ : ∃ Q, Q = cyQ p k := ⟨_, rfl⟩
    rw [← hL] at own R hnl hLl
    rw [← hQ] at seen
    have HVL := hidI (show vs.length = L.length from by have := own.1; omega)
    have HLE := hidI hL.symm
    have HQE := hidI hQ.symm
    have HQI := hidI (show CyI m Q from by rw [hQ]; exact HQI0.out k hk)
    have HRO := hidI R
    subst hnl
    clear hL hQ
    by_cases hlt : k < m
    · obtain ⟨Gp, cq, eq, -, -⟩ := own_shape HP.out (by omega)
      cases eq
      have csk := own_val seen k _ hlt (flV_get m Q k hlt)
      by_cases hkq : k ∈ Q
      · rw [decide_eq_true hkq] at csk
        have HS := hidI (cyL_skip (p := p) (k := k) (by rw [HQE.out]; exact hkq))
        clear hkq
        go_wp2_with (first | (refine r_idx 51 _ _ (.slice (some ⟨B4, 0, none⟩) m m) (.int .i64 k) _ rfl rfl (Try.boix7 B4 m m k hlt _) rfl ?_) | (refine r_ldc 4 _ ⟨B4, k, none⟩ (.bool true) rfl (Try.isAgg4 _) csk rfl ?_))
        go_roundw
        case rel => exact ⟨k + 1, vs, by omega, by go_num, by rw [HS.out.1, HLE.out]; exact own, by rw [HS.out.1, HLE.out]; exact R, by rw [HS.out.2, HQE.out]; exact seen, gg⟩
        case measure => simp [intOf]; omega
      · rw [decide_eq_false hkq] at csk
        have HKQ := hidI (show k ∉ cyQ p k from by rw [HQE.out]; exact hkq)
        clear hkq
        go_wp2_with (first | (refine r_idx 51 _ _ (.slice (some ⟨B4, 0, none⟩) m m) (.int .i64 k) _ rfl rfl (Try.boix7 B4 m m k hlt _) rfl ?_) | (refine r_ldc 4 _ ⟨B4, k, none⟩ (.bool false) rfl (Try.isAgg4 _) csk rfl ?_))
        have ownc : wo.ownsRow wo.heap.size 3 1 (.slice none 0 0) ([] : List Nat).length (intsV (zz [])) := World.ownsRow_nil _ _ _ _
        have seen0 : wo.ownsRow w.heap.size 4 1 (.slice (some ⟨B4, 0, none⟩) m m) m (flV m (Q ++ [])) := by rw [List.append_nil]; exact seen
        have HI0 := hidI (show CyI m (Q ++ []) from by rw [List.append_nil]; exact HQI.out)
        have HN0 := hidI (show cyN p (Q ++ []) k = cyN p Q k from by rw [List.append_nil])
        clear seen
        go_loopw [6, 7] (fun cv iv wi => ∃ (C : List Nat) (i : Nat), i < m ∧ iv = .int .i64 i ∧ wi.ownsRow wo.heap.size 3 1 cv C.length (intsV (zz C)) ∧ wi.ownsRow w.heap.size 4 1 (.slice (some ⟨B4, 0, none⟩) m m) m (flV m (Q ++ C)) ∧ wi.ownsRow w.heap.size 34 1 (.slice p7 L.length k7) L.length vs ∧ RowsK 3 w.heap.size L 1 0 vs wi ∧ Gr w wi ∧ wo.heap.size ≤ wi.heap.size ∧ Hid (CyI m (Q ++ C)) ∧ Hid (cyN p (Q ++ C) i = cyN p Q k) ∧ Hid ((C = [] ∧ i = k) ∨ (C ≠ [] ∧ k ∉ Q))) (fun cv _ _ => m - lenV cv)
        case atStart => exact ⟨[], k, hlt, rfl, ownc, seen0, own, R, gg, Nat.le_refl _, HI0, HN0, hidI (.inl ⟨rfl, rfl⟩)⟩
        case round =>
          clear ownc seen0 own R gg HI0 HN0
          obtain ⟨C, i, hi, rfl, ownc, seen, own, R, gg, zi, HI, HNI, HCK⟩ := hrel
          obtain ⟨pc, nc, cc, rfl⟩ := own_slice ownc
          obtain rfl : nc = C.length := own_len ownc
          have csn := own_val seen i _ hi (flV_get m (Q ++ C) i hi)
          have hle := HI.out.le
          rw [List.length_append] at hle
          by_cases hin : i ∈ Q ++ C
          · rw [decide_eq_true hin] at csn
            have HQC := hidI (show cyN p Q k = Q ++ C from by rw [← HNI.out, cyN_done hin])
            have HIN := hidI hin
            clear hin
            have HAD := hidI (cyL_add HKQ.out (show cyN p (cyQ p k) k = cyQ p k ++ C from by rw [HQE.out]; exact HQC.out))
            have HBF := hidI (rowsC_before HRO.out HVL.out ownc (Nat.le_refl _))
            go_wp2_with (first | (refine r_idx 51 _ _ (.slice (some ⟨B4, 0, none⟩) m m) (.int .i64 i) _ rfl rfl (Try.boix7 B4 m m i hi _) rfl ?_) | (refine r_ldc 4 _ ⟨B4, i, none⟩ (.bool true) rfl (Try.isAgg4 _) csn rfl ?_) | (refine r_slice1 48 34 (.tmp 38) (.slice pc C.length cc) rfl (Try.bssi1 _ _ _ _) rfl ?_; intro w8 B8 N8; have g8 := N8.gr; have ownc := g8.row ownc; have own := g8.row own; have R := R.gr g8; have seen := g8.row seen; have gg := gg.trans g8; have z8 := g8.size) | (refine r_append (.tmp 37) (.tmp 39) 48 34 _ 1 24 w.heap.size Try.intSSI (.slice p7 L.length k7) L.length vs rfl own ⟨B8, 0, none⟩ 1 1 [.slice pc C.length cc] rfl rfl N8.cell1 (by intro u hu; simp at hu; subst hu; rfl) (by omega) (by decide) (by have := gg.size; omega) rfl ?_; intro v9 w9 own9 g9))
            have hz9 := g9.row ownc (own_ne2 ownc own (by decide))
            have R9 := R.grb own (by decide) g9
            have seen9 := g9.row seen (own_ne2 seen own (by decide))
            have gg9 := g9.gr gg (own_gr own (Nat.le_refl _))
            have R10 := R9.snoc HVL.out (own_up (by rw [zz_length]; exact hz9) (show w.heap.size ≤ wo.heap.size from zo)) HBF.out
            have hLE := HLE.out
            have hAD1 : zzz (cyL p (k + 1)) = L ++ [zz C] := by rw [HAD.out.1, zzz_snoc, hLE]
            have HA1 := hidI hAD1
            have HA2 := hidI (show cyQ p (k + 1) = Q ++ C from by rw [HAD.out.2, HQE.out])
            clear hAD1 hLE
            go_roundw
            case rel => exact ⟨k + 1, vs ++ [.slice pc C.length cc], by omega, by go_num, by rw [HA1.out, List.length_append]; exact own9, by rw [HA1.out]; exact R10, by rw [HA2.out]; exact seen9, gg9⟩
            case measure => simp [intOf]; omega
          · rw [decide_eq_false hin] at csn
            have HI2 := hidI (HI.out.add hi hin)
            have hroom := HI.out.room hi hin
            rw [List.length_append] at hroom
            obtain ⟨y, hy⟩ : ∃ y, y = p.getD i 0 := ⟨_, rfl⟩
            have hym := HLT.out i hi
            rw [← hy] at hym
            have HN2 := hidI (show cyN p ((Q ++ C) ++ [i]) y = cyN p Q k from by
              rw [← HNI.out, hy]
              exact (cyN_step (by rw [HM.out]; exact HI.out) (by rw [HM.out]; exact hi) hin).symm)
            have HK2 := hidI (show (C ++ [i] = [] ∧ y = k) ∨ (C ++ [i] ≠ [] ∧ k ∉ Q) from .inr ⟨by simp, by
              rcases HCK.out with ⟨e1, e2⟩ | ⟨-, e2⟩
              · subst e1 e2
                rw [List.append_nil] at hin
                exact hin
              · exact e2⟩)
            have hfs := flV_set m (Q ++ C) i
            have HFS := hidI hfs
            have HYH := hidI hy
            clear hin hfs hy
            go_wp2_with (first | (refine r_idx 51 _ _ (.slice (some ⟨B4, 0, none⟩) m m) (.int .i64 i) _ rfl rfl (Try.boix7 B4 m m i hi _) rfl ?_) | (refine r_ldc 4 _ ⟨B4, i, none⟩ (.bool false) rfl (Try.isAgg4 _) csn rfl ?_) | (refine r_store_own 4 4 _ _ B4 i m m w.heap.size (flV m (Q ++ C)) rfl (.bool true) rfl seen hi Try.sizeOf4 rfl rfl ?_; intro w5 u5 seen5; rw [HFS.out] at seen5; have ownc := u5.grb.row ownc (own_ne2 ownc seen (by decide)); have own := u5.grb.row own (own_ne2 own seen (by decide)); have R := R.grb seen (by decide) u5.grb; have gg := u5.gr gg lo4; have z5 := u5.size) | (refine r_slice1 34 3 (.tmp 34) (.int .i64 i) rfl (Try.bsi1 _ _) rfl ?_; intro w6 B6 N6; have g6 := N6.gr; have ownc := g6.row ownc; have own := g6.row own; have R := R.gr g6; have seen5 := g6.row seen5; have gg := gg.trans g6; have z6 := g6.size) | (refine r_append (.tmp 33) (.tmp 35) 34 3 _ 1 8 wo.heap.size Try.intsI (.slice pc C.length cc) C.length (intsV (zz C)) rfl ownc ⟨B6, 0, none⟩ 1 1 [.int .i64 i] rfl rfl N6.cell1 (by intro u hu; simp at hu; subst hu; rfl) (by omega) (by decide) (by omega) rfl ?_; intro v7 w7 own7 g7; have R := rowsC_grow R HRO.out ownc g7 (Nat.le_refl _); have own := g7.row own (own_ne2 own ownc (by decide)); have seen7 := g7.row seen5 (own_ne2 seen5 ownc (by decide)); have gg := g7.gr gg (own_gr ownc (by omega)); have z7 := g7.size; have cp := own_int (gg.row HP.out) i hi (by rw [zz_length, HM.out]); rw [zz_get (by rw [HM.out]; exact hi), ← HYH.out] at cp) | (refine r_idx 34 _ _ (.slice (some ⟨Gp, 0, none⟩) m cp0) (.int .i64 i) _ rfl rfl (Try.nsix Gp m cp0 i hi _) rfl ?_) | (refine r_ldc 3 _ ⟨Gp, i, none⟩ (.int .i64 y) rfl (Try.isAgg3 _) cp rfl ?_))
            have own8 : w7.ownsRow wo.heap.size 3 1 v7 (C ++ [i]).length (intsV (zz (C ++ [i]))) := by
              rw [List.length_append, zz_append, ← intsV_append]
              exact own7
            obtain ⟨p9, n9, c9, rfl⟩ := own_slice own8
            obtain rfl : n9 = (C ++ [i]).length := own_len own8
            rw [List.append_assoc] at seen7 HI2 HN2
            go_roundw
            case rel => exact ⟨C ++ [i], y, hym, rfl, own8, seen7, own, R, gg, by omega, HI2, HN2, HK2⟩
            case measure => rw [lenV_slice, lenV_slice, List.length_append, List.length_singleton]; omega
    · obtain rfl : k = m := by omega
      clear hlt
      go_wp2
      go_ret
      exact ⟨gg, _, _, rfl, by rw [HLE.out]; exact own, by rw [HLE.out]; exact R⟩
end Go.Proofs.Ytmjmjibokombiaa
