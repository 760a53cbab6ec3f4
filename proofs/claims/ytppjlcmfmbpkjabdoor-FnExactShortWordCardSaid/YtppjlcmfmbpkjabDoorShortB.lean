/-
  A word without repeated directions: in the program and in the model, and the law.
-/
import Derived.Test.YtppjlcmfmbpkjabDoorBWd
import Derived.Test.YtppjlcmfmbpkjabDoorShelfS
namespace Go.Proofs.YtppjlcmfmbpkjabDoor
open Go.RowKit Go.Lib Go.Sort
/-- A word's first j bytes without repeated ones. -/
def shL (l : List UInt8) : Nat → List UInt8
  | 0 => []
  | j + 1 => if j = 0 ∨ at0 l j ≠ at0 l (j - 1) then shL l j ++ [at0 l j] else shL l j
theorem shL_length (l : List UInt8) (j : Nat) : (shL l j).length ≤ j := by
  induction j with
  | zero => exact Nat.le_refl _
  | succ j ih => unfold shL; split <;> (try rw [List.length_append, List.length_singleton]) <;> omega
def ints (l : List UInt8) : Array Int := (l.map fun b => (b.toNat : Int)).toArray
theorem ints_size (l : List UInt8) : (ints l).size = l.length := by simp [ints]
theorem ints_at (l : List UInt8) (j : Nat) (h : j < l.length) : (ints l)[j]! = ((at0 l j).toNat : Int) := by
  rw [getElem!_pos (ints l) j (by rw [ints_size]; exact h)]
  unfold ints at0
  simp [List.getD, h]
theorem compact_eq (l : List UInt8) (m : Nat) (hm : m ≤ l.length) : compactUpTo (ints l) m = (shL l m).map fun b => (b.toNat : Int) := by
  induction m with
  | zero => rfl
  | succ m ih =>
    have ih := ih (by omega)
    have e : compactUpTo (ints l) (m + 1) = compactUpTo (ints l) m ++ if keeps (ints l) m = true then [(ints l)[m]!] else [] := by
      unfold compactUpTo
      rw [List.range_succ, List.filter_append, List.map_append]
      congr 1
      by_cases hk : keeps (ints l) m = true
      · rw [if_pos hk]; simp [hk]
      · rw [if_neg hk]; simp [hk]
    rw [e, ih, ints_at l m (by omega)]
    have hk : (keeps (ints l) m = true) ↔ (m = 0 ∨ at0 l m ≠ at0 l (m - 1)) := by
      unfold keeps
      rw [decide_eq_true_eq]
      rcases Nat.eq_zero_or_pos m with h0 | h0
      · simp [h0]
      · rw [ints_at l m (by omega), ints_at l (m - 1) (by omega)]
        refine or_congr Iff.rfl (not_congr ⟨fun h => UInt8.toNat_inj.1 (by omega), fun h => by rw [h]⟩)
    by_cases h : m = 0 ∨ at0 l m ≠ at0 l (m - 1)
    · rw [if_pos (hk.2 h), shL, if_pos h, List.map_append]
      rfl
    · rw [if_neg (fun q => h (hk.1 q)), shL, if_neg h, List.append_nil]
set_option maxHeartbeats 1000000 in
theorem compact_any (w0 : World) (B cap : Nat) (c : List UInt8) (w : World) (hb : BB w B c 5) (g : Gr w0 w) (lo : w0.heap.size ≤ B) (hcap : c.length ≤ cap) (hn : c.length ≤ 1048576) :
    Calls Tryd.prog 44 #[.slice (some ⟨B, 0, none⟩) c.length cap] w fun e w' => e = .returned (.slice (some ⟨B, 0, none⟩) (shL c c.length).length cap) ∧ Gr w0 w' ∧ Lib.Bytes w' B 0 (mkS (shL c c.length)) := by
  obtain ⟨cs, fr, h1, h2, h3, h4⟩ := hb
  have hH : Holds (Value.int .u8) w B 0 (ints c) := by
    intro j hj
    rw [ints_size] at hj
    rw [Nat.zero_add, ints_at c j hj]
    refine ⟨(cell_of_row w B j cs 5 fr h1).trans (h4 j hj), ?_⟩
    obtain ⟨lo', hi'⟩ := fr
    unfold World.frozen?
    simp only [h1]
    have h3' : cs.size ≤ lo' := h3
    have : ¬ lo' ≤ j := by omega
    simp [this]
  have key := AnyE.slices_Compact Tryd.compL (Value.int .u8) (fun _ => rfl) (EqlAt.intD _ _ .u8) (NeqAt.intD _ _ .u8) 0 Tryd.zeroValue5 B 0 cap (ints c) w hH (by rw [ints_size]; omega) (by rw [ints_size]; exact hcap)
  have e1 : compactUpTo (ints c) (ints c).size = (shL c c.length).map fun b => (b.toNat : Int) := by rw [ints_size]; exact compact_eq c _ (Nat.le_refl _)
  rw [e1, ints_size, List.length_map] at key
  refine key.mono ?_
  rintro e w' ⟨rfl, q, rfl⟩
  have hle := shL_length c c.length
  obtain ⟨D, hD⟩ : ∃ D : Array Int, D = (((shL c c.length).map fun b => (b.toNat : Int)) ++ List.replicate (c.length - (shL c c.length).length) (0 : Int)).toArray := ⟨_, rfl⟩
  rw [← hD]
  have hDs : D.size = c.length := by rw [hD]; simp; omega
  have hh : (putRow (Value.int .u8) (Sort.ahead w q) B 0 D).heap[B]? = some (.cells (putCells (Value.int .u8) 0 D cs) 5 fr) := by
    unfold putRow mapBlock
    show ((Sort.ahead w q).heap.modify B _)[B]? = _
    rw [Array.getElem?_modify, if_pos rfl]
    show Option.map _ (w.heap[B]?) = _
    rw [h1]
    rfl
  refine ⟨rfl, ⟨g.os, g.tape, g.output, ?_, fun k hk => ?_⟩, ?_⟩
  · unfold putRow mapBlock
    show _ ≤ ((Sort.ahead w q).heap.modify B _).size
    rw [Array.size_modify]
    exact g.size
  · unfold putRow mapBlock
    show ((Sort.ahead w q).heap.modify B _)[k]? = _
    rw [Array.getElem?_modify, if_neg (by omega)]
    exact g.block k hk
  · intro i hi
    have hl : i < (shL c c.length).length := by rw [← mkS_size]; exact hi
    rw [Nat.zero_add, cell_of_row _ B i _ _ _ hh, mkS_at]
    unfold putCells
    rw [Array.getElem?_mapIdx, Array.getElem?_eq_getElem (by omega)]
    simp only [Option.map_some]
    rw [if_pos ⟨Nat.zero_le _, by omega⟩, Nat.sub_zero, getElem!_pos D i (by omega)]
    have e2 : D[i]'(by omega) = ((at0 (shL c c.length) i).toNat : Int) := by
      subst hD
      rw [List.getElem_toArray, List.getElem_append_left (by simpa using hl)]
      unfold at0
      simp [List.getD, hl]
    rw [e2]
def shB (s : ByteArray) : ByteArray := if wordB s then mkS (shL s.data.toList s.size) else ⟨#[]⟩
set_option maxHeartbeats 1000000 in
set_option maxRecDepth 100000 in
theorem iShortWord (s : ByteArray) (w : World) : Calls Tryd.prog 20 #[.string s] w (Ret (.tuple #[.string (shB s), .bool (wordB s)]) w) := by
  have gg := Gr.refl w
  have hsl : s.data.toList.length = s.size := Array.length_toList
  cases h1 : wordB s
  · have H1 := hidI h1
    have HV := hidI (show shB s = ⟨#[]⟩ from by unfold shB; rw [h1]; rfl)
    clear h1
    go_enter Tryd.func20, Tryd.ntmps20
    go_wp2_with (go_at_call 43; refine (iIsWord s _).mono ?_; rintro e w1 ⟨rfl, g1⟩; rw [H1.out]; have z1 := g1.size; have gg := gg.trans g1)
    go_ret2
    exact ⟨fin_sb HV.out.symm rfl, gg⟩
  · have H1 := hidI h1
    have h40 := (wordB_iff.1 h1).1
    have HV := hidI (show shB s = mkS (shL s.data.toList s.data.toList.length) from by unfold shB; rw [h1, hsl]; rfl)
    clear h1
    go_enter Tryd.func20, Tryd.ntmps20
    go_wp2_with (first | (go_at_call 43; refine (iIsWord s _).mono ?_; rintro e w1 ⟨rfl, g1⟩; rw [H1.out]; have z1 := g1.size; have gg := gg.trans g1) | (refine r_bytes 9 35 5 _ s rfl Tryd.underlying9 Tryd.underlying35 Tryd.underlying5 rfl ?_; intro w2 B2 cap2 g2 l2 b2 hcap; have z2 := g2.size; have gg := gg.trans g2))
    have HC := hidI (compact_any w B2 cap2 s.data.toList w2 b2 gg (by omega) (by omega) (by omega))
    rw [hsl] at HC
    refine HC.out.mono ?_
    rintro e w3 ⟨rfl, g3, hB⟩
    have HB := hidI hB
    rw [hsl] at HV
    go_wp2_with (refine r_conv 35 9 _ _ (.string (mkS (shL s.data.toList s.size))) rfl (Tryd.conv B2 0 _ _ _ HB.out _ (mkS_size _)) rfl ?_)
    go_ret2
    exact ⟨fin_sb HV.out.symm rfl, g3⟩
theorem Tryd.sidk (s : ByteArray) (i : Nat) (h : i < s.size) (k : Int) (hk : k = (i : Int)) (w : World) : (Instr.index 9 (.string s) (.int .i64 k)).run Tryd.prog w = .ok (.int .u8 (s[i]'h).toNat) w := by
  subst hk
  rw [run_index_string (P := Tryd.prog) w 9 s .i64 i Tryd.underlying9, dif_pos ⟨by omega, by omega⟩]
  rfl
set_option maxHeartbeats 1000000 in
set_option maxRecDepth 100000 in
theorem tiShort_any (s : ByteArray) (w : World) (hs : s.size ≤ 40) : Calls Tryd.prog 42 #[.string s] w (Ret (.string (mkS (shL s.data.toList s.size))) w) := by
  have gg := Gr.refl w
  have hsl : s.data.toList.length = s.size := Array.length_toList
  go_enter Tryd.func42, Tryd.ntmps42
  go_wp2
  go_loopw [3, 4] (fun ov iv wr => ∃ j : Nat, j ≤ s.size ∧ iv = .int .i64 j ∧ ov = .string (mkS (shL s.data.toList j)) ∧ Gr w wr) (fun _ iv _ => s.size - (RowKit.intOf iv).toNat)
  case atStart => exact ⟨0, Nat.zero_le _, rfl, rfl, gg⟩
  case round =>
    obtain ⟨j, hj, rfl, rfl, gg⟩ := hrel
    by_cases hlt : j < s.size
    · have hln := shL_length s.data.toList j
      have hat : ∀ i (h : i < s.size), s[i]'h = at0 s.data.toList i := fun i h => by
        rw [ByteArray.getElem_eq_getElem_data]
        show _ = s.data.toList.getD i 0
        rw [List.getD_eq_getElem?_getD, List.getElem?_eq_getElem (by omega)]
        simp
      have hix := fun w => Tryd.sidk s j hlt (j : Int) rfl w
      rw [hat j hlt] at hix
      have hsub := Tryd.ssub s j hlt
      rw [hat j hlt] at hsub
      have hadd := fun w => run_string_add_sum (P := Tryd.prog) w (mkS (shL s.data.toList j)) ⟨#[at0 s.data.toList j]⟩ (by show (mkS (shL s.data.toList j)).size + 1 ≤ _; rw [mkS_size]; omega)
      rcases Nat.eq_zero_or_pos j with h0 | h0
      · have hj0 : ((j : Int) == 0) = true := by rw [h0]; rfl
        have HS := hidI (show mkS (shL s.data.toList j) ++ ⟨#[at0 s.data.toList j]⟩ = mkS (shL s.data.toList (j + 1)) from by rw [mkS_append, shL, if_pos (.inl h0)])
        clear hat h0
        go_wp2
        go_quiet (fail)
        have gg := gg.drewN nq
        go_wp2
        go_roundw
        case rel => exact ⟨j + 1, by omega, by go_num, by rw [HS.out], gg⟩
        case measure => simp [RowKit.intOf]; omega
      · have hp : j - 1 < s.size := by omega
        have hiy := fun w => Tryd.sidk s (j - 1) hp ((j : Int) - 1) (by omega) w
        rw [hat _ hp] at hiy
        have hj0 : ((j : Int) == 0) = false := by rw [beq_eq_false_iff_ne]; omega
        by_cases hb : at0 s.data.toList j = at0 s.data.toList (j - 1)
        · have HS := hidI (show shL s.data.toList (j + 1) = shL s.data.toList j from by rw [shL, if_neg (fun h => h.elim (fun e => by omega) (fun e => e hb))])
          have e1 : (((at0 s.data.toList j).toNat : Int) != ((at0 s.data.toList (j - 1)).toNat : Int)) = false := by rw [hb]; simp
          clear hat hb
          go_wp2
          go_quiet (fail)
          have gg := gg.drewN nq
          go_wp2
          go_roundw
          case rel => exact ⟨j + 1, by omega, by go_num, by rw [HS.out], gg⟩
          case measure => simp [RowKit.intOf]; omega
        · have HS := hidI (show mkS (shL s.data.toList j) ++ ⟨#[at0 s.data.toList j]⟩ = mkS (shL s.data.toList (j + 1)) from by rw [mkS_append, shL, if_pos (.inr hb)])
          have e1 : (((at0 s.data.toList j).toNat : Int) != ((at0 s.data.toList (j - 1)).toNat : Int)) = true := by
            rw [bne_iff_ne]; intro e; exact hb (UInt8.toNat_inj.1 (by omega))
          clear hat hb
          go_wp2
          go_quiet (fail)
          have gg := gg.drewN nq
          go_wp2
          go_roundw
          case rel => exact ⟨j + 1, by omega, by go_num, by rw [HS.out], gg⟩
          case measure => simp [RowKit.intOf]; omega
    · obtain rfl : j = s.size := by omega
      clear hlt
      go_wp2
      go_ret
      exact ⟨rfl, gg⟩
theorem sShortWord (s : ByteArray) (w : World) : Calls Tryd.prog 19 #[.string s] w (Ret (.tuple #[.string (shB s), .bool (wordB s)]) w) := by
  have gg := Gr.refl w
  cases h1 : wordB s
  · have H1 := hidI h1
    have HV := hidI (show shB s = ⟨#[]⟩ from by unfold shB; rw [h1]; rfl)
    clear h1
    go_enter Tryd.func19, Tryd.ntmps19
    go_wp2_with (go_at_call 41; refine (tiWord_any s _).mono ?_; rintro e w1 ⟨rfl, g1⟩; rw [H1.out]; have z1 := g1.size; have gg := gg.trans g1)
    go_ret2
    exact ⟨fin_sb HV.out.symm rfl, gg⟩
  · have H1 := hidI h1
    have h40 := (wordB_iff.1 h1).1
    have HV := hidI (show shB s = mkS (shL s.data.toList s.size) from by unfold shB; rw [h1]; rfl)
    clear h1
    go_enter Tryd.func19, Tryd.ntmps19
    go_wp2_with (first | (go_at_call 41; refine (tiWord_any s _).mono ?_; rintro e w1 ⟨rfl, g1⟩; rw [H1.out]; have z1 := g1.size; have gg := gg.trans g1) | (go_at_call 42; refine (tiShort_any s _ h40).mono ?_; rintro e w2 ⟨rfl, g2⟩; have z2 := g2.size; have gg := gg.trans g2))
    go_ret2
    exact ⟨fin_sb HV.out.symm rfl, gg⟩
theorem lawShortWord (s : ByteArray) (w : World) : Calls Tryd.prog 7 #[.string s] w (Ret (.bool true) w) := by
  have gg := Gr.refl w
  by_cases hs : 1048576 < s.size
  · go_enter Tryd.func7, Tryd.ntmps7
    go_wp2
    go_ret
    exact ⟨rfl, gg⟩
  · have hs' : s.size ≤ 1048576 := by omega
    clear hs
    go_enter Tryd.func7, Tryd.ntmps7
    go_wp2_with (first | (go_at_call 19; refine (sShortWord s _).mono ?_; rintro e w1 ⟨rfl, g1⟩; have z1 := g1.size; have gg := gg.trans g1) | (go_at_call 20; refine (iShortWord s _).mono ?_; rintro e w2 ⟨rfl, g2⟩; have z2 := g2.size; have gg := gg.trans g2))
    go_ret
    exact ⟨rfl, gg⟩
end Go.Proofs.YtppjlcmfmbpkjabDoor
