/-
  The number that a machine's outputs tell.
-/
import Derived.Test.YtcjmikafomlbiaaGreatDoorGateD
namespace Go.Proofs.YtcjmikafomlbiaaGreatDoor
open Go.RowKit
/-- The number of the first k outputs: the last one has its least place. -/
def otN (c : List UInt8) (L : List Int) : Nat → Nat
  | 0 => 0
  | k + 1 => 2 * otN c L k + if ballB (at0 c (gi L k).toNat) then 1 else 0
theorem otN_lt (c : List UInt8) (L : List Int) (k : Nat) : otN c L k < 2 ^ k := by
  induction k with
  | zero => exact Nat.one_pos
  | succ k ih =>
    unfold otN
    rw [Nat.pow_succ]
    split <;> omega
theorem otN_succ (c : List UInt8) (L : List Int) (k : Nat) : otN c L (k + 1) = 2 * otN c L k + if ballB (at0 c (gi L k).toNat) then 1 else 0 := rfl
set_option maxHeartbeats 800000 in
set_option maxRecDepth 100000 in
theorem outputOf_any (c : Int) (F : Nat → Grid) (sl : Value) (L : List Int) (base : Nat) (g : Grid) (w : World) (hl : L.length ≤ 3) (hown : w.ownsRow base 3 1 sl L.length (intsV L)) (hL : ∀ k, k < L.length → 0 ≤ gi L k ∧ gi L k < 36) :
    Calls Tryz.prog 43 #[.agg (mcC c F sl).toArray, .agg (gv g.w g.h g.c)] w (Ret (.int .i64 (otN g.c L L.length : Nat)) w) := by
  have gg := Gr.refl w
  obtain ⟨N, hN⟩ : ∃ N, N = L.length := ⟨_, rfl⟩
  have HI := hidI (fun k (hk : k < N) => intsV_getM L k (by omega))
  have HLL := hidI (fun k (hk : k < N) => hL k (by omega))
  rw [← hN] at hown hl ⊢
  clear hL hN
  obtain ⟨p, cap, rfl⟩ := own_sliceN hown
  go_enter Tryz.func43, Tryz.ntmps43
  go_wp2_with (first | ((refine r_box 45 _ ((mcC c F (.slice p N cap)).toArray) rfl rfl ?_; intro w1 B1 N1; have g1 := N1.gr; have b1 : Blk w1 B1 ((mcC c F (.slice p N cap)).toArray) 45 := N1.blk; have l1 := N1.lo; have t1 := N1.hi; have z1 := g1.size; have gg := gg.trans g1; clear N1); have own := g1.row hown) | ((refine r_box 42 _ (gv g.w g.h g.c) rfl rfl ?_; intro w2 B2 N2; have g2 := N2.gr; have b2 : Blk w2 B2 (gv g.w g.h g.c) 42 := N2.blk; have l2 := N2.lo; have t2 := N2.hi; have z2 := g2.size; have b1 := g2.blk b1; have gg := gg.trans g2; clear N2; obtain ⟨b2_0, b2_1, b2_2⟩ := gcells b2); have own := g2.row own) | (refine r_fld 45 _ 2 (.pointer (some ⟨B1, 0, none⟩)) (.pointer (some ⟨B1, 305, none⟩)) rfl (Tryz.mf2 B1 _) rfl ?_) | (refine r_ldc 22 _ ⟨B1, 305, none⟩ (.slice p N cap) rfl (Tryz.isAgg22 _) ((b1.cell 305).trans (by rw [List.getElem?_toArray]; exact mcC_outs _ _ _)) rfl ?_))
  have b2 := b2
  go_loopw [5, 11] (fun nv iv wr => ∃ k : Nat, k ≤ N ∧ iv = .int .i64 k ∧ nv = .int .i64 (otN g.c L k : Nat) ∧ Blk wr B2 (gv g.w g.h g.c) 42 ∧ wr.ownsRow base 3 1 (.slice p N cap) N (intsV L) ∧ Gr w wr) (fun _ iv _ => N - (intOf iv).toNat)
  case atStart => exact ⟨0, Nat.zero_le _, rfl, rfl, b2, own, gg⟩
  case round =>
    clear b1 b2 own gg
    obtain ⟨k, hk, rfl, rfl, b2, own, gg⟩ := hrel
    by_cases hlt : k < N
    · obtain ⟨G, cap', he, -, -⟩ := own_shape own (by omega)
      obtain ⟨rfl, rfl⟩ : p = some ⟨G, 0, none⟩ ∧ cap = cap' := by
        simp only [Value.slice.injEq] at he
        exact ⟨he.1, he.2.2⟩
      have hcell := (own.cellAt k (by omega)).trans (HI.out k hlt)
      have hz := HLL.out k hlt
      have HSU := hidI (otN_succ g.c L k)
      have hpow : (2 : Nat) ^ k ≤ 2 ^ 3 := Nat.pow_le_pow_right (by decide) (by omega)
      have hq8 : otN g.c L k ≤ 8 := by have := otN_lt g.c L k; omega
      obtain ⟨i, hi⟩ : ∃ i : Nat, gi L k = (i : Int) := ⟨(gi L k).toNat, by omega⟩
      have hi36 : i < 36 := by omega
      rw [hi] at hcell HSU
      have c2 : _ = some (Value.int .u8 (at0 g.c i).toNat) := (b2.cell (2 + i)).trans (gv_c _ _ g.c i hi36)
      have hix := Tryz.gix B2 i hi36
      obtain ⟨q, hq⟩ : ∃ q, q = otN g.c L k := ⟨_, rfl⟩
      rw [← hq] at HSU hq8 ⊢
      rw [Int.toNat_natCast] at HSU
      clear he hz hi hq hpow
      cases hb : ballB (at0 g.c i)
      · have HB := hidI hb
        have HS0 := hidI (show otN g.c L (k + 1) = 2 * q from by rw [HSU.out, hb]; rfl)
        clear hb
        go_wp2_with (first | (refine r_idx 22 _ _ (.slice (some ⟨G, 0, none⟩) N cap) (.int .i64 k) _ rfl rfl (Tryz.iixM G N cap k hlt _) rfl ?_) | (refine r_ldc 3 _ ⟨G, k, none⟩ (.int .i64 (i : Int)) rfl (Tryz.isAgg3 _) hcell rfl ?_) | (go_at_call 66; refine (isBall_any _ _).mono ?_; rintro e wSame ⟨rfl, rfl⟩; rw [HB.out]))
        go_roundw
        case rel => exact ⟨k + 1, by omega, by go_num, by rw [HS0.out]; go_num, b2, own, gg⟩
        case measure => simp [intOf]; omega
      · have HB := hidI hb
        have HS0 := hidI (show otN g.c L (k + 1) = 2 * q + 1 from by rw [HSU.out, hb]; rfl)
        clear hb
        go_wp2_with (first | (refine r_idx 22 _ _ (.slice (some ⟨G, 0, none⟩) N cap) (.int .i64 k) _ rfl rfl (Tryz.iixM G N cap k hlt _) rfl ?_) | (refine r_ldc 3 _ ⟨G, k, none⟩ (.int .i64 (i : Int)) rfl (Tryz.isAgg3 _) hcell rfl ?_) | (go_at_call 66; refine (isBall_any _ _).mono ?_; rintro e wSame ⟨rfl, rfl⟩; rw [HB.out]))
        go_roundw
        case rel => exact ⟨k + 1, by omega, by go_num, by rw [HS0.out]; go_num, b2, own, gg⟩
        case measure => simp [intOf]; omega
    · obtain rfl : k = N := by omega
      clear hlt
      go_wp2
      go_ret
      exact ⟨rfl, gg⟩
def tbC (count : Int) (R : Nat → Int) : List Value := .int .i64 count :: ((List.range 8).map fun j => .int .i64 (R j))
theorem tbC_length (count : Int) (R : Nat → Int) : (tbC count R).length = 9 := by unfold tbC; simp
theorem tbC_get (count : Int) (R : Nat → Int) {k : Nat} (hk : k < 8) : (tbC count R)[1 + k]? = some (.int .i64 (R k)) := by
  unfold tbC
  rw [Nat.add_comm, List.getElem?_cons_succ, List.getElem?_map, List.getElem?_range hk]
  rfl
theorem tbC_set (count : Int) (R : Nat → Int) {k : Nat} (hk : k < 8) (z : Int) : (tbC count R).toArray.setIfInBounds (1 + k) (.int .i64 z) = (tbC count (fun j => if j = k then z else R j)).toArray := by
  rw [List.setIfInBounds_toArray]
  congr 1
  unfold tbC
  rw [Nat.add_comm, List.set_cons_succ]
  congr 1
  apply List.ext_getElem?
  intro j
  rw [List.getElem?_set]
  by_cases h : k = j
  · subst h
    rw [if_pos rfl, if_pos (by simpa using hk), List.getElem?_map, List.getElem?_range hk]
    simp
  · rw [if_neg h, List.getElem?_map, List.getElem?_map]
    by_cases hj : j < 8
    · rw [List.getElem?_range hj]
      simp [show j ≠ k from fun e => h e.symm]
    · rw [List.getElem?_eq_none (by simpa using hj)]
      rfl
theorem tbC_one (count : Int) (R : Nat → Int) : ∀ v ∈ (tbC count R).toArray.toList, v.oneCell' = true := by
  intro v hv
  unfold tbC at hv
  rcases List.mem_cons.1 hv with rfl | hv
  · rfl
  · obtain ⟨j, -, rfl⟩ := List.mem_map.1 hv
    rfl
theorem Tryz.tbzero (w : World) : (zeroValue 51).run Tryz.prog w = .ok (.agg (tbC 0 (fun _ => 0)).toArray) w := by kernel_rfl
theorem Tryz.tbbuild (c : Int) (w : World) : (Instr.build 51 #[(0, .int .i64 c)]).run Tryz.prog w = .ok (.agg (tbC c (fun _ => 0)).toArray) w := by kernel_rfl
theorem Tryz.tbinfo (c : Int) (R : Nat → Int) : (Tryz.prog.info? 51).map (·.size) = some (tbC c R).toArray.size := by
  rw [List.size_toArray, tbC_length]
  kernel_rfl
theorem Tryz.tbsize (c : Int) (R : Nat → Int) (w : World) : (sizeOf 51).run Tryz.prog w = .ok (tbC c R).toArray.size w := by
  rw [List.size_toArray, tbC_length]
  kernel_rfl
theorem Tryz.tbf1 (B : Nat) (w : World) : (Instr.fieldAt 51 (.pointer (some ⟨B, 0, none⟩)) 1).run Tryz.prog w = .ok (.pointer (some ⟨B, 1, none⟩)) w := by kernel_rfl
theorem Tryz.tbix (B k : Nat) (hk : k < 8) (w : World) : (Instr.indexAt 49 (.pointer (some ⟨B, 1, none⟩)) (.int .i64 k)).run Tryz.prog w = .ok (.pointer (some ⟨B, 1 + k, none⟩)) w := by
  have hl : Tryz.prog.arrayLen 49 = 8 := by kernel_rfl
  have he : Tryz.prog.elem 49 = 3 := by kernel_rfl
  rw [run_indexAt_array w 49 ⟨B, 1, none⟩ .i64 k (by rw [hl, he]; exact Tryz.underlying49), if_pos (by rw [hl]; omega), he]
  simp [Tryz.sizeOf3, Result.andThen, Addr.add]
/-- The first k numbers told. -/
def tdR (R : Nat → Int) (k : Nat) : Nat → Int := fun j => if j < k then R j else 0
theorem tdR_zero (R : Nat → Int) : tdR R 0 = fun _ => 0 := by funext j; unfold tdR; rw [if_neg (Nat.not_lt_zero _)]
theorem tdR_succ (R : Nat → Int) (k : Nat) : (fun j => if j = k then R k else tdR R k j) = tdR R (k + 1) := by
  funext j
  unfold tdR
  by_cases h : j = k
  · rw [if_pos h, if_pos (by omega), h]
  · rw [if_neg h]
    by_cases h2 : j < k
    · rw [if_pos h2, if_pos (by omega)]
    · rw [if_neg h2, if_neg (by omega)]
set_option maxHeartbeats 800000 in
set_option maxRecDepth 100000 in
theorem table_any (c : Nat) (F : Nat → Grid) (sl : Value) (L : List Int) (base : Nat) (w : World) (hc : c ≤ 8) (hl : L.length ≤ 3) (hown : w.ownsRow base 3 1 sl L.length (intsV L)) (hL : ∀ k, k < L.length → 0 ≤ gi L k ∧ gi L k < 36) :
    Calls Tryz.prog 22 #[.agg (mcC c F sl).toArray] w (Ret (.agg (tbC c (tdR (fun j => ((otN (F j).c L L.length : Nat) : Int)) c)).toArray) w) := by
  have gg := Gr.refl w
  have HOO := hidI (fun (k : Nat) (w' : World) (own : w'.ownsRow base 3 1 sl L.length (intsV L)) => outputOf_any c F sl L base (F k) w' hl own hL)
  have HOW := hidI hown
  obtain ⟨R, hR⟩ : ∃ R : Nat → Int, R = fun j => ((otN (F j).c L L.length : Nat) : Int) := ⟨_, rfl⟩
  have HO := hidI (fun (k : Nat) (w' : World) (g : Gr w w') => show Calls Tryz.prog 43 #[.agg (mcC c F sl).toArray, .agg (gvG (F k))] w' (Ret (.int .i64 (R k)) w') from by rw [hR]; exact HOO.out k w' (g.row hown))
  have HT0 := hidI (tdR_zero R)
  rw [← hR]
  clear hR hL HOO hown hl
  go_enter Tryz.func22, Tryz.ntmps22
  go_wp2_with (first | (refine r_box 45 _ ((mcC c F sl).toArray) rfl rfl ?_; intro w1 B1 N1; have g1 := N1.gr; have b1 : Blk w1 B1 ((mcC c F sl).toArray) 45 := N1.blk; have l1 := N1.lo; have t1 := N1.hi; have z1 := g1.size; have gg := gg.trans g1; clear N1) | (refine r_alloc (dst := some 2) 51 _ Tryz.tbzero rfl ?_; intro w2 B2 N2; have g2 := N2.gr; have b2 : Blk w2 B2 ((tbC 0 (fun _ => 0)).toArray) 51 := N2.blk; have l2 := N2.lo; have t2 := N2.hi; have z2 := g2.size; have b1 := g2.blk b1; have gg := gg.trans g2; clear N2) | (refine r_alloc (dst := some 3) 51 _ Tryz.tbzero rfl ?_; intro w3 B3 N3; have g3 := N3.gr; have b3 : Blk w3 B3 ((tbC 0 (fun _ => 0)).toArray) 51 := N3.blk; have l3 := N3.lo; have t3 := N3.hi; have z3 := g3.size; have b1 := g3.blk b1; have b2 := g3.blk b2; have gg := gg.trans g3; clear N3) | (refine r_fld 45 _ 0 (.pointer (some ⟨B1, 0, none⟩)) (.pointer (some ⟨B1, 0, none⟩)) rfl (Tryz.mf0 B1 _) rfl ?_) | (refine r_ldc 3 _ ⟨B1, 0, none⟩ (.int .i64 (c : Int)) rfl (Tryz.isAgg3 _) ((b1.cell 0).trans (by rw [List.getElem?_toArray]; rfl)) rfl ?_) | (refine r_build 51 [(0, .tmp 6)] [(0, .int .i64 (c : Int))] _ (Tryz.tbbuild _ _) rfl rfl ?_) | (refine r_store_row 51 51 _ _ B3 rfl (tbC c (fun _ => 0)).toArray _ rfl b3 (Tryz.tbsize _ _) (by simp only [List.size_toArray, tbC_length]) (tbC_one _ _) rfl ?_; intro w4 u4 b34; have b1 := u4.blk b1 (by omega); have b2 := u4.blk b2 (by omega); have gg := u4.gr gg (by omega)))
  rw [← HT0.out] at b34
  have lo1 : w.heap.size ≤ B1 := by omega
  have lo2 : w.heap.size ≤ B2 := by omega
  have lo3 : w.heap.size ≤ B3 := by omega
  have n13 : B1 ≠ B3 := by omega
  have n23 : B2 ≠ B3 := by omega
  have b3 := b34
  go_loopw [10] (fun iv wr => ∃ k : Nat, k ≤ c ∧ iv = .int .i64 k ∧ Blk wr B1 (mcC c F sl).toArray 45 ∧ Blk wr B2 (tbC 0 (fun _ => 0)).toArray 51 ∧ Blk wr B3 (tbC c (tdR R k)).toArray 51 ∧ Gr w wr) (fun iv _ => c - (intOf iv).toNat)
  case atStart => exact ⟨0, Nat.zero_le _, rfl, b1, b2, b3, gg⟩
  case round =>
    clear b1 b2 b3 b34 gg
    obtain ⟨k, hk, rfl, b1, b2, b3, gg⟩ := hrel
    have zr := gg.size
    by_cases hlt : k < c
    · have hk8 : k < 8 := by omega
      have HNX := hidI (tdR_succ R k)
      have HGF := hidI (show (Tryz.prog.info? 42).map (·.size) = some (gvG (F k)).toList.length from by rw [Array.length_toList]; exact Tryz.ginfo' ((F k).w : Int) ((F k).h : Int) (F k).c)
      obtain ⟨x, hx⟩ : ∃ x, x = gvG (F k) := ⟨_, rfl⟩
      have HRG := hidI (fun (w' : World) (b : Blk w' B1 (mcC c F sl).toArray 45) => show w'.rangeAt B1 (1 + k * 38) x.toList from hx ▸ mc_range b hk8)
      have HOK := hidI (HO.out k)
      rw [← hx] at HGF HOK
      clear hx
      obtain ⟨S, hS⟩ : ∃ S, S = tdR R k := ⟨_, rfl⟩
      rw [← hS] at HNX b3
      clear hS
      obtain ⟨z, hz⟩ : ∃ z, z = R k := ⟨_, rfl⟩
      rw [← hz] at HNX HOK
      clear hz
      go_wp2
      have gd := (Gr.refl wr).drew
      have b1 := gd.blk b1
      have b2 := gd.blk b2
      have b3 := gd.blk b3
      have gg := gg.trans gd
      refine F_begin (fun w => Blk w B1 (mcC c F sl).toArray 45) 9 10 #[false, false, false, false, false, false, false, false, false, false] rfl (by kernel_rfl) (by kernel_rfl) ?_
      generalize wr.drew = wd at *
      refine F_free (v := .int .i64 k) 0 #[true, false, false, false, false, false, false, false, false, false] rfl (by kernel_rfl) (fun _ _ _ h => h) rfl (fun _ => rfl) (b1) ?_; simp only [Act.put, List.setIfInBounds_toArray, List.set_cons_succ, List.set_cons_zero]
      refine F_take (v := .agg (mcC c F sl).toArray) 1 #[true, true, false, false, false, false, false, false, false, false] rfl (by kernel_rfl) (fun _ _ _ h => h) rfl (fun w hF => e_load_row 45 (.tmp 1) B1 _ _ _ rfl hF Tryz.underlying45 rfl (Tryz.minfo _ _ _)) (b1) ?_; simp only [Act.put, List.setIfInBounds_toArray, List.set_cons_succ, List.set_cons_zero]
      refine F_free (v := .int .i64 k) 2 #[true, true, true, false, false, false, false, false, false, false] rfl (by kernel_rfl) (fun _ _ _ h => h) rfl (fun _ => rfl) (b1) ?_; simp only [Act.put, List.setIfInBounds_toArray, List.set_cons_succ, List.set_cons_zero]
      refine F_free (v := .pointer (some ⟨B1, 1, none⟩)) 3 #[true, true, true, true, false, false, false, false, false, false] rfl (by kernel_rfl) (fun _ _ _ h => h) rfl (fun _ => e_val _ _ (Tryz.mf1 B1 _)) (b1) ?_; simp only [Act.put, List.setIfInBounds_toArray, List.set_cons_succ, List.set_cons_zero]
      refine F_free (v := .pointer (some ⟨B1, 1 + k * 38, none⟩)) 4 #[true, true, true, true, true, false, false, false, false, false] rfl (by kernel_rfl) (fun _ _ _ h => h) rfl (fun _ => e_val _ _ (Tryz.mix B1 k hk8 _)) (b1) ?_; simp only [Act.put, List.setIfInBounds_toArray, List.set_cons_succ, List.set_cons_zero]
      refine F_take (v := .agg x) 5 #[true, true, true, true, true, true, false, false, false, false] rfl (by kernel_rfl) (fun _ _ _ h => h) rfl (fun w hF => e_load_mid 42 (.tmp 17) B1 (1 + k * 38) x.toList _ rfl (HRG.out _ hF) Tryz.underlying42 rfl HGF.out) (b1) ?_; simp only [Act.put, List.setIfInBounds_toArray, List.set_cons_succ, List.set_cons_zero]
      refine F_free (v := .pointer (some ⟨B3, 1, none⟩)) 7 #[true, true, true, true, true, true, false, true, false, false] rfl (by kernel_rfl) (fun _ _ _ h => h) rfl (fun _ => e_val _ _ (Tryz.tbf1 B3 _)) (b1) ?_; simp only [Act.put, List.setIfInBounds_toArray, List.set_cons_succ, List.set_cons_zero]
      refine F_one 6 #[true, true, true, true, true, true, true, true, false, false] rfl (by kernel_rfl) ?_
      refine r_call 43 [.tmp 14, .tmp 18] _ [.agg (mcC c F sl).toArray, .agg x] (.int .i64 z) (fun w' => Gr wd w') Tryz.call43 rfl rfl (HOK.out wd gg) ?_
      intro w6 g6
      have b1 := g6.blk b1
      have b2 := g6.blk b2
      have b3 := g6.blk b3
      have gg := gg.trans g6
      refine ⟨fun _ => b1, ?_⟩
      simp only [Act.put, List.setIfInBounds_toArray, List.set_cons_succ, List.set_cons_zero]
      refine F_free (v := .pointer (some ⟨B3, 1 + k, none⟩)) 8 #[true, true, true, true, true, true, true, true, true, false] rfl (by kernel_rfl) (fun _ _ _ h => h) rfl (fun _ => e_val _ _ (Tryz.tbix B3 k hk8 _)) (b1) ?_; simp only [Act.put, List.setIfInBounds_toArray, List.set_cons_succ, List.set_cons_zero]
      refine F_one 9 #[true, true, true, true, true, true, true, true, true, true] rfl (by kernel_rfl) ?_
      refine r_store_cell 3 51 _ _ B3 (1 + k) rfl (.int .i64 z) rfl _ b3 (by rw [List.size_toArray, tbC_length]; omega) Tryz.sizeOf3 rfl rfl ?_
      intro w7 u7 b37
      rw [tbC_set _ _ hk8, HNX.out] at b37
      have b1 := u7.blk b1 n13
      have b2 := u7.blk b2 n23
      have gg := u7.gr gg lo3
      refine ⟨fun h => (by cases h), ?_⟩
      simp only [Act.put]
      refine F_done (by kernel_rfl) ?_
      go_wp2
      go_roundw
      case rel => exact ⟨k + 1, by omega, by go_num, b1, b2, b37, gg⟩
      case measure => simp [intOf]; omega
    · obtain rfl : k = c := by omega
      clear hlt
      go_wp2_with (first | (refine r_load_row 51 (.tmp 3) _ rfl _ _ _ b3 Tryz.underlying51 rfl (Tryz.tbinfo _ _) rfl ?_) | (refine r_store_row 51 51 _ _ B2 rfl (tbC k (tdR R k)).toArray _ rfl b2 (Tryz.tbsize _ _) (by simp only [List.size_toArray, tbC_length]) (tbC_one _ _) rfl ?_; intro w7 u7 b27))
      refine bodyPost_ret (results_row rfl _ _ B2 51 _ _ rfl b27 Tryz.underlying51 rfl (Tryz.tbinfo _ _)) rfl ?_
      exact ⟨rfl, u7.gr gg lo2⟩
end Go.Proofs.YtcjmikafomlbiaaGreatDoor
