/-
  How many trays a move keeps: the model's table.
-/
import Derived.Test.YtmjmjibokombiaaKepM
namespace Go.Proofs.Ytmjmjibokombiaa
open Go.RowKit
theorem own_zerosK {w w1 : World} {B n : Nat} {T : TypeId} (N : New w w1 B (madeCells (Value.int .i64 0).cells (n * 1)) T) (hn : n ≤ 1073741824) : w1.ownsRow w.heap.size T 1 (.slice (some ⟨B, 0, none⟩) n n) n (intsV ((List.range n).map fun _ => (0 : Int))) := by
  refine ⟨by simp [intsV], .inr ⟨B, n, _, rfl, N.lo, N.blk, Nat.le_refl _, by unfold maxLen; omega, size_madeCells _ _, ?_⟩⟩
  apply List.ext_getElem?
  intro i
  by_cases hi : i < n
  · rw [List.getElem?_take, if_pos (by omega)]
    unfold madeCells intsV
    simp [hi]
    have e : (Value.int .i64 0).cells = #[Value.int .i64 0] := rfl
    rw [e]
    simp [Nat.mod_one]
  · rw [List.getElem?_eq_none (by simp; omega), List.getElem?_eq_none (by simp [intsV]; omega)]
theorem gi_setK (L : List Int) (i j : Nat) (x : Int) (h : i < L.length) : gi (L.set i x) j = if j = i then x else gi L j := by
  unfold gi
  simp only [List.getD_eq_getElem?_getD, List.getElem?_set]
  by_cases e : i = j
  · subst e; rw [if_pos rfl, if_pos rfl, if_pos h]; rfl
  · rw [if_neg e, if_neg (fun h => e h.symm)]
section
variable {P : Program} {w : World} {ops : Array Oper} {rest : List Oper} {a : Act} {Q : Exit → Act → World → Prop} {dst : Option Tmp} {ty : TypeId} {pos : String} {aft : Array Edge} {gd : Option (Nat × Bool)}
theorem r_addN {T yt : TypeId} (x y : Operand) (m n r : Int) (hx : a.eval x = .int .i64 m) (hy : a.eval y = .int .i64 n) (hr : m + n = r) (h : -9223372036854775808 ≤ r ∧ r ≤ 9223372036854775807)
    (hgd : Region.wanted ⟨dst, .binOp .add T x y yt, ty, pos, aft, gd⟩ (yielded ops a.tmps) = true) (hh : wpList P ops Q rest (a.put dst (.int .i64 r)) w) : wpList P ops Q (⟨dst, .binOp .add T x y yt, ty, pos, aft, gd⟩ :: rest) a w :=
  r_val _ (e_addK x y m n r hx hy hr h) hgd hh
end
theorem Try.bs0K (w : World) : (Instr.buildSlice 34 0 #[]).run Try.prog w = .ok (.slice (some ⟨w.heap.size, 0, none⟩) 0 0) (w.alloc (.cells #[] 3)) := by kernel_rfl
theorem Try.iixK (g n cap k : Nat) (hk : k < n) (w : World) : (Instr.indexAt 34 (.slice (some ⟨g, 0, none⟩) n cap) (.int .i64 k)).run Try.prog w = .ok (.pointer (some ⟨g, k, none⟩)) w := by
  have he : Try.prog.elem 34 = 3 := by kernel_rfl
  have hu : Try.prog.underlying 34 = some (.slice (Try.prog.elem 34)) := by rw [he]; exact Try.underlying34
  have hs : (sizeOf 3).run Try.prog w = .ok 1 w := by kernel_rfl
  rw [run_indexAt_slice w 34 ⟨g, 0, none⟩ n cap .i64 k hu, if_pos (by omega), he]
  simp [hs, Result.andThen, add_flat]
set_option maxHeartbeats 10000000 in
set_option maxRecDepth 100000 in
theorem cnKept_any (W H A B k0 : Nat) (w : World) (hg : PmG W H k0) (h1 : 1 ≤ W) (hw : W ≤ 7) (hh : H ≤ 7) (n36 : nn W H ≤ 36) (hk8 : k0 < 8) (hA : A ≤ 36) (hB : B ≤ 36) :
    Calls Try.prog 10 #[.int .i64 W, .int .i64 H, .int .i64 A, .int .i64 B, .int .i64 k0] w (Ret (.int .i64 (dpK (szs (pmM W H k0)) (szs (pmM W H k0)).length A B : Nat)) w) := by
  have gg := Gr.refl w
  have HCY := hidI (fun w' => cnCycles_any W H k0 w' hg h1 hw hh n36 hk8)
  obtain ⟨Z, hZ⟩ : ∃ Z, Z = szs (pmM W H k0) := ⟨_, rfl⟩
  obtain ⟨m, hm⟩ : ∃ m, m = Z.length := ⟨_, rfl⟩
  have hm36 : m ≤ 36 := by rw [hm, hZ]; exact hg.le
  rw [← hZ, ← hm] at HCY
  rw [← hZ, ← hm]
  have HZ1 := hidI (fun j (hj : j < m) => show 1 ≤ Z.getD j 0 ∧ Z.getD j 0 ≤ 1000000 from by
    refine ⟨hg.one _ (by rw [← hZ, List.getD_eq_getElem?_getD, List.getElem?_eq_getElem (by omega)]; exact List.getElem_mem _), ?_⟩
    have hj2 : j < (cyL (pmM W H k0) (pmM W H k0).length).length := by rw [hm, hZ] at hj; unfold szs at hj; rwa [List.length_map] at hj
    have e : Z.getD j 0 = ((cyL (pmM W H k0) (pmM W H k0).length)[j]).length := by
      rw [hZ]
      unfold szs
      rw [List.getD_eq_getElem?_getD, List.getElem?_map, List.getElem?_eq_getElem hj2]
      rfl
    have hlt0 : ∀ i, i < (pmM W H k0).length → (pmM W H k0).getD i 0 < (pmM W H k0).length := fun i hi => by
      have := hg.m ((pmM W H k0).getD i 0) (by rw [List.getD_eq_getElem?_getD, List.getElem?_eq_getElem hi]; exact List.getElem_mem hi)
      rw [pmM_length]
      exact this
    have h2 := (cyL_all hlt0 (by rw [pmM_length]; exact n36)).2
    have h3 := len_le_total (L := zzz (cyL (pmM W H k0) (pmM W H k0).length)) (j := j) (l := zz ((cyL (pmM W H k0) (pmM W H k0).length)[j])) (by unfold zzz; rw [List.getElem?_map, List.getElem?_eq_getElem hj2]; rfl)
    rw [zz_length] at h3
    omega)
  have HZG := hidI (fun j (hj : j < m) => show gi (zz Z) j = (Z.getD j 0 : Nat) from zz_get (by omega))
  have HZL := hidI (show (zz Z).length = m from by rw [zz_length, hm])
  have HB36 := hidI (fun j (hj : j ≤ m) a b => dpK_le36 Z (k := j) (by omega) a b)
  have HDP := hidI (fun j a b => show dpK Z (j + 1) a b = dpK Z j a b + (if Z.getD j 0 ≤ a then dpK Z j (a - Z.getD j 0) b else 0) + (if Z.getD j 0 ≤ b then dpK Z j a (b - Z.getD j 0) else 0) from rfl)
  obtain ⟨A1, hA1⟩ : ∃ A1, A1 = A + 1 := ⟨_, rfl⟩
  obtain ⟨B1, hB1⟩ : ∃ B1, B1 = B + 1 := ⟨_, rfl⟩
  obtain ⟨N0, hN0⟩ : ∃ N0, N0 = (A + 1) * (B + 1) := ⟨_, rfl⟩
  have hN1 : N0 ≤ 1369 := by
    have : (A + 1) * (B + 1) ≤ 37 * 37 := Nat.mul_le_mul (by omega) (by omega)
    omega
  have hN2 : 0 < N0 := by rw [hN0]; exact Nat.mul_pos (by omega) (by omega)
  have HA1 := hidI (show (A : Int) + 1 = (A1 : Int) from by omega)
  have HB1 := hidI (show (B : Int) + 1 = (B1 : Int) from by omega)
  have HN := hidI (show (A1 : Int) * (B1 : Int) = (N0 : Int) from by rw [hA1, hB1, hN0, ← Int.natCast_mul])
  have HLM := hidI (fun j i l => show (mdT Z A B j i l).length = N0 from by rw [mdT_length, hN0])
  have HT0 := hidI (show ((List.range N0).map fun _ => (0 : Int)).set 0 1 = mdT Z A B 0 0 0 from by rw [hN0]; exact mdT_zero Z A B)
  have HPOS := hidI (fun a b (ha : a ≤ A) (hb : b ≤ B) => show a * (B + 1) + b < N0 from by rw [hN0]; exact md_pos ha hb)
  have hmk : N0 * 1 ≤ 16777216 := by omega
  have hby : 8 * N0 ≤ 281474976710656 := by omega
  have hA137 : A1 ≤ 37 := by omega
  have hB137 : B1 ≤ 37 := by omega
  clear hZ hm hg h1 hw hh n36 hk8 hA1 hB1 hN0
  go_enter Try.func10, Try.ntmps10
  go_wp2_with (first | (refine r_addN _ _ (A : Int) 1 (A1 : Int) rfl rfl HA1.out (by omega) rfl ?_) | (refine r_addN _ _ (B : Int) 1 (B1 : Int) rfl rfl HB1.out (by omega) rfl ?_) | (refine r_mulN _ _ (A1 : Int) (B1 : Int) (N0 : Int) rfl rfl HN.out (by omega) rfl ?_) | (refine r_make 34 3 _ _ _ Try.intsK (.tmp 22) (.tmp 22) N0 rfl rfl hmk hby (by omega) rfl ?_; intro w1 B9 N1; have way := own_zerosK N1 (by omega); have g1 := N1.gr; have lo9 := N1.lo; have z1 := g1.size; have gg := gg.trans g1; clear N1) | (refine r_store_own 3 3 _ _ B9 0 N0 N0 w.heap.size (intsV ((List.range N0).map fun _ => (0 : Int))) rfl (.int .i64 1) rfl way hN2 Try.sizeOf3 rfl rfl ?_; intro w2 u2 way2; rw [intsV_set, HT0.out] at way2; have gg := u2.gr gg lo9; have z2 := u2.size) | (go_at_call 21; refine (HCY.out _).mono ?_; rintro e w3 ⟨g3, v3, rfl, row3⟩; have HAP := hidI (own_apart way2 row3 (Nat.le_refl _)); have way3 := g3.row way2; have z3 := g3.size; have gg := gg.trans g3; have row3 := own_up row3 (show w.heap.size ≤ w2.heap.size by omega); obtain ⟨pz, nz, cz, rfl⟩ := own_slice row3; obtain rfl : m = nz := (own_len row3).symm))
  go_loopw [11, 31] (fun wv iv wr => ∃ j : Nat, j ≤ m ∧ iv = .int .i64 j ∧ wr.ownsRow w.heap.size 3 1 wv N0 (intsV (mdT Z A B j 0 0)) ∧ wr.ownsRow w.heap.size 3 1 (.slice pz m cz) m (intsV (zz Z)) ∧ Gr w wr) (fun _ iv _ => m - (intOf iv).toNat)
  case atStart => exact ⟨0, Nat.zero_le _, rfl, way3, row3, gg⟩
  case round =>
    clear way3 row3 gg
    obtain ⟨j, hj, rfl, way, row, gg⟩ := hrel
    have zr := gg.size
    obtain ⟨GW, cW0, rfl, hGW, -⟩ := own_shape way hN2
    by_cases hlt : j < m
    · obtain ⟨G2, c9, e9, -, -⟩ := own_shape row (by omega)
      cases e9
      obtain ⟨hn1, hn2⟩ := HZ1.out j hlt
      have cz0 := (own_int row j hlt HZL.out.symm).trans (by rw [HZG.out j hlt])
      have HBJ := hidI (HB36.out j (by omega))
      have HDJ := hidI (HDP.out j)
      obtain ⟨n, hn⟩ : ∃ n, n = Z.getD j 0 := ⟨_, rfl⟩
      rw [← hn] at cz0 hn1 hn2 HDJ
      clear hn
      have HRW := hidI (Rd.of_own way)
      have HLI := hidI (intsV_one (mdT Z A B j 0 0))
      have HWO := hidI way
      have HRO := hidI row
      go_wp2_with (first | (refine r_idx 34 _ _ (.slice (some ⟨G2, 0, none⟩) m cz) (.int .i64 j) _ rfl rfl (Try.iixK G2 m cz j hlt _) rfl ?_) | (refine r_ldc 3 _ ⟨G2, j, none⟩ (.int .i64 n) rfl (Try.isAgg3 _) cz0 rfl ?_) | (refine r_slice0 34 3 (Try.bs0K _) rfl ?_; intro w4 B4 g4 own4; have way := g4.row way; have row := g4.row row; have gg := gg.trans g4; have z4 := g4.size) | (refine r_append_any (.tmp 35) (.tmp 36) 34 3 _ 8 wr.heap.size Try.intsK _ 0 [] rfl own4 (some ⟨GW, 0, none⟩) N0 cW0 (intsV (mdT Z A B j 0 0)) rfl (HRW.out.gr g4) HLI.out (by omega) (by decide) (by omega) rfl ?_; intro v5 w5 nex g5; have gw := g5.gr g4 (own_gr own4 (Nat.le_refl _)); have way := gw.row HWO.out; have row := gw.row HRO.out; have gg := g5.gr gg (own_gr own4 (by omega)); rw [Nat.zero_add, List.nil_append] at nex))
      obtain ⟨GN, cN0, rfl, hGN0, -⟩ := own_shape nex hN2
      have HAW := hidI (show (Value.slice (some ⟨GW, 0, none⟩) N0 cW0).ownBlock ≠ some GN from by
        rcases own_apart HWO.out nex (Nat.le_refl _) with h | h
        · cases h
        · exact h)
      have HAZ := hidI (show (Value.slice (some ⟨G2, 0, none⟩) m cz).ownBlock ≠ some GN from by
        rcases own_apart HRO.out nex (Nat.le_refl _) with h | h
        · cases h
        · exact h)
      have hGN : w.heap.size ≤ GN := by omega
      have nex := own_up nex zr
      clear HRW HLI HWO HRO cz0
      go_loopw [15] (fun av wp => ∃ a : Nat, a ≤ A + 1 ∧ av = .int .i64 a ∧ wp.ownsRow w.heap.size 3 1 (.slice (some ⟨GN, 0, none⟩) N0 cN0) N0 (intsV (mdT Z A B j a 0)) ∧ wp.ownsRow w.heap.size 3 1 (.slice (some ⟨GW, 0, none⟩) N0 cW0) N0 (intsV (mdT Z A B j 0 0)) ∧ wp.ownsRow w.heap.size 3 1 (.slice (some ⟨G2, 0, none⟩) m cz) m (intsV (zz Z)) ∧ Gr w wp) (fun av _ => A + 1 - (intOf av).toNat)
      case atStart => exact ⟨0, Nat.zero_le _, rfl, nex, way, row, gg⟩
      case round =>
        clear nex way row gg
        obtain ⟨a, ha, rfl, nex, way, row, gg⟩ := hrel
        by_cases haA : a ≤ A
        · go_wp2
          go_loopw [16] (fun bv wi => ∃ b : Nat, b ≤ B + 1 ∧ bv = .int .i64 b ∧ wi.ownsRow w.heap.size 3 1 (.slice (some ⟨GN, 0, none⟩) N0 cN0) N0 (intsV (mdT Z A B j a b)) ∧ wi.ownsRow w.heap.size 3 1 (.slice (some ⟨GW, 0, none⟩) N0 cW0) N0 (intsV (mdT Z A B j 0 0)) ∧ wi.ownsRow w.heap.size 3 1 (.slice (some ⟨G2, 0, none⟩) m cz) m (intsV (zz Z)) ∧ Gr w wi) (fun bv _ => B + 1 - (intOf bv).toNat)
          case atStart => exact ⟨0, Nat.zero_le _, rfl, nex, way, row, gg⟩
          case round =>
            clear nex way row gg
            obtain ⟨b, hb, rfl, nex, way, row, gg⟩ := hrel
            by_cases hbB : b ≤ B
            · have HDQ := hidI (HDJ.out a b)
              have HFIN := hidI (fun y (hy : y = dpK Z (j + 1) a b) => show (mdT Z A B j a b).set (a * (B + 1) + b) (y : Nat) = mdT Z A B j a (b + 1) from by rw [hy]; exact mdT_set Z haA hbB)
              have HGX0 := hidI (mdT_at Z (A := A) (B := B) (k := j) (i := a) (j := b) (a := a) (b := b) haA hbB (by omega))
              have HGC0 := hidI (fun (h : n ≤ a) => mdT_at Z (A := A) (B := B) (k := j) (i := 0) (j := 0) (a := a - n) (b := b) (by omega) hbB (by omega))
              have HGD0 := hidI (fun (h : n ≤ b) => mdT_at Z (A := A) (B := B) (k := j) (i := 0) (j := 0) (a := a) (b := b - n) haA (by omega) (by omega))
              have HLT := hidI (HLM.out j a b)
              have HLW := hidI (HLM.out j 0 0)
              obtain ⟨x, hx0⟩ : ∃ x, x = a * (B + 1) + b := ⟨_, rfl⟩
              have hx : x < N0 := by rw [hx0]; exact HPOS.out a b haA hbB
              obtain ⟨ab, hab⟩ : ∃ ab, ab = a * (B + 1) := ⟨_, rfl⟩
              have HB2 := hidI (show B1 = B + 1 from by have := HB1.out; omega)
              have HAB := hidI (show (a : Int) * (B1 : Int) = (ab : Int) from by rw [HB2.out, hab, Int.natCast_mul])
              have HXB := hidI (show (ab : Int) + (b : Int) = (x : Int) from by omega)
              have hab9 : ab ≤ 1369 := by omega
              obtain ⟨X0, hX0⟩ : ∃ X0, X0 = dpK Z j a b := ⟨_, rfl⟩
              have hX0b := HBJ.out a b
              rw [← hX0] at hX0b HGX0 HDQ
              obtain ⟨Lx, hLx⟩ : ∃ Lx, Lx = mdT Z A B j a b := ⟨_, rfl⟩
              obtain ⟨Lw, hLw⟩ : ∃ Lw, Lw = mdT Z A B j 0 0 := ⟨_, rfl⟩
              rw [← hLx] at nex HFIN HGX0 HLT
              rw [← hLw] at way HGC0 HGD0 HLW ⊢
              rw [← hx0] at HFIN HGX0
              have HGX := HGX0
              have HSS := hidI (fun (y z : Int) => show (Lx.set x y).set x z = Lx.set x z from List.set_set _)
              have HX00 := hidI hx0
              have HLWW := hidI hLw
              clear hX0 hLx hab hx0 hLw
              by_cases hna : n ≤ a
              · obtain ⟨c, hc⟩ : ∃ c, c = a - n := ⟨_, rfl⟩
                obtain ⟨xc, hxc0⟩ : ∃ xc, xc = c * (B + 1) + b := ⟨_, rfl⟩
                obtain ⟨nb, hnb0⟩ : ∃ nb, nb = n * (B + 1) := ⟨_, rfl⟩
                have hxc : xc < N0 := by rw [hxc0]; exact HPOS.out c b (by omega) hbB
                have hsum : a * (B + 1) = c * (B + 1) + n * (B + 1) := by rw [← Nat.add_mul]; congr 1; omega
                have HNB := hidI (show (n : Int) * (B1 : Int) = (nb : Int) from by rw [HB2.out, hnb0, Int.natCast_mul])
                have HXC := hidI (show (x : Int) - (nb : Int) = (xc : Int) from by have := HX00.out; omega)
                have hnb9 : nb ≤ 1369 := by have := HX00.out; omega
                have HGC := hidI (HGC0.out hna)
                rw [← hc, ← hxc0] at HGC
                rw [if_pos hna, ← hc] at HDQ
                obtain ⟨Y1, hY1⟩ : ∃ Y1, Y1 = dpK Z j c b := ⟨_, rfl⟩
                have hY1b := HBJ.out c b
                rw [← hY1] at hY1b HGC HDQ
                obtain ⟨X1, hX1⟩ : ∃ X1, X1 = X0 + Y1 := ⟨_, rfl⟩
                have HX1 := hidI (show (X0 : Int) + (Y1 : Int) = (X1 : Int) from by omega)
                rw [← hX1] at HDQ
                have hX1b : X1 ≤ 300189270593998242 := by omega
                have HGX2 := hidI (show gi (Lx.set x (X1 : Nat)) x = (X1 : Nat) from by rw [gi_setK _ _ _ _ (by rw [HLT.out]; exact hx), if_pos rfl])
                clear hc hY1 hX1 hxc0 hnb0 hsum
                by_cases hnb : n ≤ b
                · skip
                  obtain ⟨d, hd⟩ : ∃ d, d = b - n := ⟨_, rfl⟩
                  obtain ⟨xd, hxd0⟩ : ∃ xd, xd = a * (B + 1) + d := ⟨_, rfl⟩
                  have hxd : xd < N0 := by rw [hxd0]; exact HPOS.out a d haA (by omega)
                  have HXD := hidI (show (x : Int) - (n : Int) = (xd : Int) from by have := HX00.out; omega)
                  have HGD := hidI (HGD0.out hnb)
                  rw [← hd, ← hxd0] at HGD
                  rw [if_pos hnb, ← hd] at HDQ
                  obtain ⟨Y2, hY2⟩ : ∃ Y2, Y2 = dpK Z j a d := ⟨_, rfl⟩
                  have hY2b := HBJ.out a d
                  rw [← hY2] at hY2b HGD HDQ
                  obtain ⟨X2, hX2⟩ : ∃ X2, X2 = X1 + Y2 := ⟨_, rfl⟩
                  have HX2 := hidI (show (X1 : Int) + (Y2 : Int) = (X2 : Int) from by omega)
                  rw [← hX2] at HDQ
                  have hX2b : X2 ≤ 450283905890997363 := by omega
                  clear hd hY2 hX2 hxd0
                  go_wp2_with (first | (refine r_addN _ _ (B : Int) 1 (B1 : Int) rfl rfl HB1.out (by omega) rfl ?_) | (refine r_mulN _ _ (a : Int) (B1 : Int) (ab : Int) rfl rfl HAB.out (by omega) rfl ?_) | (refine r_addN _ _ (ab : Int) (b : Int) (x : Int) rfl rfl HXB.out (by omega) rfl ?_))
                  have cN := (own_int nex x (by omega) HLT.out.symm).trans (by rw [HGX.out])
                  have cW := (own_int way xc (by omega) HLW.out.symm).trans (by rw [HGC.out])
                  refine F_begin (fun w => (w.cell? ⟨GN, x, none⟩ = some (.int .i64 (X0 : Nat)) ∧ w.cell? ⟨GW, xc, none⟩ = some (.int .i64 (Y1 : Nat)))) 15 16 #[false, false, false, false, false, false, false, false, false, false, false, false, false, false, false, false] rfl (by kernel_rfl) (by kernel_rfl) ?_
                  have gd := (Gr.refl wr).drew
                  have cN := gd.cell cN
                  have cW := gd.cell cW
                  have nex := gd.row nex
                  have way := gd.row way
                  have row := gd.row row
                  have gg := gg.trans gd
                  generalize wr.drew = wd at *
                  refine F_free (v := .slice (some ⟨GN, 0, Option.none⟩) N0 cN0) 0 #[true, false, false, false, false, false, false, false, false, false, false, false, false, false, false, false] rfl (by kernel_rfl) (fun _ _ _ h => h) rfl (fun _ => rfl) (⟨cN, cW⟩) ?_; simp only [Act.put, List.setIfInBounds_toArray, List.set_cons_succ, List.set_cons_zero]
                  refine F_free (v := .int .i64 x) 1 #[true, true, false, false, false, false, false, false, false, false, false, false, false, false, false, false] rfl (by kernel_rfl) (fun _ _ _ h => h) rfl (fun _ => rfl) (⟨cN, cW⟩) ?_; simp only [Act.put, List.setIfInBounds_toArray, List.set_cons_succ, List.set_cons_zero]
                  refine F_free (v := .pointer (some ⟨GN, x, Option.none⟩)) 2 #[true, true, true, false, false, false, false, false, false, false, false, false, false, false, false, false] rfl (by kernel_rfl) (fun _ _ _ h => h) rfl (fun _ => e_idxK _ _ _ _ _ rfl rfl (Try.iixK GN N0 cN0 x hx _)) (⟨cN, cW⟩) ?_; simp only [Act.put, List.setIfInBounds_toArray, List.set_cons_succ, List.set_cons_zero]
                  refine F_take (v := .int .i64 X0) 3 #[true, true, true, true, false, false, false, false, false, false, false, false, false, false, false, false] rfl (by kernel_rfl) (fun _ _ _ h => h) rfl (fun w hF => e_load 3 (.tmp 59) _ _ rfl (Try.isAgg3 _) hF.1) (⟨cN, cW⟩) ?_; simp only [Act.put, List.setIfInBounds_toArray, List.set_cons_succ, List.set_cons_zero]
                  refine F_free (v := .slice (some ⟨GW, 0, Option.none⟩) N0 cW0) 4 #[true, true, true, true, true, false, false, false, false, false, false, false, false, false, false, false] rfl (by kernel_rfl) (fun _ _ _ h => h) rfl (fun _ => rfl) (⟨cN, cW⟩) ?_; simp only [Act.put, List.setIfInBounds_toArray, List.set_cons_succ, List.set_cons_zero]
                  refine F_free (v := .int .i64 x) 5 #[true, true, true, true, true, true, false, false, false, false, false, false, false, false, false, false] rfl (by kernel_rfl) (fun _ _ _ h => h) rfl (fun _ => rfl) (⟨cN, cW⟩) ?_; simp only [Act.put, List.setIfInBounds_toArray, List.set_cons_succ, List.set_cons_zero]
                  refine F_free (v := .int .i64 n) 6 #[true, true, true, true, true, true, true, false, false, false, false, false, false, false, false, false] rfl (by kernel_rfl) (fun _ _ _ h => h) rfl (fun _ => rfl) (⟨cN, cW⟩) ?_; simp only [Act.put, List.setIfInBounds_toArray, List.set_cons_succ, List.set_cons_zero]
                  refine F_free (v := .int .i64 B) 7 #[true, true, true, true, true, true, true, true, false, false, false, false, false, false, false, false] rfl (by kernel_rfl) (fun _ _ _ h => h) rfl (fun _ => rfl) (⟨cN, cW⟩) ?_; simp only [Act.put, List.setIfInBounds_toArray, List.set_cons_succ, List.set_cons_zero]
                  refine F_free (v := .int .i64 B1) 8 #[true, true, true, true, true, true, true, true, true, false, false, false, false, false, false, false] rfl (by kernel_rfl) (fun _ _ _ h => h) rfl (fun _ => e_addK _ _ (B : Int) 1 (B1 : Int) rfl rfl HB1.out (by omega)) (⟨cN, cW⟩) ?_; simp only [Act.put, List.setIfInBounds_toArray, List.set_cons_succ, List.set_cons_zero]
                  refine F_free (v := .int .i64 nb) 9 #[true, true, true, true, true, true, true, true, true, true, false, false, false, false, false, false] rfl (by kernel_rfl) (fun _ _ _ h => h) rfl (fun _ => e_mul _ _ (n : Int) (B1 : Int) (nb : Int) rfl rfl HNB.out (by omega)) (⟨cN, cW⟩) ?_; simp only [Act.put, List.setIfInBounds_toArray, List.set_cons_succ, List.set_cons_zero]
                  refine F_free (v := .int .i64 xc) 10 #[true, true, true, true, true, true, true, true, true, true, true, false, false, false, false, false] rfl (by kernel_rfl) (fun _ _ _ h => h) rfl (fun _ => e_subF' _ _ (x : Int) (nb : Int) (xc : Int) rfl rfl HXC.out (by omega)) (⟨cN, cW⟩) ?_; simp only [Act.put, List.setIfInBounds_toArray, List.set_cons_succ, List.set_cons_zero]
                  refine F_free (v := .pointer (some ⟨GW, xc, Option.none⟩)) 11 #[true, true, true, true, true, true, true, true, true, true, true, true, false, false, false, false] rfl (by kernel_rfl) (fun _ _ _ h => h) rfl (fun _ => e_idxK _ _ _ _ _ rfl rfl (Try.iixK GW N0 cW0 xc hxc _)) (⟨cN, cW⟩) ?_; simp only [Act.put, List.setIfInBounds_toArray, List.set_cons_succ, List.set_cons_zero]
                  refine F_take (v := .int .i64 Y1) 12 #[true, true, true, true, true, true, true, true, true, true, true, true, true, false, false, false] rfl (by kernel_rfl) (fun _ _ _ h => h) rfl (fun w hF => e_load 3 (.tmp 68) _ _ rfl (Try.isAgg3 _) hF.2) (⟨cN, cW⟩) ?_; simp only [Act.put, List.setIfInBounds_toArray, List.set_cons_succ, List.set_cons_zero]
                  refine F_free (v := .int .i64 X1) 13 #[true, true, true, true, true, true, true, true, true, true, true, true, true, true, false, false] rfl (by kernel_rfl) (fun _ _ _ h => h) rfl (fun _ => e_addK _ _ (X0 : Int) (Y1 : Int) (X1 : Int) rfl rfl HX1.out (by omega)) (⟨cN, cW⟩) ?_; simp only [Act.put, List.setIfInBounds_toArray, List.set_cons_succ, List.set_cons_zero]
                  refine F_free (v := .pointer (some ⟨GN, x, Option.none⟩)) 14 #[true, true, true, true, true, true, true, true, true, true, true, true, true, true, true, false] rfl (by kernel_rfl) (fun _ _ _ h => h) rfl (fun _ => e_idxK _ _ _ _ _ rfl rfl (Try.iixK GN N0 cN0 x hx _)) (⟨cN, cW⟩) ?_; simp only [Act.put, List.setIfInBounds_toArray, List.set_cons_succ, List.set_cons_zero]
                  refine F_one 15 #[true, true, true, true, true, true, true, true, true, true, true, true, true, true, true, true] rfl (by kernel_rfl) ?_
                  refine r_store_own 3 3 _ _ GN x N0 cN0 w.heap.size (intsV Lx) rfl (.int .i64 X1) rfl nex hx Try.sizeOf3 rfl rfl ?_
                  intro w6 u6 nex6
                  rw [intsV_set] at nex6
                  have way := u6.row way HAW.out
                  have row := u6.row row HAZ.out
                  have gg := u6.gr gg hGN
                  refine ⟨fun h => (by cases h), ?_⟩
                  simp only [Act.put]
                  refine F_done (by kernel_rfl) ?_
                  clear nex cN cW
                  have nex := nex6
                  clear nex6
                  go_wp2
                  have cN := (own_int nex x (by omega) (by first | exact HLT.out.symm | (rw [List.length_set]; exact HLT.out.symm))).trans (by rw [HGX2.out])
                  have cW := (own_int way xd (by omega) HLW.out.symm).trans (by rw [HGD.out])
                  refine F_begin (fun w => (w.cell? ⟨GN, x, none⟩ = some (.int .i64 (X1 : Nat)) ∧ w.cell? ⟨GW, xd, none⟩ = some (.int .i64 (Y2 : Nat)))) 12 13 #[false, false, false, false, false, false, false, false, false, false, false, false, false] rfl (by kernel_rfl) (by kernel_rfl) ?_
                  have gd := (Gr.refl w6).drew
                  have cN := gd.cell cN
                  have cW := gd.cell cW
                  have nex := gd.row nex
                  have way := gd.row way
                  have row := gd.row row
                  have gg := gg.trans gd
                  generalize (w6).drew = we at *
                  refine F_free (v := .slice (some ⟨GN, 0, Option.none⟩) N0 cN0) 0 #[true, false, false, false, false, false, false, false, false, false, false, false, false] rfl (by kernel_rfl) (fun _ _ _ h => h) rfl (fun _ => rfl) (⟨cN, cW⟩) ?_; simp only [Act.put, List.setIfInBounds_toArray, List.set_cons_succ, List.set_cons_zero]
                  refine F_free (v := .int .i64 x) 1 #[true, true, false, false, false, false, false, false, false, false, false, false, false] rfl (by kernel_rfl) (fun _ _ _ h => h) rfl (fun _ => rfl) (⟨cN, cW⟩) ?_; simp only [Act.put, List.setIfInBounds_toArray, List.set_cons_succ, List.set_cons_zero]
                  refine F_free (v := .pointer (some ⟨GN, x, Option.none⟩)) 2 #[true, true, true, false, false, false, false, false, false, false, false, false, false] rfl (by kernel_rfl) (fun _ _ _ h => h) rfl (fun _ => e_idxK _ _ _ _ _ rfl rfl (Try.iixK GN N0 cN0 x hx _)) (⟨cN, cW⟩) ?_; simp only [Act.put, List.setIfInBounds_toArray, List.set_cons_succ, List.set_cons_zero]
                  refine F_take (v := .int .i64 X1) 3 #[true, true, true, true, false, false, false, false, false, false, false, false, false] rfl (by kernel_rfl) (fun _ _ _ h => h) rfl (fun w hF => e_load 3 (.tmp 77) _ _ rfl (Try.isAgg3 _) hF.1) (⟨cN, cW⟩) ?_; simp only [Act.put, List.setIfInBounds_toArray, List.set_cons_succ, List.set_cons_zero]
                  refine F_free (v := .slice (some ⟨GW, 0, Option.none⟩) N0 cW0) 4 #[true, true, true, true, true, false, false, false, false, false, false, false, false] rfl (by kernel_rfl) (fun _ _ _ h => h) rfl (fun _ => rfl) (⟨cN, cW⟩) ?_; simp only [Act.put, List.setIfInBounds_toArray, List.set_cons_succ, List.set_cons_zero]
                  refine F_free (v := .int .i64 x) 5 #[true, true, true, true, true, true, false, false, false, false, false, false, false] rfl (by kernel_rfl) (fun _ _ _ h => h) rfl (fun _ => rfl) (⟨cN, cW⟩) ?_; simp only [Act.put, List.setIfInBounds_toArray, List.set_cons_succ, List.set_cons_zero]
                  refine F_free (v := .int .i64 n) 6 #[true, true, true, true, true, true, true, false, false, false, false, false, false] rfl (by kernel_rfl) (fun _ _ _ h => h) rfl (fun _ => rfl) (⟨cN, cW⟩) ?_; simp only [Act.put, List.setIfInBounds_toArray, List.set_cons_succ, List.set_cons_zero]
                  refine F_free (v := .int .i64 xd) 7 #[true, true, true, true, true, true, true, true, false, false, false, false, false] rfl (by kernel_rfl) (fun _ _ _ h => h) rfl (fun _ => e_subF' _ _ (x : Int) (n : Int) (xd : Int) rfl rfl HXD.out (by omega)) (⟨cN, cW⟩) ?_; simp only [Act.put, List.setIfInBounds_toArray, List.set_cons_succ, List.set_cons_zero]
                  refine F_free (v := .pointer (some ⟨GW, xd, Option.none⟩)) 8 #[true, true, true, true, true, true, true, true, true, false, false, false, false] rfl (by kernel_rfl) (fun _ _ _ h => h) rfl (fun _ => e_idxK _ _ _ _ _ rfl rfl (Try.iixK GW N0 cW0 xd hxd _)) (⟨cN, cW⟩) ?_; simp only [Act.put, List.setIfInBounds_toArray, List.set_cons_succ, List.set_cons_zero]
                  refine F_take (v := .int .i64 Y2) 9 #[true, true, true, true, true, true, true, true, true, true, false, false, false] rfl (by kernel_rfl) (fun _ _ _ h => h) rfl (fun w hF => e_load 3 (.tmp 83) _ _ rfl (Try.isAgg3 _) hF.2) (⟨cN, cW⟩) ?_; simp only [Act.put, List.setIfInBounds_toArray, List.set_cons_succ, List.set_cons_zero]
                  refine F_free (v := .int .i64 X2) 10 #[true, true, true, true, true, true, true, true, true, true, true, false, false] rfl (by kernel_rfl) (fun _ _ _ h => h) rfl (fun _ => e_addK _ _ (X1 : Int) (Y2 : Int) (X2 : Int) rfl rfl HX2.out (by omega)) (⟨cN, cW⟩) ?_; simp only [Act.put, List.setIfInBounds_toArray, List.set_cons_succ, List.set_cons_zero]
                  refine F_free (v := .pointer (some ⟨GN, x, Option.none⟩)) 11 #[true, true, true, true, true, true, true, true, true, true, true, true, false] rfl (by kernel_rfl) (fun _ _ _ h => h) rfl (fun _ => e_idxK _ _ _ _ _ rfl rfl (Try.iixK GN N0 cN0 x hx _)) (⟨cN, cW⟩) ?_; simp only [Act.put, List.setIfInBounds_toArray, List.set_cons_succ, List.set_cons_zero]
                  refine F_one 12 #[true, true, true, true, true, true, true, true, true, true, true, true, true] rfl (by kernel_rfl) ?_
                  refine r_store_own 3 3 _ _ GN x N0 cN0 w.heap.size (intsV (Lx.set x (X1 : Nat))) rfl (.int .i64 X2) rfl nex hx Try.sizeOf3 rfl rfl ?_
                  intro w7 u7 nex7
                  rw [intsV_set] at nex7
                  have way := u7.row way HAW.out
                  have row := u7.row row HAZ.out
                  have gg := u7.gr gg hGN
                  refine ⟨fun h => (by cases h), ?_⟩
                  simp only [Act.put]
                  refine F_done (by kernel_rfl) ?_
                  clear nex cN cW
                  have nex := nex7
                  clear nex7
                  rw [HSS.out, HFIN.out X2 HDQ.out.symm] at nex
                  go_wp2
                  go_roundw
                  case rel => exact ⟨b + 1, by omega, by go_num, nex, way, row, gg⟩
                  case measure => first | (simp [intOf]; done) | (simp [intOf]; omega)
                · rw [if_neg hnb] at HDQ
                  simp only [Nat.add_zero] at HDQ
                  go_wp2_with (first | (refine r_addN _ _ (B : Int) 1 (B1 : Int) rfl rfl HB1.out (by omega) rfl ?_) | (refine r_mulN _ _ (a : Int) (B1 : Int) (ab : Int) rfl rfl HAB.out (by omega) rfl ?_) | (refine r_addN _ _ (ab : Int) (b : Int) (x : Int) rfl rfl HXB.out (by omega) rfl ?_))
                  have cN := (own_int nex x (by omega) HLT.out.symm).trans (by rw [HGX.out])
                  have cW := (own_int way xc (by omega) HLW.out.symm).trans (by rw [HGC.out])
                  refine F_begin (fun w => (w.cell? ⟨GN, x, none⟩ = some (.int .i64 (X0 : Nat)) ∧ w.cell? ⟨GW, xc, none⟩ = some (.int .i64 (Y1 : Nat)))) 15 16 #[false, false, false, false, false, false, false, false, false, false, false, false, false, false, false, false] rfl (by kernel_rfl) (by kernel_rfl) ?_
                  have gd := (Gr.refl wr).drew
                  have cN := gd.cell cN
                  have cW := gd.cell cW
                  have nex := gd.row nex
                  have way := gd.row way
                  have row := gd.row row
                  have gg := gg.trans gd
                  generalize wr.drew = wd at *
                  refine F_free (v := .slice (some ⟨GN, 0, Option.none⟩) N0 cN0) 0 #[true, false, false, false, false, false, false, false, false, false, false, false, false, false, false, false] rfl (by kernel_rfl) (fun _ _ _ h => h) rfl (fun _ => rfl) (⟨cN, cW⟩) ?_; simp only [Act.put, List.setIfInBounds_toArray, List.set_cons_succ, List.set_cons_zero]
                  refine F_free (v := .int .i64 x) 1 #[true, true, false, false, false, false, false, false, false, false, false, false, false, false, false, false] rfl (by kernel_rfl) (fun _ _ _ h => h) rfl (fun _ => rfl) (⟨cN, cW⟩) ?_; simp only [Act.put, List.setIfInBounds_toArray, List.set_cons_succ, List.set_cons_zero]
                  refine F_free (v := .pointer (some ⟨GN, x, Option.none⟩)) 2 #[true, true, true, false, false, false, false, false, false, false, false, false, false, false, false, false] rfl (by kernel_rfl) (fun _ _ _ h => h) rfl (fun _ => e_idxK _ _ _ _ _ rfl rfl (Try.iixK GN N0 cN0 x hx _)) (⟨cN, cW⟩) ?_; simp only [Act.put, List.setIfInBounds_toArray, List.set_cons_succ, List.set_cons_zero]
                  refine F_take (v := .int .i64 X0) 3 #[true, true, true, true, false, false, false, false, false, false, false, false, false, false, false, false] rfl (by kernel_rfl) (fun _ _ _ h => h) rfl (fun w hF => e_load 3 (.tmp 59) _ _ rfl (Try.isAgg3 _) hF.1) (⟨cN, cW⟩) ?_; simp only [Act.put, List.setIfInBounds_toArray, List.set_cons_succ, List.set_cons_zero]
                  refine F_free (v := .slice (some ⟨GW, 0, Option.none⟩) N0 cW0) 4 #[true, true, true, true, true, false, false, false, false, false, false, false, false, false, false, false] rfl (by kernel_rfl) (fun _ _ _ h => h) rfl (fun _ => rfl) (⟨cN, cW⟩) ?_; simp only [Act.put, List.setIfInBounds_toArray, List.set_cons_succ, List.set_cons_zero]
                  refine F_free (v := .int .i64 x) 5 #[true, true, true, true, true, true, false, false, false, false, false, false, false, false, false, false] rfl (by kernel_rfl) (fun _ _ _ h => h) rfl (fun _ => rfl) (⟨cN, cW⟩) ?_; simp only [Act.put, List.setIfInBounds_toArray, List.set_cons_succ, List.set_cons_zero]
                  refine F_free (v := .int .i64 n) 6 #[true, true, true, true, true, true, true, false, false, false, false, false, false, false, false, false] rfl (by kernel_rfl) (fun _ _ _ h => h) rfl (fun _ => rfl) (⟨cN, cW⟩) ?_; simp only [Act.put, List.setIfInBounds_toArray, List.set_cons_succ, List.set_cons_zero]
                  refine F_free (v := .int .i64 B) 7 #[true, true, true, true, true, true, true, true, false, false, false, false, false, false, false, false] rfl (by kernel_rfl) (fun _ _ _ h => h) rfl (fun _ => rfl) (⟨cN, cW⟩) ?_; simp only [Act.put, List.setIfInBounds_toArray, List.set_cons_succ, List.set_cons_zero]
                  refine F_free (v := .int .i64 B1) 8 #[true, true, true, true, true, true, true, true, true, false, false, false, false, false, false, false] rfl (by kernel_rfl) (fun _ _ _ h => h) rfl (fun _ => e_addK _ _ (B : Int) 1 (B1 : Int) rfl rfl HB1.out (by omega)) (⟨cN, cW⟩) ?_; simp only [Act.put, List.setIfInBounds_toArray, List.set_cons_succ, List.set_cons_zero]
                  refine F_free (v := .int .i64 nb) 9 #[true, true, true, true, true, true, true, true, true, true, false, false, false, false, false, false] rfl (by kernel_rfl) (fun _ _ _ h => h) rfl (fun _ => e_mul _ _ (n : Int) (B1 : Int) (nb : Int) rfl rfl HNB.out (by omega)) (⟨cN, cW⟩) ?_; simp only [Act.put, List.setIfInBounds_toArray, List.set_cons_succ, List.set_cons_zero]
                  refine F_free (v := .int .i64 xc) 10 #[true, true, true, true, true, true, true, true, true, true, true, false, false, false, false, false] rfl (by kernel_rfl) (fun _ _ _ h => h) rfl (fun _ => e_subF' _ _ (x : Int) (nb : Int) (xc : Int) rfl rfl HXC.out (by omega)) (⟨cN, cW⟩) ?_; simp only [Act.put, List.setIfInBounds_toArray, List.set_cons_succ, List.set_cons_zero]
                  refine F_free (v := .pointer (some ⟨GW, xc, Option.none⟩)) 11 #[true, true, true, true, true, true, true, true, true, true, true, true, false, false, false, false] rfl (by kernel_rfl) (fun _ _ _ h => h) rfl (fun _ => e_idxK _ _ _ _ _ rfl rfl (Try.iixK GW N0 cW0 xc hxc _)) (⟨cN, cW⟩) ?_; simp only [Act.put, List.setIfInBounds_toArray, List.set_cons_succ, List.set_cons_zero]
                  refine F_take (v := .int .i64 Y1) 12 #[true, true, true, true, true, true, true, true, true, true, true, true, true, false, false, false] rfl (by kernel_rfl) (fun _ _ _ h => h) rfl (fun w hF => e_load 3 (.tmp 68) _ _ rfl (Try.isAgg3 _) hF.2) (⟨cN, cW⟩) ?_; simp only [Act.put, List.setIfInBounds_toArray, List.set_cons_succ, List.set_cons_zero]
                  refine F_free (v := .int .i64 X1) 13 #[true, true, true, true, true, true, true, true, true, true, true, true, true, true, false, false] rfl (by kernel_rfl) (fun _ _ _ h => h) rfl (fun _ => e_addK _ _ (X0 : Int) (Y1 : Int) (X1 : Int) rfl rfl HX1.out (by omega)) (⟨cN, cW⟩) ?_; simp only [Act.put, List.setIfInBounds_toArray, List.set_cons_succ, List.set_cons_zero]
                  refine F_free (v := .pointer (some ⟨GN, x, Option.none⟩)) 14 #[true, true, true, true, true, true, true, true, true, true, true, true, true, true, true, false] rfl (by kernel_rfl) (fun _ _ _ h => h) rfl (fun _ => e_idxK _ _ _ _ _ rfl rfl (Try.iixK GN N0 cN0 x hx _)) (⟨cN, cW⟩) ?_; simp only [Act.put, List.setIfInBounds_toArray, List.set_cons_succ, List.set_cons_zero]
                  refine F_one 15 #[true, true, true, true, true, true, true, true, true, true, true, true, true, true, true, true] rfl (by kernel_rfl) ?_
                  refine r_store_own 3 3 _ _ GN x N0 cN0 w.heap.size (intsV Lx) rfl (.int .i64 X1) rfl nex hx Try.sizeOf3 rfl rfl ?_
                  intro w6 u6 nex6
                  rw [intsV_set] at nex6
                  have way := u6.row way HAW.out
                  have row := u6.row row HAZ.out
                  have gg := u6.gr gg hGN
                  refine ⟨fun h => (by cases h), ?_⟩
                  simp only [Act.put]
                  refine F_done (by kernel_rfl) ?_
                  clear nex cN cW
                  have nex := nex6
                  clear nex6
                  rw [HFIN.out X1 HDQ.out.symm] at nex
                  go_wp2
                  go_roundw
                  case rel => exact ⟨b + 1, by omega, by go_num, nex, way, row, gg⟩
                  case measure => first | (simp [intOf]; done) | (simp [intOf]; omega)
              · rw [if_neg hna] at HDQ
                simp only [Nat.add_zero] at HDQ
                by_cases hnb : n ≤ b
                · skip
                  obtain ⟨d, hd⟩ : ∃ d, d = b - n := ⟨_, rfl⟩
                  obtain ⟨xd, hxd0⟩ : ∃ xd, xd = a * (B + 1) + d := ⟨_, rfl⟩
                  have hxd : xd < N0 := by rw [hxd0]; exact HPOS.out a d haA (by omega)
                  have HXD := hidI (show (x : Int) - (n : Int) = (xd : Int) from by have := HX00.out; omega)
                  have HGD := hidI (HGD0.out hnb)
                  rw [← hd, ← hxd0] at HGD
                  rw [if_pos hnb, ← hd] at HDQ
                  obtain ⟨Y2, hY2⟩ : ∃ Y2, Y2 = dpK Z j a d := ⟨_, rfl⟩
                  have hY2b := HBJ.out a d
                  rw [← hY2] at hY2b HGD HDQ
                  obtain ⟨X2, hX2⟩ : ∃ X2, X2 = X0 + Y2 := ⟨_, rfl⟩
                  have HX2 := hidI (show (X0 : Int) + (Y2 : Int) = (X2 : Int) from by omega)
                  rw [← hX2] at HDQ
                  have hX2b : X2 ≤ 450283905890997363 := by omega
                  have HGX2 := HGX
                  clear hd hY2 hX2 hxd0
                  go_wp2_with (first | (refine r_addN _ _ (B : Int) 1 (B1 : Int) rfl rfl HB1.out (by omega) rfl ?_) | (refine r_mulN _ _ (a : Int) (B1 : Int) (ab : Int) rfl rfl HAB.out (by omega) rfl ?_) | (refine r_addN _ _ (ab : Int) (b : Int) (x : Int) rfl rfl HXB.out (by omega) rfl ?_))
                  have cN := (own_int nex x (by omega) (by first | exact HLT.out.symm | (rw [List.length_set]; exact HLT.out.symm))).trans (by rw [HGX2.out])
                  have cW := (own_int way xd (by omega) HLW.out.symm).trans (by rw [HGD.out])
                  refine F_begin (fun w => (w.cell? ⟨GN, x, none⟩ = some (.int .i64 (X0 : Nat)) ∧ w.cell? ⟨GW, xd, none⟩ = some (.int .i64 (Y2 : Nat)))) 12 13 #[false, false, false, false, false, false, false, false, false, false, false, false, false] rfl (by kernel_rfl) (by kernel_rfl) ?_
                  have gd := (Gr.refl wr).drew
                  have cN := gd.cell cN
                  have cW := gd.cell cW
                  have nex := gd.row nex
                  have way := gd.row way
                  have row := gd.row row
                  have gg := gg.trans gd
                  generalize (wr).drew = we at *
                  refine F_free (v := .slice (some ⟨GN, 0, Option.none⟩) N0 cN0) 0 #[true, false, false, false, false, false, false, false, false, false, false, false, false] rfl (by kernel_rfl) (fun _ _ _ h => h) rfl (fun _ => rfl) (⟨cN, cW⟩) ?_; simp only [Act.put, List.setIfInBounds_toArray, List.set_cons_succ, List.set_cons_zero]
                  refine F_free (v := .int .i64 x) 1 #[true, true, false, false, false, false, false, false, false, false, false, false, false] rfl (by kernel_rfl) (fun _ _ _ h => h) rfl (fun _ => rfl) (⟨cN, cW⟩) ?_; simp only [Act.put, List.setIfInBounds_toArray, List.set_cons_succ, List.set_cons_zero]
                  refine F_free (v := .pointer (some ⟨GN, x, Option.none⟩)) 2 #[true, true, true, false, false, false, false, false, false, false, false, false, false] rfl (by kernel_rfl) (fun _ _ _ h => h) rfl (fun _ => e_idxK _ _ _ _ _ rfl rfl (Try.iixK GN N0 cN0 x hx _)) (⟨cN, cW⟩) ?_; simp only [Act.put, List.setIfInBounds_toArray, List.set_cons_succ, List.set_cons_zero]
                  refine F_take (v := .int .i64 X0) 3 #[true, true, true, true, false, false, false, false, false, false, false, false, false] rfl (by kernel_rfl) (fun _ _ _ h => h) rfl (fun w hF => e_load 3 (.tmp 77) _ _ rfl (Try.isAgg3 _) hF.1) (⟨cN, cW⟩) ?_; simp only [Act.put, List.setIfInBounds_toArray, List.set_cons_succ, List.set_cons_zero]
                  refine F_free (v := .slice (some ⟨GW, 0, Option.none⟩) N0 cW0) 4 #[true, true, true, true, true, false, false, false, false, false, false, false, false] rfl (by kernel_rfl) (fun _ _ _ h => h) rfl (fun _ => rfl) (⟨cN, cW⟩) ?_; simp only [Act.put, List.setIfInBounds_toArray, List.set_cons_succ, List.set_cons_zero]
                  refine F_free (v := .int .i64 x) 5 #[true, true, true, true, true, true, false, false, false, false, false, false, false] rfl (by kernel_rfl) (fun _ _ _ h => h) rfl (fun _ => rfl) (⟨cN, cW⟩) ?_; simp only [Act.put, List.setIfInBounds_toArray, List.set_cons_succ, List.set_cons_zero]
                  refine F_free (v := .int .i64 n) 6 #[true, true, true, true, true, true, true, false, false, false, false, false, false] rfl (by kernel_rfl) (fun _ _ _ h => h) rfl (fun _ => rfl) (⟨cN, cW⟩) ?_; simp only [Act.put, List.setIfInBounds_toArray, List.set_cons_succ, List.set_cons_zero]
                  refine F_free (v := .int .i64 xd) 7 #[true, true, true, true, true, true, true, true, false, false, false, false, false] rfl (by kernel_rfl) (fun _ _ _ h => h) rfl (fun _ => e_subF' _ _ (x : Int) (n : Int) (xd : Int) rfl rfl HXD.out (by omega)) (⟨cN, cW⟩) ?_; simp only [Act.put, List.setIfInBounds_toArray, List.set_cons_succ, List.set_cons_zero]
                  refine F_free (v := .pointer (some ⟨GW, xd, Option.none⟩)) 8 #[true, true, true, true, true, true, true, true, true, false, false, false, false] rfl (by kernel_rfl) (fun _ _ _ h => h) rfl (fun _ => e_idxK _ _ _ _ _ rfl rfl (Try.iixK GW N0 cW0 xd hxd _)) (⟨cN, cW⟩) ?_; simp only [Act.put, List.setIfInBounds_toArray, List.set_cons_succ, List.set_cons_zero]
                  refine F_take (v := .int .i64 Y2) 9 #[true, true, true, true, true, true, true, true, true, true, false, false, false] rfl (by kernel_rfl) (fun _ _ _ h => h) rfl (fun w hF => e_load 3 (.tmp 83) _ _ rfl (Try.isAgg3 _) hF.2) (⟨cN, cW⟩) ?_; simp only [Act.put, List.setIfInBounds_toArray, List.set_cons_succ, List.set_cons_zero]
                  refine F_free (v := .int .i64 X2) 10 #[true, true, true, true, true, true, true, true, true, true, true, false, false] rfl (by kernel_rfl) (fun _ _ _ h => h) rfl (fun _ => e_addK _ _ (X0 : Int) (Y2 : Int) (X2 : Int) rfl rfl HX2.out (by omega)) (⟨cN, cW⟩) ?_; simp only [Act.put, List.setIfInBounds_toArray, List.set_cons_succ, List.set_cons_zero]
                  refine F_free (v := .pointer (some ⟨GN, x, Option.none⟩)) 11 #[true, true, true, true, true, true, true, true, true, true, true, true, false] rfl (by kernel_rfl) (fun _ _ _ h => h) rfl (fun _ => e_idxK _ _ _ _ _ rfl rfl (Try.iixK GN N0 cN0 x hx _)) (⟨cN, cW⟩) ?_; simp only [Act.put, List.setIfInBounds_toArray, List.set_cons_succ, List.set_cons_zero]
                  refine F_one 12 #[true, true, true, true, true, true, true, true, true, true, true, true, true] rfl (by kernel_rfl) ?_
                  refine r_store_own 3 3 _ _ GN x N0 cN0 w.heap.size (intsV (Lx)) rfl (.int .i64 X2) rfl nex hx Try.sizeOf3 rfl rfl ?_
                  intro w7 u7 nex7
                  rw [intsV_set] at nex7
                  have way := u7.row way HAW.out
                  have row := u7.row row HAZ.out
                  have gg := u7.gr gg hGN
                  refine ⟨fun h => (by cases h), ?_⟩
                  simp only [Act.put]
                  refine F_done (by kernel_rfl) ?_
                  clear nex cN cW
                  have nex := nex7
                  clear nex7
                  rw [HFIN.out X2 HDQ.out.symm] at nex
                  go_wp2
                  go_roundw
                  case rel => exact ⟨b + 1, by omega, by go_num, nex, way, row, gg⟩
                  case measure => first | (simp [intOf]; done) | (simp [intOf]; omega)
                · rw [if_neg hnb] at HDQ
                  simp only [Nat.add_zero] at HDQ
                  have HSF := hidI (show Lx = mdT Z A B j a (b + 1) from by
                    rw [← HFIN.out X0 HDQ.out.symm, ← HGX.out]
                    unfold gi
                    rw [List.getD_eq_getElem?_getD, List.getElem?_eq_getElem (by rw [HLT.out]; exact hx)]
                    exact (List.set_getElem_self _).symm)
                  rw [HSF.out] at nex
                  go_wp2_with (first | (refine r_addN _ _ (B : Int) 1 (B1 : Int) rfl rfl HB1.out (by omega) rfl ?_) | (refine r_mulN _ _ (a : Int) (B1 : Int) (ab : Int) rfl rfl HAB.out (by omega) rfl ?_) | (refine r_addN _ _ (ab : Int) (b : Int) (x : Int) rfl rfl HXB.out (by omega) rfl ?_))
                  go_wp2
                  go_roundw
                  case rel => exact ⟨b + 1, by omega, by go_num, nex, way, row, gg⟩
                  case measure => first | (simp [intOf]; done) | (simp [intOf]; omega)
            · obtain rfl : b = B + 1 := by omega
              rw [mdT_row] at nex
              go_wp2
              go_roundw
              case rel => exact ⟨a + 1, by omega, by go_num, nex, way, row, gg⟩
              case measure => first | (simp [intOf]; done) | (simp [intOf]; omega)
        · obtain rfl : a = A + 1 := by omega
          rw [mdT_end] at nex
          go_wp2
          go_roundw
          case rel => exact ⟨j + 1, by omega, by go_num, nex, row, gg⟩
          case measure => first | (simp [intOf]; done) | (simp [intOf]; omega)
    · obtain rfl : j = m := by omega
      obtain ⟨x, hx0⟩ : ∃ x, x = A * (B + 1) + B := ⟨_, rfl⟩
      have hx : x < N0 := by rw [hx0]; exact HPOS.out A B (Nat.le_refl _) (Nat.le_refl _)
      obtain ⟨ab, hab⟩ : ∃ ab, ab = A * (B + 1) := ⟨_, rfl⟩
      have HB2 := hidI (show B1 = B + 1 from by have := HB1.out; omega)
      have HAB := hidI (show (A : Int) * (B1 : Int) = (ab : Int) from by rw [HB2.out, hab, Int.natCast_mul])
      have HXB := hidI (show (ab : Int) + (B : Int) = (x : Int) from by omega)
      have hab9 : ab ≤ 1369 := by omega
      have HG := hidI (mdT_at Z (A := A) (B := B) (k := j) (i := 0) (j := 0) (a := A) (b := B) (Nat.le_refl _) (Nat.le_refl _) (by omega))
      rw [← hx0] at HG
      have cN := (own_int way x (by omega) (HLM.out j 0 0).symm).trans (by rw [HG.out])
      obtain ⟨r, hr⟩ : ∃ r, r = dpK Z j A B := ⟨_, rfl⟩
      rw [← hr] at cN
      have HR := hidI hr
      clear hr hx0 hab hlt HG
      go_wp2_with (first | (refine r_addN _ _ (B : Int) 1 (B1 : Int) rfl rfl HB1.out (by omega) rfl ?_) | (refine r_mulN _ _ (A : Int) (B1 : Int) (ab : Int) rfl rfl HAB.out (by omega) rfl ?_) | (refine r_addN _ _ (ab : Int) (B : Int) (x : Int) rfl rfl HXB.out (by omega) rfl ?_) | (refine r_idx 34 _ _ (.slice (some ⟨GW, 0, none⟩) N0 cW0) (.int .i64 x) _ rfl rfl (Try.iixK GW N0 cW0 x hx _) rfl ?_) | (refine r_ldc 3 _ ⟨GW, x, none⟩ (.int .i64 r) rfl (Try.isAgg3 _) cN rfl ?_))
      go_ret
      exact ⟨by rw [← HR.out]; rfl, gg⟩
end Go.Proofs.Ytmjmjibokombiaa
