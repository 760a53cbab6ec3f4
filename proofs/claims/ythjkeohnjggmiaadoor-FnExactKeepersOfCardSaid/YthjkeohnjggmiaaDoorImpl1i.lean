/-
  What the program's functions that turn and mirror trays return.
-/
import Derived.Test.YthjkeohnjggmiaaDoorImpl1h
import Derived.Test.YthjkeohnjggmiaaDoorDraws2
import Derived.Test.YthjkeohnjggmiaaDoorMir
namespace Go.Proofs.YthjkeohnjggmiaaDoor
open Go.RowKit
theorem Upd.refl (B : Nat) (w : World) : Upd B w w := ⟨rfl, rfl, rfl, rfl, fun _ _ => rfl⟩
theorem Upd.trans {B : Nat} {a b c : World} (h : Upd B a b) (k : Upd B b c) : Upd B a c :=
  ⟨k.os.trans h.os, k.tape.trans h.tape, k.output.trans h.output, h.size.trans k.size, fun j hj => (k.block j hj).trans (h.block j hj)⟩
theorem Upd.drew' (B : Nat) (w : World) : Upd B w w.drew := ⟨rfl, rfl, rfl, rfl, fun _ _ => rfl⟩
theorem Upd.drewN' (B : Nat) (w : World) (n : Nat) : Upd B w (w.drewN n) := ⟨rfl, rfl, rfl, rfl, fun _ _ => rfl⟩
set_option maxHeartbeats 2000000 in
set_option maxRecDepth 100000 in
/-- The cells o .. o + n - 1 of a grid's block, backwards. -/
theorem reverse_any (B o n cap : Nat) (W H : Int) (c : List UInt8) (w : World) (hb : Blk w B (gv W H c) 46) (hn1 : 1 ≤ n) (hon : o + n ≤ c.length) (h36 : o + n ≤ 36) :
    Calls Tryd.prog 111 #[.slice (some ⟨B, 2 + o, none⟩) n cap] w fun e w' => e = .returned (.tuple #[]) ∧ Blk w' B (gv W H (revC c o n)) 46 ∧ Upd B w w' := by
  have HB := hidI hb
  clear hb
  go_enter Tryd.func111, Tryd.ntmps111
  go_wp2
  go_loopw [2, 3] (fun iv jv wr => ∃ k : Nat, iv = .int .i64 k ∧ jv = .int .i64 ((n : Int) - 1 - k) ∧ 2 * k ≤ n + 1 ∧ Blk wr B (gv W H (revTo c o n k)) 46 ∧ Upd B w wr) (fun iv _ _ => n - (intOf iv).toNat)
  case atStart => exact ⟨0, rfl, by congr 1; omega, by omega, by rw [revTo_zero]; exact HB.out, Upd.refl _ _⟩
  case round =>
    obtain ⟨k, rfl, rfl, hk, b1, uu⟩ := hrel
    by_cases hlt : 2 * k + 1 < n
    · have hlen := revTo_length c o n k
      have h1 := revTo_at c o n k (o + k) (by omega)
      have h2 := revTo_at c o n k (o + (n - 1 - k)) (by omega)
      have hs1 := gv_set W H (revTo c o n k) (o + k) (at0 c (o + (n - 1 - k))) (by omega) (by omega)
      have hs2 := gv_set W H ((revTo c o n k).set (o + k) (at0 c (o + (n - 1 - k)))) (o + (n - 1 - k)) (at0 c (o + k)) (by omega) (by rw [List.length_set]; omega)
      rw [revTo_succ c o n k hlt] at hs2
      rw [← Nat.add_assoc] at hs1 hs2
      have c1 := (gcells b1).2.2 (o + k) (by omega)
      have c2 := (gcells b1).2.2 (o + (n - 1 - k)) (by omega)
      rw [h1, ← Nat.add_assoc] at c1
      rw [h2, ← Nat.add_assoc] at c2
      obtain ⟨m, hm⟩ : ∃ m, m = n - 1 - k := ⟨_, rfl⟩
      rw [← hm] at c2 hs1 hs2
      obtain ⟨p, hp⟩ : ∃ p, p = at0 c (o + k) := ⟨_, rfl⟩
      obtain ⟨q, hq⟩ : ∃ q, q = at0 c (o + m) := ⟨_, rfl⟩
      rw [← hp] at c1 hs2
      rw [← hq] at c2 hs1 hs2
      have hjm : (n : Int) - 1 - (k : Int) = (m : Int) := by omega
      rw [hjm]
      have hkm : (k : Int) < (m : Int) := by omega
      have hmn : m < n := by omega
      have hkn : k < n := by omega
      have HS1 := hidI hs1
      have HS2 := hidI hs2
      have HM := hidI hm
      have HJM := hidI hjm
      clear hs1 hs2 hm hp hq h1 h2 hlen hjm
      go_wp2
      have gd := (Gr.refl wr).drew
      have b1 := gd.blk b1
      have c1 := gd.cell c1
      have c2 := gd.cell c2
      have uu := uu.trans (Upd.drew' B wr)
      refine F_begin (fun w => w.cell? ⟨B, 2 + o + k, none⟩ = some (.int .u8 p.toNat) ∧ w.cell? ⟨B, 2 + o + m, none⟩ = some (.int .u8 q.toNat)) 13 16 #[false, false, false, false, false, false, false, false, false, false, false, false, false, false, false, false] rfl (by kernel_rfl) (by kernel_rfl) ?_
      generalize wr.drew = wd at *
      have hFF := And.intro c1 c2
      refine F_free (v := .slice (some ⟨B, 2 + o, none⟩) n cap) 0 #[true, false, false, false, false, false, false, false, false, false, false, false, false, false, false, false] rfl (by kernel_rfl) (fun _ _ _ h => h) rfl (fun _ => rfl) (hFF) ?_; simp only [Act.put, List.setIfInBounds_toArray, List.set_cons_succ, List.set_cons_zero]
      refine F_free (v := .int .i64 k) 1 #[true, true, false, false, false, false, false, false, false, false, false, false, false, false, false, false] rfl (by kernel_rfl) (fun _ _ _ h => h) rfl (fun _ => rfl) (hFF) ?_; simp only [Act.put, List.setIfInBounds_toArray, List.set_cons_succ, List.set_cons_zero]
      refine F_free (v := .slice (some ⟨B, 2 + o, none⟩) n cap) 2 #[true, true, true, false, false, false, false, false, false, false, false, false, false, false, false, false] rfl (by kernel_rfl) (fun _ _ _ h => h) rfl (fun _ => rfl) (hFF) ?_; simp only [Act.put, List.setIfInBounds_toArray, List.set_cons_succ, List.set_cons_zero]
      refine F_free (v := .int .i64 m) 3 #[true, true, true, true, false, false, false, false, false, false, false, false, false, false, false, false] rfl (by kernel_rfl) (fun _ _ _ h => h) rfl (fun _ => rfl) (hFF) ?_; simp only [Act.put, List.setIfInBounds_toArray, List.set_cons_succ, List.set_cons_zero]
      refine F_free (v := .slice (some ⟨B, 2 + o, none⟩) n cap) 4 #[true, true, true, true, true, false, false, false, false, false, false, false, false, false, false, false] rfl (by kernel_rfl) (fun _ _ _ h => h) rfl (fun _ => rfl) (hFF) ?_; simp only [Act.put, List.setIfInBounds_toArray, List.set_cons_succ, List.set_cons_zero]
      refine F_free (v := .int .i64 m) 5 #[true, true, true, true, true, true, false, false, false, false, false, false, false, false, false, false] rfl (by kernel_rfl) (fun _ _ _ h => h) rfl (fun _ => rfl) (hFF) ?_; simp only [Act.put, List.setIfInBounds_toArray, List.set_cons_succ, List.set_cons_zero]
      refine F_free (v := .pointer (some ⟨B, 2 + o + m, none⟩)) 6 #[true, true, true, true, true, true, true, false, false, false, false, false, false, false, false, false] rfl (by kernel_rfl) (fun _ _ _ h => h) rfl (fun _ => e_val _ _ (Tryd.six B (2 + o) n cap m hmn _)) (hFF) ?_; simp only [Act.put, List.setIfInBounds_toArray, List.set_cons_succ, List.set_cons_zero]
      refine F_take (v := .int .u8 q.toNat) 7 #[true, true, true, true, true, true, true, true, false, false, false, false, false, false, false, false] rfl (by kernel_rfl) (fun _ _ _ h => h) rfl (fun w hF => e_load 5 (.tmp 20) ⟨B, 2 + o + m, none⟩ (.int .u8 q.toNat) rfl (Tryd.isAgg5 _) hF.2) (hFF) ?_; simp only [Act.put, List.setIfInBounds_toArray, List.set_cons_succ, List.set_cons_zero]
      refine F_free (v := .slice (some ⟨B, 2 + o, none⟩) n cap) 8 #[true, true, true, true, true, true, true, true, true, false, false, false, false, false, false, false] rfl (by kernel_rfl) (fun _ _ _ h => h) rfl (fun _ => rfl) (hFF) ?_; simp only [Act.put, List.setIfInBounds_toArray, List.set_cons_succ, List.set_cons_zero]
      refine F_free (v := .int .i64 k) 9 #[true, true, true, true, true, true, true, true, true, true, false, false, false, false, false, false] rfl (by kernel_rfl) (fun _ _ _ h => h) rfl (fun _ => rfl) (hFF) ?_; simp only [Act.put, List.setIfInBounds_toArray, List.set_cons_succ, List.set_cons_zero]
      refine F_free (v := .pointer (some ⟨B, 2 + o + k, none⟩)) 10 #[true, true, true, true, true, true, true, true, true, true, true, false, false, false, false, false] rfl (by kernel_rfl) (fun _ _ _ h => h) rfl (fun _ => e_val _ _ (Tryd.six B (2 + o) n cap k hkn _)) (hFF) ?_; simp only [Act.put, List.setIfInBounds_toArray, List.set_cons_succ, List.set_cons_zero]
      refine F_take (v := .int .u8 p.toNat) 11 #[true, true, true, true, true, true, true, true, true, true, true, true, false, false, false, false] rfl (by kernel_rfl) (fun _ _ _ h => h) rfl (fun w hF => e_load 5 (.tmp 24) ⟨B, 2 + o + k, none⟩ (.int .u8 p.toNat) rfl (Tryd.isAgg5 _) hF.1) (hFF) ?_; simp only [Act.put, List.setIfInBounds_toArray, List.set_cons_succ, List.set_cons_zero]
      refine F_free (v := .pointer (some ⟨B, 2 + o + k, none⟩)) 12 #[true, true, true, true, true, true, true, true, true, true, true, true, true, false, false, false] rfl (by kernel_rfl) (fun _ _ _ h => h) rfl (fun _ => e_val _ _ (Tryd.six B (2 + o) n cap k hkn _)) (hFF) ?_; simp only [Act.put, List.setIfInBounds_toArray, List.set_cons_succ, List.set_cons_zero]
      refine F_one 13 #[true, true, true, true, true, true, true, true, true, true, true, true, true, true, false, false] rfl (by kernel_rfl) ?_
      refine r_store_cell 5 46 _ _ B (2 + o + k) rfl (byteV q) rfl _ b1 (by rw [gv_size]; omega) Tryd.sizeOf5 rfl rfl ?_
      intro w10 u10 b10
      rw [HS1.out] at b10
      simp only [Act.put]
      refine ⟨fun h => (by cases h), ?_⟩
      refine F_one 14 #[true, true, true, true, true, true, true, true, true, true, true, true, true, true, true, false] rfl (by kernel_rfl) ?_
      refine r_val (.pointer (some ⟨B, 2 + o + m, none⟩)) (e_val _ _ (Tryd.six B (2 + o) n cap m hmn _)) rfl ?_
      simp only [Act.put, List.setIfInBounds_toArray, List.set_cons_succ, List.set_cons_zero]
      refine ⟨fun h => (by cases h), ?_⟩
      refine F_one 15 #[true, true, true, true, true, true, true, true, true, true, true, true, true, true, true, true] rfl (by kernel_rfl) ?_
      refine r_store_cell 5 46 _ _ B (2 + o + m) rfl (byteV p) rfl _ b10 (by rw [gv_size]; omega) Tryd.sizeOf5 rfl rfl ?_
      intro w11 u11 b11
      rw [HS2.out] at b11
      simp only [Act.put]
      refine ⟨fun h => (by cases h), ?_⟩
      refine F_done (by kernel_rfl) ?_
      go_wp2
      go_roundw
      case rel => exact ⟨k + 1, by go_num, by rw [← HJM.out]; congr 1; omega, by omega, b11, (uu.trans u10).trans u11⟩
      case measure => simp [intOf]; omega
    · have he := revTo_end c o n k (by omega)
      rw [he] at b1
      have hnl : ¬ ((k : Int) < (n : Int) - 1 - k) := by omega
      clear he
      go_wp2
      go_end0
      exact ⟨rfl, b1, uu⟩
set_option maxHeartbeats 2000000 in
set_option maxRecDepth 100000 in
theorem mirrored_any (W H : Nat) (c : List UInt8) (w : World) (hW1 : 1 ≤ W ∨ H = 0) (hW : W ≤ 7) (hH : H ≤ 7) (h36 : nn W H ≤ 36) (hlen : c.length = nn W H) :
    Calls Tryd.prog 82 #[.agg (gv W H c)] w (Ret (.agg (gv W H (miC W H c))) w) := by
  have gg := Gr.refl w
  have HZ := hidI (miTo_zero W H c hlen)
  go_enter Tryd.func82, Tryd.ntmps82
  go_wp2_with (first | (refine r_box 46 _ (gv W H c) rfl rfl ?_; intro w1 B1 N1; have g1 := N1.gr; have b1 : Blk w1 B1 (gv W H c) 46 := N1.blk; have l1 := N1.lo; have t1 := N1.hi; have z1 := g1.size; have gg := gg.trans g1; clear N1; obtain ⟨b1_0, b1_1, b1_2⟩ := gcells b1) | (refine r_alloc 46 _ Tryd.gzero rfl ?_; intro w2 B2 N2; have g2 := N2.gr; have b2 : Blk w2 B2 (gv 0 0 []) 46 := N2.blk; have l2 := N2.lo; have t2 := N2.hi; have z2 := g2.size; have b1 := g2.blk b1; obtain ⟨b1_0, b1_1, b1_2⟩ := gcells b1; have gg := gg.trans g2; clear N2; obtain ⟨b2_0, b2_1, b2_2⟩ := gcells b2))
  go_loopw [3, 6] (fun _ i wr => ∃ k : Nat, k ≤ H ∧ i = .int .i64 k ∧ Blk wr B1 (gv W H (miTo W H c k)) 46 ∧ Blk wr B2 (gv 0 0 []) 46 ∧ Gr w wr) (fun _ i _ => H - (intOf i).toNat)
  case atStart => exact ⟨0, Nat.zero_le _, rfl, by rw [HZ.out]; exact b1, b2, gg⟩
  case round =>
    obtain ⟨k, hk, rfl, b1, b2, gg⟩ := hrel
    have hB12 : B1 < B2 := by omega
    have lo1 : w.heap.size ≤ B1 := by omega
    have lo2 : w.heap.size ≤ B2 := by omega
    by_cases hlt : k < H
    · have hle := nn_row (W := W) hlt
      have hW1' : 1 ≤ W := by omega
      have hml := miTo_length W H c k
      have HS := hidI (miTo_succ W H c k hW1' hlt)
      go_wp2_with (first | (go_at_call 54; refine (rowOf_any B1 W H k _ _ b1 hW1' hW hlt h36 hH).mono ?_; rintro e w6 ⟨rfl, m, rfl⟩; have g6 := (Gr.refl wr).drewN m; have b1 := g6.blk b1; have b2 := g6.blk b2; have gg := gg.trans g6) | (go_at_call 111; refine (reverse_any B1 (nn W k) W W W H _ _ b1 hW1' (by omega) (by omega)).mono ?_; rintro e w7 ⟨rfl, b7, u7⟩; rw [HS.out] at b7; have b2 := u7.blk b2 (by omega); have gg := u7.gr gg lo1))
      go_roundw
      case rel => exact ⟨k + 1, by omega, by go_num, b7, b2, gg⟩
      case measure => simp [intOf]; omega
    · obtain rfl : k = H := by omega
      clear hlt
      rw [miTo_end] at b1
      go_wp2_with (first | (refine r_load_row 46 _ _ rfl _ _ _ b1 Tryd.underlying46 rfl (Tryd.ginfo' _ _ _) rfl ?_) | (refine r_store_row 46 46 _ _ _ rfl (gv _ _ _) _ rfl b2 (Tryd.gsize' _ _ _) (by simp only [gv_size]) (gv_one _ _ _) rfl ?_; intro w8 u8 b2'; have z8 := u8.size; have gg := u8.gr gg (by omega); clear b2; have b2 := b2'; clear b2'; obtain ⟨b2_0, b2_1, b2_2⟩ := gcells b2))
      refine bodyPost_ret (results_row rfl _ _ _ _ _ _ rfl b2 Tryd.underlying46 rfl (Tryd.ginfo' _ _ _)) rfl ⟨?_, gg⟩
      rfl
theorem Tryd.gf0 (B : Nat) (w : World) : (Instr.fieldAt 46 (.pointer (some ⟨B, 0, none⟩)) 0).run Tryd.prog w = .ok (.pointer (some ⟨B, 0, none⟩)) w := by kernel_rfl
theorem Tryd.gf1 (B : Nat) (w : World) : (Instr.fieldAt 46 (.pointer (some ⟨B, 0, none⟩)) 1).run Tryd.prog w = .ok (.pointer (some ⟨B, 1, none⟩)) w := by kernel_rfl
theorem Tryd.gf2 (B : Nat) (w : World) : (Instr.fieldAt 46 (.pointer (some ⟨B, 0, none⟩)) 2).run Tryd.prog w = .ok (.pointer (some ⟨B, 2, none⟩)) w := by kernel_rfl
set_option maxHeartbeats 2000000 in
set_option maxRecDepth 100000 in
theorem transposed_any (W H : Nat) (c : List UInt8) (w : World) (hW : W ≤ 7) (hH : H ≤ 7) (h36 : nn W H ≤ 36) (hlen : c.length = nn W H) :
    Calls Tryd.prog 112 #[.agg (gv W H c)] w (Ret (.agg (gv H W (trC W H c))) w) := by
  have gg := Gr.refl w
  have HZ := hidI (gv_ext (W := H) (H := W) fun i _ => trTo_zero W H c i)
  have HE := hidI (gv_ext (W := H) (H := W) fun i hi => trTo_fin W H c i hi)
  have h36' : nn H W ≤ 36 := by rw [nn_comm]; exact h36
  go_enter Tryd.func112, Tryd.ntmps112
  go_wp2_with (first | (refine r_box 46 _ (gv W H c) rfl rfl ?_; intro w1 B1 N1; have g1 := N1.gr; have b1 : Blk w1 B1 (gv W H c) 46 := N1.blk; have l1 := N1.lo; have t1 := N1.hi; have z1 := g1.size; have gg := gg.trans g1; clear N1; obtain ⟨b1_0, b1_1, b1_2⟩ := gcells b1) | (refine r_alloc (dst := some 2) 46 _ Tryd.gzero rfl ?_; intro w2 B2 N2; have g2 := N2.gr; have b2 : Blk w2 B2 (gv 0 0 []) 46 := N2.blk; have l2 := N2.lo; have t2 := N2.hi; have z2 := g2.size; have b1 := g2.blk b1; obtain ⟨b1_0, b1_1, b1_2⟩ := gcells b1; have gg := gg.trans g2; clear N2; obtain ⟨b2_0, b2_1, b2_2⟩ := gcells b2) | (refine r_build 46 [(0, .tmp 8), (1, .tmp 10)] [(0, .int .i64 (H)), (1, .int .i64 (W))] _ (Tryd.gbuild _ _ _) rfl rfl ?_) | (refine r_alloc (dst := some 3) 46 _ Tryd.gzero rfl ?_; intro w3 B3 N3; have g3 := N3.gr; have b3 : Blk w3 B3 (gv 0 0 []) 46 := N3.blk; have l3 := N3.lo; have t3 := N3.hi; have z3 := g3.size; have b1 := g3.blk b1; obtain ⟨b1_0, b1_1, b1_2⟩ := gcells b1; have b2 := g3.blk b2; have gg := gg.trans g3; clear N3; obtain ⟨b3_0, b3_1, b3_2⟩ := gcells b3) | (refine r_store_row 46 46 _ _ _ rfl (gv H W []) _ rfl b3 (Tryd.gsize' _ _ _) (by simp only [gv_size]) (gv_one _ _ _) rfl ?_; intro w4 u4 b3'; have z4 := u4.size; have gg := u4.gr gg (by omega); have b1 := u4.blk b1 (by omega); obtain ⟨b1_0, b1_1, b1_2⟩ := gcells b1; have b2 := u4.blk b2 (by omega); clear b3; have b3 := b3'; clear b3'; obtain ⟨b3_0, b3_1, b3_2⟩ := gcells b3) | (refine r_load_row 46 _ _ rfl _ _ _ b1 Tryd.underlying46 rfl (Tryd.ginfo' _ _ _) rfl ?_) | (go_at_call 53; refine (countAll_any W H c _ hW hH).mono ?_; rintro e w5 ⟨rfl, g5⟩; have z5 := g5.size; have b1 := g5.blk b1; obtain ⟨b1_0, b1_1, b1_2⟩ := gcells b1; have b2 := g5.blk b2; have b3 := g5.blk b3; have gg := gg.trans g5))
  rw [← HZ.out] at b3
  go_loopw [4, 5, 6, 14] (fun _ _ _ i wr => ∃ k : Nat, k ≤ nn W H ∧ i = .int .i64 k ∧ Blk wr B1 (gv W H c) 46 ∧ Blk wr B2 (gv 0 0 []) 46 ∧ Blk wr B3 (gv H W (trTo W H c k)) 46 ∧ Gr w wr) (fun _ _ _ i _ => nn W H - (intOf i).toNat)
  case atStart => exact ⟨0, Nat.zero_le _, rfl, b1, b2, b3, gg⟩
  case round =>
    obtain ⟨k, hk, rfl, b1, b2, b3, gg⟩ := hrel
    have hB12 : B1 < B2 := by omega
    have hB23 : B2 < B3 := by omega
    have lo2 : w.heap.size ≤ B2 := by omega
    have lo3 : w.heap.size ≤ B3 := by omega
    by_cases hlt : k < nn W H
    · have hW1 : 0 < W := by
        rcases Nat.eq_zero_or_pos W with h | h
        · rw [h] at hlt; unfold nn at hlt; omega
        · exact h
      have hy : k / W < H := row_lt hlt
      have hx : k % W < W := Nat.mod_lt _ hW1
      have hH1 : 1 ≤ H := Nat.lt_of_le_of_lt (Nat.zero_le _) hy
      have hle := nn_row (W := H) hx
      have hk36 : k < 36 := by omega
      obtain ⟨x, hxe⟩ : ∃ x, x = k % W := ⟨_, rfl⟩
      obtain ⟨y, hye⟩ : ∃ y, y = k / W := ⟨_, rfl⟩
      have hts := trTo_succ W H c k hW1 hlt
      rw [← hxe] at hx hle hts
      rw [← hye] at hy hts
      have hset := gv_set H W (trTo W H c k) (nn H x + y) (at0 c k) (by omega) (by rw [trTo_length]; omega)
      rw [hts, ← Nat.add_assoc] at hset
      have HSET := hidI hset
      have HXE := hidI hxe
      have HYE := hidI hye
      clear hset hts hxe hye
      obtain ⟨b1_0, b1_1, b1_2⟩ := gcells b1
      have c1 := b1_2 k hk36
      go_wp2
      refine q_whole (by kernel_rfl) (by kernel_rfl) ?_
      refine q_move _ (.int .i64 k) rfl rfl ?_; simp only [Act.put, List.setIfInBounds_toArray, List.set_cons_succ, List.set_cons_zero]
      refine q_take (.pointer (some ⟨B1, 0, none⟩)) rfl (fun w' hw' => e_val _ _ (Tryd.gf0 B1 _)) ?_; simp only [Act.put, List.setIfInBounds_toArray, List.set_cons_succ, List.set_cons_zero]
      refine q_take (.int .i64 W) rfl (fun w' hw' => e_load 3 (.tmp 18) ⟨B1, 0, none⟩ _ rfl (Tryd.isAgg3 _) (hw'.cell b1_0)) ?_; simp only [Act.put, List.setIfInBounds_toArray, List.set_cons_succ, List.set_cons_zero]
      refine q_rem _ _ _ _ (k) (W) rfl rfl (hW1) rfl ?_; simp only [Act.put, List.setIfInBounds_toArray, List.set_cons_succ, List.set_cons_zero]
      refine q_move _ (.int .i64 k) rfl rfl ?_; simp only [Act.put, List.setIfInBounds_toArray, List.set_cons_succ, List.set_cons_zero]
      refine q_take (.pointer (some ⟨B1, 0, none⟩)) rfl (fun w' hw' => e_val _ _ (Tryd.gf0 B1 _)) ?_; simp only [Act.put, List.setIfInBounds_toArray, List.set_cons_succ, List.set_cons_zero]
      refine q_take (.int .i64 W) rfl (fun w' hw' => e_load 3 (.tmp 22) ⟨B1, 0, none⟩ _ rfl (Tryd.isAgg3 _) (hw'.cell b1_0)) ?_; simp only [Act.put, List.setIfInBounds_toArray, List.set_cons_succ, List.set_cons_zero]
      refine q_quo _ _ _ _ (k) (W) rfl rfl (hW1) (by omega) rfl ?_; simp only [Act.put, List.setIfInBounds_toArray, List.set_cons_succ, List.set_cons_zero]
      refine q_assign _ (.int .i64 (k % W : Nat)) rfl rfl ?_; simp only [Act.put, List.setIfInBounds_toArray, List.set_cons_succ, List.set_cons_zero]
      refine q_assign _ (.int .i64 (k / W : Nat)) rfl rfl ?_; simp only [Act.put, List.setIfInBounds_toArray, List.set_cons_succ, List.set_cons_zero]
      rw [← HXE.out, ← HYE.out]
      refine wpQuiet_nil ?_; intro w6 g6; have z6 := g6.size; have b1 := g6.blk b1; have b2 := g6.blk b2; have b3 := g6.blk b3; have gg := gg.trans g6
      have c1 := g6.cell c1
      go_wp2
      refine q_begin 8 (by kernel_rfl) (by kernel_rfl) ?_; simp only [List.take_succ_cons, List.take_zero, List.drop_succ_cons, List.drop_zero]
      refine q_move _ (.int .i64 x) rfl rfl ?_; simp only [Act.put, List.setIfInBounds_toArray, List.set_cons_succ, List.set_cons_zero]
      refine q_call 54 [.tmp 3, .tmp 25] _ [.pointer (some ⟨B3, 0, none⟩), .int .i64 x] (.slice (some ⟨B3, 2 + nn H x, none⟩) H H) Tryd.call54 rfl rfl (fun w' hw' => ((rowOf_any B3 H W x _ w' (hw'.blk b3) hH1 hH hx h36' hW).mono fun e w'' h => ⟨h.1, by obtain ⟨n, hn⟩ := h.2; rw [hn]; exact Gr.drewN hw' n⟩)) ?_; simp only [Act.put, List.setIfInBounds_toArray, List.set_cons_succ, List.set_cons_zero]
      refine q_move _ (.int .i64 y) rfl rfl ?_; simp only [Act.put, List.setIfInBounds_toArray, List.set_cons_succ, List.set_cons_zero]
      refine q_move _ (.int .i64 k) rfl rfl ?_; simp only [Act.put, List.setIfInBounds_toArray, List.set_cons_succ, List.set_cons_zero]
      refine q_take (.pointer (some ⟨B1, 2, none⟩)) rfl (fun w' hw' => e_val _ _ (Tryd.gf2 B1 _)) ?_; simp only [Act.put, List.setIfInBounds_toArray, List.set_cons_succ, List.set_cons_zero]
      refine q_take (.pointer (some ⟨B1, 2 + k, none⟩)) rfl (fun w' hw' => e_val _ _ (Tryd.gix B1 k hk36 _)) ?_; simp only [Act.put, List.setIfInBounds_toArray, List.set_cons_succ, List.set_cons_zero]
      refine q_take (.int .u8 (at0 c k).toNat) rfl (fun w' hw' => e_load 5 (.tmp 30) ⟨B1, 2 + k, none⟩ _ rfl (Tryd.isAgg5 _) (hw'.cell c1)) ?_; simp only [Act.put, List.setIfInBounds_toArray, List.set_cons_succ, List.set_cons_zero]
      refine q_take (.pointer (some ⟨B3, 2 + nn H x + y, none⟩)) rfl (fun w' hw' => e_val _ _ (Tryd.six B3 (2 + nn H x) H H y hy _)) ?_; simp only [Act.put, List.setIfInBounds_toArray, List.set_cons_succ, List.set_cons_zero]
      refine wpQuiet_nil ?_; intro w7 g7; have z7 := g7.size; have b1 := g7.blk b1; have b2 := g7.blk b2; have b3 := g7.blk b3; have gg := gg.trans g7
      go_wp2_with (refine r_store_cell 5 46 _ _ B3 (2 + nn H x + y) rfl (byteV (at0 c k)) rfl _ b3 (by rw [gv_size]; omega) Tryd.sizeOf5 rfl rfl ?_; intro w10 u10 b10; rw [HSET.out] at b10; have b1 := u10.blk b1 (by omega); have b2 := u10.blk b2 (by omega); have gg := u10.gr gg lo3)
      go_roundw
      case rel => exact ⟨k + 1, by omega, by go_num, b1, b2, b10, gg⟩
      case measure => simp [intOf]; omega
    · obtain rfl : k = nn W H := by omega
      clear hlt
      rw [HE.out] at b3
      go_wp2_with (first | (refine r_load_row 46 _ _ rfl _ _ _ b3 Tryd.underlying46 rfl (Tryd.ginfo' _ _ _) rfl ?_) | (refine r_store_row 46 46 _ _ _ rfl (gv _ _ _) _ rfl b2 (Tryd.gsize' _ _ _) (by simp only [gv_size]) (gv_one _ _ _) rfl ?_; intro w8 u8 b2'; have z8 := u8.size; have gg := u8.gr gg (by omega); clear b2; have b2 := b2'; clear b2'; obtain ⟨b2_0, b2_1, b2_2⟩ := gcells b2))
      refine bodyPost_ret (results_row rfl _ _ _ _ _ _ rfl b2 Tryd.underlying46 rfl (Tryd.ginfo' _ _ _)) rfl ⟨?_, gg⟩
      rfl
set_option maxHeartbeats 1000000 in
set_option maxRecDepth 100000 in
theorem turned_any (W H : Nat) (c : List UInt8) (w : World) (hH1 : 1 ≤ H ∨ W = 0) (hW : W ≤ 7) (hH : H ≤ 7) (h36 : nn W H ≤ 36) (hlen : c.length = nn W H) :
    Calls Tryd.prog 83 #[.agg (gv W H c)] w (Ret (.agg (gv H W (tuS W H c))) w) := by
  have gg := Gr.refl w
  have h36' : nn H W ≤ 36 := by rw [nn_comm]; exact h36
  have hl2 : (trC W H c).length = nn H W := by rw [trC_length, nn_comm]
  have HT := hidI (tuS_all W H c)
  go_enter Tryd.func83, Tryd.ntmps83
  go_wp2_with (first | (refine r_box 46 _ (gv W H c) rfl rfl ?_; intro w1 B1 N1; have g1 := N1.gr; have b1 : Blk w1 B1 (gv W H c) 46 := N1.blk; have l1 := N1.lo; have t1 := N1.hi; have z1 := g1.size; have gg := gg.trans g1; clear N1; obtain ⟨b1_0, b1_1, b1_2⟩ := gcells b1) | (refine r_alloc 46 _ Tryd.gzero rfl ?_; intro w2 B2 N2; have g2 := N2.gr; have b2 : Blk w2 B2 (gv 0 0 []) 46 := N2.blk; have l2 := N2.lo; have t2 := N2.hi; have z2 := g2.size; have b1 := g2.blk b1; have gg := gg.trans g2; clear N2; obtain ⟨b2_0, b2_1, b2_2⟩ := gcells b2) | (refine r_load_row 46 _ _ rfl _ _ _ b1 Tryd.underlying46 rfl (Tryd.ginfo' _ _ _) rfl ?_) | (go_at_call 112; refine (transposed_any W H c _ hW hH h36 hlen).mono ?_; rintro e w3 ⟨rfl, g3⟩; have z3 := g3.size; have b2 := g3.blk b2; have gg := gg.trans g3) | (go_at_call 82; refine (mirrored_any H W (trC W H c) _ hH1 hH hW h36' hl2).mono ?_; rintro e w4 ⟨rfl, g4⟩; rw [HT.out]; have z4 := g4.size; have b2 := g4.blk b2; have gg := gg.trans g4) | (refine r_store_row 46 46 _ _ _ rfl (gv H W (tuS W H c)) _ rfl b2 (Tryd.gsize' _ _ _) (by simp only [gv_size]) (gv_one _ _ _) rfl ?_; intro w5 u5 b2'; have z5 := u5.size; have gg := u5.gr gg (by omega); clear b2; have b2 := b2'; clear b2'; obtain ⟨b2_0, b2_1, b2_2⟩ := gcells b2))
  refine bodyPost_ret (results_row rfl _ _ _ _ _ _ rfl b2 Tryd.underlying46 rfl (Tryd.ginfo' _ _ _)) rfl ⟨?_, gg⟩
  rfl
theorem rd_both (l : List UInt8) : (1 ≤ (rdG l).w ∧ 1 ≤ (rdG l).h) ∨ ((rdG l).w = 0 ∧ (rdG l).h = 0) := by
  rcases rd_cases l with ⟨_, hg, _⟩ | ⟨g, hp, hg, _⟩
  · rw [hg]; exact .inr ⟨rfl, rfl⟩
  · rw [hg]; exact .inl ⟨(parse_tray hp).w1, (parse_tray hp).h1⟩
def tuB (l : List UInt8) : ByteArray := txtB (rdG l).h (rdG l).w (tuS (rdG l).w (rdG l).h (rdG l).c)
def miB (l : List UInt8) : ByteArray := txtB (rdG l).w (rdG l).h (miC (rdG l).w (rdG l).h (rdG l).c)
def trB (l : List UInt8) : ByteArray := txtB (rdG l).h (rdG l).w (trC (rdG l).w (rdG l).h (rdG l).c)
end Go.Proofs.YthjkeohnjggmiaaDoor
