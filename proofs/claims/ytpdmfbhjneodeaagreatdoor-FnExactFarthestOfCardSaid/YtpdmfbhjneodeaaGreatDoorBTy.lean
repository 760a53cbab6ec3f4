/-
  What the model's smallest functions on trays return, and its grids as values.
  What the model's reader of trays returns: a grid exactly for the texts that are trays.
  What the functions on a tray's text return, in the program and in the model: whether it is one, its sizes, and its cells.
-/
import Derived.Test.YtpdmfbhjneodeaaGreatDoorBKit
import Derived.Test.YtpdmfbhjneodeaaGreatDoorBRd
import Derived.Test.YtpdmfbhjneodeaaGreatDoorBTxt
namespace Go.Proofs.YtpdmfbhjneodeaaGreatDoor
open Go.RowKit
/-- A grid of the model as a value: its sides and the slice of its cells. -/
def tg (W H : Int) (s : Value) : Array Value := #[.int .i64 W, .int .i64 H, s]
theorem tcells {w : World} {B : Nat} {W H : Int} {s : Value} {T : TypeId} (h : Blk w B (tg W H s) T) :
    w.cell? ⟨B, 0, none⟩ = some (.int .i64 W) ∧ w.cell? ⟨B, 1, none⟩ = some (.int .i64 H) ∧ w.cell? ⟨B, 2, none⟩ = some s :=
  ⟨h.cell 0, h.cell 1, h.cell 2⟩
theorem tg_one {W H : Int} {s : Value} (hs : s.oneCell' = true) : ∀ v ∈ (tg W H s).toList, v.oneCell' = true := by
  intro v hv
  simp [tg] at hv
  rcases hv with rfl | rfl | rfl
  · rfl
  · rfl
  · exact hs
theorem own_one {w : World} {base : Nat} {e : TypeId} {size : Nat} {v : Value} {n : Nat} {xs : List Value} (hr : w.ownsRow base e size v n xs) : v.oneCell' = true := by
  obtain ⟨_, ⟨rfl, _⟩ | ⟨g, cap, cur, rfl, _⟩⟩ := hr <;> rfl
theorem own_cell {w : World} {base : Nat} {e : TypeId} {g n cap : Nat} {c : List UInt8} (hr : w.ownsRow base e 1 (.slice (some ⟨g, 0, none⟩) n cap) n (c.map byteV)) (j : Nat) (hj : j < c.length) (hn : n = c.length) :
    w.cell? ⟨g, j, none⟩ = some (.int .u8 (at0 c j).toNat) := by
  rw [hr.cellAt j (by omega), List.getElem?_map]
  unfold at0
  rw [List.getElem?_eq_getElem hj]
  simp [byteV, List.getD, hj]
def cellsV (c : List UInt8) : List Value := c.map byteV
theorem cellsV_one (c : List UInt8) : ∀ v ∈ cellsV c, v.oneCell' = true := by
  intro v hv
  obtain ⟨b, _, rfl⟩ := List.mem_map.1 hv
  rfl
theorem Tryz.tzero (w : World) : (zeroValue 31).run Tryz.prog w = .ok (.agg (tg 0 0 (.slice none 0 0))) w := by kernel_rfl
theorem Tryz.tsize (w : World) : (sizeOf 31).run Tryz.prog w = .ok 3 w := by kernel_rfl
theorem Tryz.tinfo : (Tryz.prog.info? 31).map (·.size) = some 3 := by kernel_rfl
theorem Tryz.tbuild0 (w : World) : (Instr.build 31 #[]).run Tryz.prog w = .ok (.agg (tg 0 0 (.slice none 0 0))) w := by kernel_rfl
theorem Tryz.tf0 (B : Nat) (w : World) : (Instr.fieldAt 31 (.pointer (some ⟨B, 0, none⟩)) 0).run Tryz.prog w = .ok (.pointer (some ⟨B, 0, none⟩)) w := by kernel_rfl
theorem Tryz.tf1 (B : Nat) (w : World) : (Instr.fieldAt 31 (.pointer (some ⟨B, 0, none⟩)) 1).run Tryz.prog w = .ok (.pointer (some ⟨B, 1, none⟩)) w := by kernel_rfl
theorem Tryz.tf2 (B : Nat) (w : World) : (Instr.fieldAt 31 (.pointer (some ⟨B, 0, none⟩)) 2).run Tryz.prog w = .ok (.pointer (some ⟨B, 2, none⟩)) w := by kernel_rfl
theorem Tryz.bytesI : ElemInfo Tryz.prog 29 5 (.int .u8 0) 1 1 := ⟨Tryz.underlying29, by kernel_rfl, rfl, by decide⟩
theorem Tryz.slsize (w : World) : (sizeOf 29).run Tryz.prog w = .ok 1 w := by kernel_rfl
theorem Tryz.bs1 (u : Int) (w : World) : (Instr.buildSlice 29 1 #[(0, .int .u8 u)]).run Tryz.prog w = .ok (.slice (some ⟨w.heap.size, 0, none⟩) 1 1) (w.alloc (.cells #[.int .u8 u] 5)) := by kernel_rfl
theorem Tryz.slhi (G n cap k : Nat) (hk : k ≤ cap) (w : World) : (Instr.sliceAt 29 (.slice (some ⟨G, 0, none⟩) n cap) none (some (.int .i64 k)) none).run Tryz.prog w = .ok (.slice (some ⟨G, 0, none⟩) k cap) w := by
  have hu : Tryz.prog.underlying 29 = some (.slice (Tryz.prog.elem 29)) := by kernel_rfl
  have he : Tryz.prog.elem 29 = 5 := by kernel_rfl
  rw [run_sliceAt_slice w 29 _ _ _ _ hu, run_slice_h w 29 (some ⟨G, 0, none⟩) n cap hu .i64 k (by omega) (by omega), he]
  simp [Tryz.sizeOf5, Result.andThen, sliced]
  intro _
  rfl
set_option maxHeartbeats 400000 in
theorem tyBall_any (b : UInt8) (w : World) : Calls Tryz.prog 25 #[.int .u8 b.toNat] w fun e w' => e = .returned (.bool (isBallB b)) ∧ w = w' := by
  have hV : isBallB b = (decide ((b.toNat : Int) = 111) || (decide (97 ≤ (b.toNat : Int)) && decide ((b.toNat : Int) ≤ 102))) := by
    unfold isBallB
    rw [Bool.eq_iff_iff]
    simp [UInt8.le_iff_toNat_le, ← UInt8.toNat_inj]
    omega
  have HV := hidI hV
  clear hV
  have hcases : (b.toNat : Int) = 111 ∨ ((b.toNat : Int) < 97) ∨ (97 ≤ (b.toNat : Int) ∧ (b.toNat : Int) ≤ 102) ∨ (102 < (b.toNat : Int) ∧ ¬ (b.toNat : Int) = 111) := by omega
  rcases hcases with h | h | ⟨h1, h2⟩ | ⟨h1, h2⟩
  · have HH := hidI h
    have ht : ((b.toNat : Int) == 111) = true := by rw [h]; rfl
    clear h
    go_enter Tryz.func25, Tryz.ntmps25
    go_wp2
    go_ret
    exact ⟨ret_bool (by rw [HV.out, HH.out]; rfl), rfl⟩
  · have hn : ((b.toNat : Int) == 111) = false := by rw [beq_eq_false_iff_ne]; omega
    go_enter Tryz.func25, Tryz.ntmps25
    go_wp2
    go_ret
    exact ⟨ret_bool (by rw [HV.out]; simp; omega), rfl⟩
  · have hn : ((b.toNat : Int) == 111) = false := by rw [beq_eq_false_iff_ne]; omega
    go_enter Tryz.func25, Tryz.ntmps25
    go_wp2
    go_ret
    exact ⟨ret_bool (by rw [HV.out]; simp; omega), rfl⟩
  · have hn : ((b.toNat : Int) == 111) = false := by rw [beq_eq_false_iff_ne]; omega
    clear h2
    go_enter Tryz.func25, Tryz.ntmps25
    go_wp2
    go_ret
    rw [beq_eq_false_iff_ne] at hn
    exact ⟨ret_bool (by rw [HV.out, decide_eq_false hn, decide_eq_false (show ¬ (b.toNat : Int) ≤ 102 by omega), Bool.and_false]; rfl), rfl⟩
set_option maxHeartbeats 400000 in
theorem tyIs_any (b : UInt8) (w : World) : Calls Tryz.prog 22 #[.int .u8 b.toNat] w fun e w' => e = .returned (.bool (isCellB b)) ∧ w = w' := by
  by_cases h1 : b = 35
  · subst h1
    go_enter Tryz.func22, Tryz.ntmps22
    go_wp2
    go_ret
    exact ⟨rfl, rfl⟩
  · by_cases h2 : b = 46
    · subst h2
      go_enter Tryz.func22, Tryz.ntmps22
      go_wp2
      go_ret
      exact ⟨rfl, rfl⟩
    · have n1 : ((b.toNat : Int) == 35) = false := by
        rw [beq_eq_false_iff_ne]; intro e; exact h1 (UInt8.toNat_inj.1 (by simp; omega))
      have n2 : ((b.toNat : Int) == 46) = false := by
        rw [beq_eq_false_iff_ne]; intro e; exact h2 (UInt8.toNat_inj.1 (by simp; omega))
      have HV := hidI (show isCellB b = isBallB b from by unfold isCellB; simp [h1, h2])
      clear h1 h2
      go_enter Tryz.func22, Tryz.ntmps22
      go_wp2_with (go_at_call 25; refine (tyBall_any _ _).mono ?_; rintro e wSame ⟨rfl, rfl⟩)
      go_ret
      exact ⟨ret_bool HV.out.symm, rfl⟩
end Go.Proofs.YtpdmfbhjneodeaaGreatDoor
namespace Go.Proofs.YtpdmfbhjneodeaaGreatDoor
open Go.RowKit
/-- What the model's reader leaves. -/
def RetTy (T : TypeId) (l : List UInt8) (w : World) (e : Ending) (w' : World) : Prop :=
  Gr w w' ∧ ((parse l = none ∧ e = .returned (.tuple #[.agg (tg 0 0 (.slice none 0 0)), .bool false])) ∨
    ∃ (g : Grid) (sl : Value), parse l = some g ∧ e = .returned (.tuple #[.agg (tg g.w g.h sl), .bool true]) ∧ w'.ownsRow w.heap.size T 1 sl g.c.length (cellsV g.c))
theorem byte_get (s : ByteArray) (i : Nat) (h : i < s.size) : s.data.toList[i]? = some s[i] := by
  simp [ByteArray.getElem_eq_getElem_data]
theorem isome_ne {b : UInt8} (h : b ≠ 47) : ((b.toNat : Int) != 47) = true := by
  rw [bne_iff_ne]; intro e; exact h (UInt8.toNat_inj.1 (by simp; omega))
theorem Tryz.sidx (s : ByteArray) (i : Nat) (h : i < s.size) (w : World) : (Instr.index 9 (.string s) (.int .i64 i)).run Tryz.prog w = .ok (.int .u8 (s[i]'h).toNat) w := by
  rw [run_index_string w 9 s .i64 i Tryz.underlying9, dif_pos (by omega)]
  simp
set_option maxHeartbeats 4000000 in
set_option maxRecDepth 100000 in
theorem tyRead_any (s : ByteArray) (w : World) (hs : s.size ≤ 1048576) : Calls Tryz.prog 13 #[.string s] w (RetTy 5 s.data.toList w) := by
  have gg := Gr.refl w
  by_cases h42 : 42 < s.size
  · have HV := hidI (parse_none (l := s.data.toList) (fun W h => by
      have := parse_len (parse_of h)
      rw [Array.length_toList] at this
      have e : s.data.size = s.size := rfl
      omega))
    go_enter Tryz.func13, Tryz.ntmps13
    go_wp2_with (first | (refine r_alloc (dst := some 2) 31 _ Tryz.tzero rfl ?_; intro w1 B1 N1; have g1 := N1.gr; have b1 : Blk w1 B1 (tg 0 0 (.slice none 0 0)) 31 := N1.blk; have l1 := N1.lo; have t1 := N1.hi; have z1 := g1.size; have gg := gg.trans g1; clear N1; obtain ⟨b1_0, b1_1, b1_2⟩ := tcells b1) | (refine r_alloc (dst := some 4) 31 _ Tryz.tzero rfl ?_; intro w2 B2 N2; have g2 := N2.gr; have b2 : Blk w2 B2 (tg 0 0 (.slice none 0 0)) 31 := N2.blk; have l2 := N2.lo; have t2 := N2.hi; have z2 := g2.size; have b1 := g2.blk b1; obtain ⟨b1_0, b1_1, b1_2⟩ := tcells b1; have gg := gg.trans g2; clear N2; obtain ⟨b2_0, b2_1, b2_2⟩ := tcells b2) | (refine r_build 31 [] [] _ (Tryz.tbuild0 _) rfl rfl ?_) | (refine r_store_row 31 31 _ _ _ rfl (tg _ _ _) _ rfl b1 Tryz.tsize rfl (tg_one rfl) rfl ?_; intro w3 u3 b1'; have z3 := u3.size; have gg := u3.gr gg (by omega); have b2 := u3.blk b2 (by omega); obtain ⟨b2_0, b2_1, b2_2⟩ := tcells b2; clear b1; have b1 := b1'; clear b1'; obtain ⟨b1_0, b1_1, b1_2⟩ := tcells b1) | (refine r_store_row 31 31 _ _ _ rfl (tg _ _ _) _ rfl b2 Tryz.tsize rfl (tg_one rfl) rfl ?_; intro w4 u4 b2'; have z4 := u4.size; have gg := u4.gr gg (by omega); have b1 := u4.blk b1 (by omega); obtain ⟨b1_0, b1_1, b1_2⟩ := tcells b1; clear b2; have b2 := b2'; clear b2'; obtain ⟨b2_0, b2_1, b2_2⟩ := tcells b2) | (refine r_load_row 31 _ _ rfl _ _ _ b2 Tryz.underlying31 rfl Tryz.tinfo rfl ?_))
    refine bodyPost_ret (results_row_bool rfl _ _ _ _ _ _ rfl b1 Tryz.underlying31 rfl Tryz.tinfo) rfl ?_
    exact ⟨gg, .inl ⟨HV.out, rfl⟩⟩
  · obtain ⟨L, hL⟩ : ∃ L, s.data.toList = L := ⟨_, rfl⟩
    have hlen : L.length = s.size := by rw [← hL, Array.length_toList]; rfl
    have HB := hidI (fun i (hi : i < s.size) => by have := byte_get s i hi; rw [hL] at this; exact this : ∀ i (hi : i < s.size), L[i]? = some (s[i]'hi))
    have HLEN := hidI hlen
    rw [hL]
    clear hL hlen
    go_enter Tryz.func13, Tryz.ntmps13
    go_wp2_with (first | (refine r_alloc (dst := some 2) 31 _ Tryz.tzero rfl ?_; intro w1 B1 N1; have g1 := N1.gr; have b1 : Blk w1 B1 (tg 0 0 (.slice none 0 0)) 31 := N1.blk; have l1 := N1.lo; have t1 := N1.hi; have z1 := g1.size; have gg := gg.trans g1; clear N1; obtain ⟨b1_0, b1_1, b1_2⟩ := tcells b1) | (refine r_alloc (dst := some 4) 31 _ Tryz.tzero rfl ?_; intro w2 B2 N2; have g2 := N2.gr; have b2 : Blk w2 B2 (tg 0 0 (.slice none 0 0)) 31 := N2.blk; have l2 := N2.lo; have t2 := N2.hi; have z2 := g2.size; have b1 := g2.blk b1; obtain ⟨b1_0, b1_1, b1_2⟩ := tcells b1; have gg := gg.trans g2; clear N2; obtain ⟨b2_0, b2_1, b2_2⟩ := tcells b2) | (refine r_build 31 [] [] _ (Tryz.tbuild0 _) rfl rfl ?_) | (refine r_store_row 31 31 _ _ _ rfl (tg _ _ _) _ rfl b2 Tryz.tsize rfl (tg_one rfl) rfl ?_; intro w4 u4 b2'; have z4 := u4.size; have gg := u4.gr gg (by omega); have b1 := u4.blk b1 (by omega); obtain ⟨b1_0, b1_1, b1_2⟩ := tcells b1; clear b2; have b2 := b2'; clear b2'; obtain ⟨b2_0, b2_1, b2_2⟩ := tcells b2))
    go_loopw [5, 6] (fun xv iv wr => ∃ (i x h gw : Nat) (c : List UInt8) (sl : Value), xv = .int .i64 x ∧ iv = .int .i64 i ∧ Hid (ScanA L i x h gw c ∨ (i = s.size + 1 ∧ x = 0 ∧ ScanB L h gw c)) ∧
        Blk wr B1 (tg 0 0 (.slice none 0 0)) 31 ∧ Blk wr B2 (tg gw h sl) 31 ∧ wr.ownsRow w.heap.size 5 1 sl c.length (cellsV c) ∧ Gr w wr) (fun _ iv _ => s.size + 1 - (intOf iv).toNat)
    case atStart => exact ⟨0, 0, 0, 0, [], _, rfl, rfl, .inl (ScanA.zero L), b1, b2, World.ownsRow_nil _ _ _ _, gg⟩
    case round =>
      obtain ⟨i, x, h, gw, c, sl, rfl, rfl, HS, b1, b2, hown, gg⟩ := hrel
      obtain ⟨b2_0, b2_1, b2_2⟩ := tcells b2
      have hB12 : B1 < B2 := by omega
      have hlo1 : w.heap.size ≤ B1 := by omega
      have tb2 := b2.lt
      by_cases hi : i ≤ s.size
      · have HA := hidI (show ScanA L i x h gw c from by
          rcases HS.out with h1 | ⟨h1, _⟩
          · exact h1
          · omega)
        have hl := HA.out.len
        have hb1 : c.length + h ≤ i := by omega
        have hb2 : x ≤ i := by omega
        have HC := hidI hl
        clear hl HS
        by_cases hlt : i < s.size
        · by_cases h47 : s[i] = 47
          · have hb47 : L[i]? = some 47 := by rw [HB.out i hlt, h47]
            have ht47 : (((s[i]'hlt).toNat : Int) != 47) = false := by rw [h47]; rfl
            have HB47 := hidI hb47
            clear h47 hb47
            by_cases hx0 : x = 0
            · have HV := hidI (parse_none (HA.out.bad (.inr HB47.out) (.inl hx0)))
              have e0 : ((x : Int) == 0) = true := by rw [hx0]; rfl
              have hxi : (x : Int) ≤ 0 := by omega
              clear hx0
              by_cases hh0 : 0 < h
              · by_cases hxg : x = gw
                · have e1 : ((x : Int) != (gw : Int)) = false := by rw [hxg]; simp
                  have HXG := hidI hxg
                  clear hxg
                  go_wp2_with (first | (refine r_build 31 [] [] _ (Tryz.tbuild0 _) rfl rfl ?_) | (refine r_store_row 31 31 _ _ _ rfl (tg _ _ _) _ rfl b1 Tryz.tsize rfl (tg_one rfl) rfl ?_; intro w3 u3 b1'; have z3 := u3.size; have gg := u3.gr gg (by omega); clear b1; have b1 := b1'; clear b1'; obtain ⟨b1_0, b1_1, b1_2⟩ := tcells b1))
                  refine bodyPost_ret (results_row_bool rfl _ _ _ _ _ _ rfl b1 Tryz.underlying31 rfl Tryz.tinfo) rfl ?_
                  exact ⟨gg, .inl ⟨HV.out, rfl⟩⟩
                · have e1 : ((x : Int) != (gw : Int)) = true := by rw [bne_iff_ne]; omega
                  clear hxg
                  go_wp2_with (first | (refine r_build 31 [] [] _ (Tryz.tbuild0 _) rfl rfl ?_) | (refine r_store_row 31 31 _ _ _ rfl (tg _ _ _) _ rfl b1 Tryz.tsize rfl (tg_one rfl) rfl ?_; intro w3 u3 b1'; have z3 := u3.size; have gg := u3.gr gg (by omega); clear b1; have b1 := b1'; clear b1'; obtain ⟨b1_0, b1_1, b1_2⟩ := tcells b1))
                  refine bodyPost_ret (results_row_bool rfl _ _ _ _ _ _ rfl b1 Tryz.underlying31 rfl Tryz.tinfo) rfl ?_
                  exact ⟨gg, .inl ⟨HV.out, rfl⟩⟩
              · have eh : h ≤ 0 := by omega
                go_wp2_with (first | (refine r_build 31 [] [] _ (Tryz.tbuild0 _) rfl rfl ?_) | (refine r_store_row 31 31 _ _ _ rfl (tg _ _ _) _ rfl b1 Tryz.tsize rfl (tg_one rfl) rfl ?_; intro w3 u3 b1'; have z3 := u3.size; have gg := u3.gr gg (by omega); clear b1; have b1 := b1'; clear b1'; obtain ⟨b1_0, b1_1, b1_2⟩ := tcells b1))
                refine bodyPost_ret (results_row_bool rfl _ _ _ _ _ _ rfl b1 Tryz.underlying31 rfl Tryz.tinfo) rfl ?_
                exact ⟨gg, .inl ⟨HV.out, rfl⟩⟩
            · have e0 : ((x : Int) == 0) = false := by rw [beq_eq_false_iff_ne]; omega
              have hx1 : 0 < x := by omega
              clear hx0
              by_cases hh0 : 0 < h
              · by_cases hxg : x = gw
                · have e1 : ((x : Int) != (gw : Int)) = false := by rw [hxg]; simp
                  have HX := hidI (show h = 0 ∨ x = gw from .inr hxg)
                  clear hxg
                  have hneo := own_ne hown b2 (by decide)
                  go_wp2_with (first | (refine r_store_cell 3 31 _ _ B2 0 rfl (.int .i64 x) rfl _ b2 (by show 0 < 3; decide) Tryz.sizeOf3 rfl rfl ?_; intro w5 u5 b2'; have z5 := u5.size; have gg := u5.gr gg (by omega); have b1 := u5.blk b1 (by omega); clear b2; have b2 : Blk w5 B2 (tg (x) (h) (sl)) 31 := b2'; clear b2'; obtain ⟨b2_0, b2_1, b2_2⟩ := tcells b2) | (refine r_store_cell 3 31 _ _ B2 1 rfl (.int .i64 (↑h + 1)) rfl _ b2 (by show 1 < 3; decide) Tryz.sizeOf3 rfl rfl ?_; intro w6 u6 b2'; have z6 := u6.size; have gg := u6.gr gg (by omega); have b1 := u6.blk b1 (by omega); clear b2; have b2 : Blk w6 B2 (tg (x) ((↑h + 1)) (sl)) 31 := b2'; clear b2'; obtain ⟨b2_0, b2_1, b2_2⟩ := tcells b2))
                  have hown := u6.row (u5.row hown hneo) hneo
                  go_roundw
                  case rel => exact ⟨i + 1, 0, h + 1, x, c, sl, by go_num, by go_num, .inl (HA.out.slash HB47.out (by omega) HX.out), b1, by rw [show ((h + 1 : Nat) : Int) = (h : Int) + 1 from by omega]; exact b2, hown, gg⟩
                  case measure => simp [intOf]; omega
                · have e1 : ((x : Int) != (gw : Int)) = true := by rw [bne_iff_ne]; omega
                  have HV := hidI (parse_none (HA.out.bad (.inr HB47.out) (.inr ⟨hh0, hxg⟩)))
                  clear hxg
                  go_wp2_with (first | (refine r_build 31 [] [] _ (Tryz.tbuild0 _) rfl rfl ?_) | (refine r_store_row 31 31 _ _ _ rfl (tg _ _ _) _ rfl b1 Tryz.tsize rfl (tg_one rfl) rfl ?_; intro w3 u3 b1'; have z3 := u3.size; have gg := u3.gr gg (by omega); clear b1; have b1 := b1'; clear b1'; obtain ⟨b1_0, b1_1, b1_2⟩ := tcells b1))
                  refine bodyPost_ret (results_row_bool rfl _ _ _ _ _ _ rfl b1 Tryz.underlying31 rfl Tryz.tinfo) rfl ?_
                  exact ⟨gg, .inl ⟨HV.out, rfl⟩⟩
              · have HX := hidI (show h = 0 ∨ x = gw from .inl (by omega))
                have eh : h ≤ 0 := by omega
                have hneo := own_ne hown b2 (by decide)
                go_wp2_with (first | (refine r_store_cell 3 31 _ _ B2 0 rfl (.int .i64 x) rfl _ b2 (by show 0 < 3; decide) Tryz.sizeOf3 rfl rfl ?_; intro w5 u5 b2'; have z5 := u5.size; have gg := u5.gr gg (by omega); have b1 := u5.blk b1 (by omega); clear b2; have b2 : Blk w5 B2 (tg (x) (h) (sl)) 31 := b2'; clear b2'; obtain ⟨b2_0, b2_1, b2_2⟩ := tcells b2) | (refine r_store_cell 3 31 _ _ B2 1 rfl (.int .i64 (↑h + 1)) rfl _ b2 (by show 1 < 3; decide) Tryz.sizeOf3 rfl rfl ?_; intro w6 u6 b2'; have z6 := u6.size; have gg := u6.gr gg (by omega); have b1 := u6.blk b1 (by omega); clear b2; have b2 : Blk w6 B2 (tg (x) ((↑h + 1)) (sl)) 31 := b2'; clear b2'; obtain ⟨b2_0, b2_1, b2_2⟩ := tcells b2))
                have hown := u6.row (u5.row hown hneo) hneo
                go_roundw
                case rel => exact ⟨i + 1, 0, h + 1, x, c, sl, by go_num, by go_num, .inl (HA.out.slash HB47.out (by omega) HX.out), b1, by rw [show ((h + 1 : Nat) : Int) = (h : Int) + 1 from by omega]; exact b2, hown, gg⟩
                case measure => simp [intOf]; omega
          · have hne := isome_ne h47
            by_cases hcell : isCellB s[i] = true
            · have HA2 := hidI (HA.out.byte (HB.out i hlt) h47 hcell)
              have HCELL := hidI hcell
              clear h47 hcell
              go_wp2_with (go_at_call 22; refine (tyIs_any _ _).mono ?_; rintro e wSame ⟨rfl, rfl⟩; rw [HCELL.out])
              have gd := (Gr.refl wr).drew
              have b1 := gd.blk b1
              have b2 := gd.blk b2
              have b2_2 := gd.cell b2_2
              have hown := gd.row hown
              have gg := gg.trans gd
              have tb2 := b2.lt
              refine K_begin (fun w => w.cell? ⟨B2, 2, none⟩ = some sl) 8 9 #[false, false, false, false, false, false, false, false, false] rfl (by kernel_rfl) (by kernel_rfl) ?_
              generalize wr.drew = wd at *
              refine K_take 0 #[true, false, false, false, false, false, false, false, false] rfl (by kernel_rfl) (fun _ _ _ h => h) rfl (fun w hF => e_val _ _ (Tryz.tf2 B2 _)) (b2_2) ?_; simp only [Act.put, List.setIfInBounds_toArray, List.set_cons_succ, List.set_cons_zero]
              refine K_take 1 #[true, true, false, false, false, false, false, false, false] rfl (by kernel_rfl) (fun _ _ _ h => h) rfl (fun w hF => e_load 29 (.tmp 38) ⟨B2, 2, none⟩ sl rfl (Tryz.isAgg29 _) hF) (b2_2) ?_; simp only [Act.put, List.setIfInBounds_toArray, List.set_cons_succ, List.set_cons_zero]
              refine K_take (v := .string s) 2 #[true, true, true, false, false, false, false, false, false] rfl (by kernel_rfl) (fun _ _ _ h => h) rfl (fun _ _ => rfl) (b2_2) ?_; simp only [Act.put, List.setIfInBounds_toArray, List.set_cons_succ, List.set_cons_zero]
              refine K_take (v := .int .i64 i) 3 #[true, true, true, true, false, false, false, false, false] rfl (by kernel_rfl) (fun _ _ _ h => h) rfl (fun _ _ => rfl) (b2_2) ?_; simp only [Act.put, List.setIfInBounds_toArray, List.set_cons_succ, List.set_cons_zero]
              refine K_take 4 #[true, true, true, true, true, false, false, false, false] rfl (by kernel_rfl) (fun _ _ _ h => h) rfl (fun w hF => e_val _ _ (Tryz.sidx s i hlt _)) (b2_2) ?_; simp only [Act.put, List.setIfInBounds_toArray, List.set_cons_succ, List.set_cons_zero]
              refine K_one 5 #[true, true, true, true, true, true, false, false, false] rfl (by kernel_rfl) ?_
              refine r_slice1 29 5 (.tmp 42) (byteV s[i]) rfl (Tryz.bs1 _ _) rfl ?_
              intro w5 B5 N5
              simp only [Act.put, List.setIfInBounds_toArray, List.set_cons_succ, List.set_cons_zero]
              have g5 := N5.gr
              refine ⟨fun _ => g5.cell b2_2, ?_⟩
              have hown5 := g5.row hown
              have b15 := g5.blk b1
              have b25 := g5.blk b2
              refine K_one 6 #[true, true, true, true, true, true, true, false, false] rfl (by kernel_rfl) ?_
              refine r_append (.tmp 39) (.tmp 43) 29 5 _ 1 1 w.heap.size Tryz.bytesI sl c.length (cellsV c) rfl hown5 ⟨B5, 0, none⟩ 1 1 [byteV s[i]] rfl rfl N5.cell1 (by intro u hu; simp at hu; subst hu; rfl) (by omega) (by decide) (by have := gg.size; have := g5.size; omega) rfl ?_
              intro sl' w6 hown6 g6
              simp only [Act.put, List.setIfInBounds_toArray, List.set_cons_succ, List.set_cons_zero]
              have hne6 := own_ne hown5 b25 (by decide)
              have b16 := g6.blk b15 (own_ne hown5 b15 (by decide))
              have b26 := g6.blk b25 hne6
              have gg6 := g6.gr (gg.trans g5) (own_gr hown5 (Nat.le_refl _))
              have c26 := (tcells b26).2.2
              refine ⟨fun _ => c26, ?_⟩
              refine K_take 7 #[true, true, true, true, true, true, true, true, false] rfl (by kernel_rfl) (fun _ _ _ h => h) rfl (fun w hF => e_val _ _ (Tryz.tf2 B2 _)) (c26) ?_; simp only [Act.put, List.setIfInBounds_toArray, List.set_cons_succ, List.set_cons_zero]
              refine K_one 8 #[true, true, true, true, true, true, true, true, true] rfl (by kernel_rfl) ?_
              refine r_store_cell 29 31 (.tmp 45) (.tmp 44) B2 2 rfl sl' rfl _ b26 (by show 2 < 3; decide) Tryz.slsize (own_one hown6) rfl ?_
              intro w8 u8 b28
              refine ⟨fun h => absurd rfl h, ?_⟩
              refine K_done' (by kernel_rfl) ?_
              have b18 := u8.blk b16 (by omega)
              have gg8 := u8.gr gg6 (by omega)
              have hown8 := u8.row hown6 (by have := own_ne hown6 b26 (by decide); exact this)
              clear b2_0 b2_1 b2_2 c26 N5 g5 g6 hne6
              go_wp2
              go_roundw
              case rel => exact ⟨i + 1, x + 1, h, gw, c ++ [s[i]], sl', by go_num, by go_num, .inl HA2.out, b18, b28, by rw [List.length_append]; unfold cellsV; rw [List.map_append]; exact hown8, gg8⟩
              case measure => simp [intOf]; omega
            · have hc' : isCellB s[i] = false := by simpa using hcell
              have HV := hidI (parse_none (not_cell (HB.out i hlt) h47 hc'))
              have HCELL := hidI hc'
              clear h47 hcell hc'
              go_wp2_with (first | (go_at_call 22; refine (tyIs_any _ _).mono ?_; rintro e wSame ⟨rfl, rfl⟩; rw [HCELL.out]) | (refine r_build 31 [] [] _ (Tryz.tbuild0 _) rfl rfl ?_) | (refine r_store_row 31 31 _ _ _ rfl (tg _ _ _) _ rfl b1 Tryz.tsize rfl (tg_one rfl) rfl ?_; intro w3 u3 b1'; have z3 := u3.size; have gg := u3.gr gg (by omega); clear b1; have b1 := b1'; clear b1'; obtain ⟨b1_0, b1_1, b1_2⟩ := tcells b1))
              refine bodyPost_ret (results_row_bool rfl _ _ _ _ _ _ rfl b1 Tryz.underlying31 rfl Tryz.tinfo) rfl ?_
              exact ⟨gg, .inl ⟨HV.out, rfl⟩⟩
        · have hei : i = s.size := by omega
          have HEI := hidI hei
          clear hei
          by_cases hx0 : x = 0
          · have HV := hidI (parse_none (HA.out.bad (.inl (by rw [HEI.out, HLEN.out])) (.inl hx0)))
            have e0 : ((x : Int) == 0) = true := by rw [hx0]; rfl
            have hxi : (x : Int) ≤ 0 := by omega
            clear hx0
            by_cases hh0 : 0 < h
            · by_cases hxg : x = gw
              · have e1 : ((x : Int) != (gw : Int)) = false := by rw [hxg]; simp
                have HXG := hidI hxg
                clear hxg
                go_wp2_with (first | (refine r_build 31 [] [] _ (Tryz.tbuild0 _) rfl rfl ?_) | (refine r_store_row 31 31 _ _ _ rfl (tg _ _ _) _ rfl b1 Tryz.tsize rfl (tg_one rfl) rfl ?_; intro w3 u3 b1'; have z3 := u3.size; have gg := u3.gr gg (by omega); clear b1; have b1 := b1'; clear b1'; obtain ⟨b1_0, b1_1, b1_2⟩ := tcells b1))
                refine bodyPost_ret (results_row_bool rfl _ _ _ _ _ _ rfl b1 Tryz.underlying31 rfl Tryz.tinfo) rfl ?_
                exact ⟨gg, .inl ⟨HV.out, rfl⟩⟩
              · have e1 : ((x : Int) != (gw : Int)) = true := by rw [bne_iff_ne]; omega
                clear hxg
                go_wp2_with (first | (refine r_build 31 [] [] _ (Tryz.tbuild0 _) rfl rfl ?_) | (refine r_store_row 31 31 _ _ _ rfl (tg _ _ _) _ rfl b1 Tryz.tsize rfl (tg_one rfl) rfl ?_; intro w3 u3 b1'; have z3 := u3.size; have gg := u3.gr gg (by omega); clear b1; have b1 := b1'; clear b1'; obtain ⟨b1_0, b1_1, b1_2⟩ := tcells b1))
                refine bodyPost_ret (results_row_bool rfl _ _ _ _ _ _ rfl b1 Tryz.underlying31 rfl Tryz.tinfo) rfl ?_
                exact ⟨gg, .inl ⟨HV.out, rfl⟩⟩
            · have eh : h ≤ 0 := by omega
              go_wp2_with (first | (refine r_build 31 [] [] _ (Tryz.tbuild0 _) rfl rfl ?_) | (refine r_store_row 31 31 _ _ _ rfl (tg _ _ _) _ rfl b1 Tryz.tsize rfl (tg_one rfl) rfl ?_; intro w3 u3 b1'; have z3 := u3.size; have gg := u3.gr gg (by omega); clear b1; have b1 := b1'; clear b1'; obtain ⟨b1_0, b1_1, b1_2⟩ := tcells b1))
              refine bodyPost_ret (results_row_bool rfl _ _ _ _ _ _ rfl b1 Tryz.underlying31 rfl Tryz.tinfo) rfl ?_
              exact ⟨gg, .inl ⟨HV.out, rfl⟩⟩
          · have e0 : ((x : Int) == 0) = false := by rw [beq_eq_false_iff_ne]; omega
            have hx1 : 0 < x := by omega
            clear hx0
            by_cases hh0 : 0 < h
            · by_cases hxg : x = gw
              · have e1 : ((x : Int) != (gw : Int)) = false := by rw [hxg]; simp
                have HX := hidI (show h = 0 ∨ x = gw from .inr hxg)
                clear hxg
                have hneo := own_ne hown b2 (by decide)
                go_wp2_with (first | (refine r_store_cell 3 31 _ _ B2 0 rfl (.int .i64 x) rfl _ b2 (by show 0 < 3; decide) Tryz.sizeOf3 rfl rfl ?_; intro w5 u5 b2'; have z5 := u5.size; have gg := u5.gr gg (by omega); have b1 := u5.blk b1 (by omega); clear b2; have b2 : Blk w5 B2 (tg (x) (h) (sl)) 31 := b2'; clear b2'; obtain ⟨b2_0, b2_1, b2_2⟩ := tcells b2) | (refine r_store_cell 3 31 _ _ B2 1 rfl (.int .i64 (↑h + 1)) rfl _ b2 (by show 1 < 3; decide) Tryz.sizeOf3 rfl rfl ?_; intro w6 u6 b2'; have z6 := u6.size; have gg := u6.gr gg (by omega); have b1 := u6.blk b1 (by omega); clear b2; have b2 : Blk w6 B2 (tg (x) ((↑h + 1)) (sl)) 31 := b2'; clear b2'; obtain ⟨b2_0, b2_1, b2_2⟩ := tcells b2))
                have hown := u6.row (u5.row hown hneo) hneo
                go_roundw
                case rel => exact ⟨i + 1, 0, h + 1, x, c, sl, by go_num, by go_num, .inr ⟨by rw [HEI.out], rfl, (by have := HA.out; rw [show i = L.length from by rw [HEI.out, HLEN.out]] at this; exact this.last (by omega) HX.out)⟩, b1, by rw [show ((h + 1 : Nat) : Int) = (h : Int) + 1 from by omega]; exact b2, hown, gg⟩
                case measure => simp [intOf]; omega
              · have e1 : ((x : Int) != (gw : Int)) = true := by rw [bne_iff_ne]; omega
                have HV := hidI (parse_none (HA.out.bad (.inl (by rw [HEI.out, HLEN.out])) (.inr ⟨hh0, hxg⟩)))
                clear hxg
                go_wp2_with (first | (refine r_build 31 [] [] _ (Tryz.tbuild0 _) rfl rfl ?_) | (refine r_store_row 31 31 _ _ _ rfl (tg _ _ _) _ rfl b1 Tryz.tsize rfl (tg_one rfl) rfl ?_; intro w3 u3 b1'; have z3 := u3.size; have gg := u3.gr gg (by omega); clear b1; have b1 := b1'; clear b1'; obtain ⟨b1_0, b1_1, b1_2⟩ := tcells b1))
                refine bodyPost_ret (results_row_bool rfl _ _ _ _ _ _ rfl b1 Tryz.underlying31 rfl Tryz.tinfo) rfl ?_
                exact ⟨gg, .inl ⟨HV.out, rfl⟩⟩
            · have HX := hidI (show h = 0 ∨ x = gw from .inl (by omega))
              have eh : h ≤ 0 := by omega
              have hneo := own_ne hown b2 (by decide)
              go_wp2_with (first | (refine r_store_cell 3 31 _ _ B2 0 rfl (.int .i64 x) rfl _ b2 (by show 0 < 3; decide) Tryz.sizeOf3 rfl rfl ?_; intro w5 u5 b2'; have z5 := u5.size; have gg := u5.gr gg (by omega); have b1 := u5.blk b1 (by omega); clear b2; have b2 : Blk w5 B2 (tg (x) (h) (sl)) 31 := b2'; clear b2'; obtain ⟨b2_0, b2_1, b2_2⟩ := tcells b2) | (refine r_store_cell 3 31 _ _ B2 1 rfl (.int .i64 (↑h + 1)) rfl _ b2 (by show 1 < 3; decide) Tryz.sizeOf3 rfl rfl ?_; intro w6 u6 b2'; have z6 := u6.size; have gg := u6.gr gg (by omega); have b1 := u6.blk b1 (by omega); clear b2; have b2 : Blk w6 B2 (tg (x) ((↑h + 1)) (sl)) 31 := b2'; clear b2'; obtain ⟨b2_0, b2_1, b2_2⟩ := tcells b2))
              have hown := u6.row (u5.row hown hneo) hneo
              go_roundw
              case rel => exact ⟨i + 1, 0, h + 1, x, c, sl, by go_num, by go_num, .inr ⟨by rw [HEI.out], rfl, (by have := HA.out; rw [show i = L.length from by rw [HEI.out, HLEN.out]] at this; exact this.last (by omega) HX.out)⟩, b1, by rw [show ((h + 1 : Nat) : Int) = (h : Int) + 1 from by omega]; exact b2, hown, gg⟩
              case measure => simp [intOf]; omega
      · have HSB := hidI (show i = s.size + 1 ∧ ScanB L h gw c from by
          rcases HS.out with h1 | ⟨h1, _, h2⟩
          · have := h1.le; have := HLEN.out; omega
          · exact ⟨h1, h2⟩)
        have hpos := HSB.out.2.pos
        have hlen := HSB.out.2.len
        have hei := HSB.out.1
        have hc1 : 0 < c.length := by omega
        have hh1 : 0 < h := by omega
        have hc43 : c.length ≤ 43 := by have := HLEN.out; omega
        have hh43 : h ≤ 43 := by have := HLEN.out; omega
        obtain ⟨G, cap, rfl, hG, hcap⟩ := own_shape hown hc1
        have hgw43 : gw ≤ 43 := by
          have h1 := flatten_len HSB.out.2.rows
          rw [← HSB.out.2.cc, ← HSB.out.2.hh] at h1
          have : gw * 1 ≤ gw * h := Nat.mul_le_mul_left _ hh1
          omega
        clear HS hpos hlen hei
        by_cases w7 : 7 < gw
        · have HV := hidI (parse_none (HSB.out.2.bad (.inl w7)))
          go_wp2_with (first | (refine r_build 31 [] [] _ (Tryz.tbuild0 _) rfl rfl ?_) | (refine r_store_row 31 31 _ _ _ rfl (tg _ _ _) _ rfl b1 Tryz.tsize rfl (tg_one rfl) rfl ?_; intro w3 u3 b1'; have z3 := u3.size; have gg := u3.gr gg (by omega); clear b1; have b1 := b1'; clear b1'; obtain ⟨b1_0, b1_1, b1_2⟩ := tcells b1))
          refine bodyPost_ret (results_row_bool rfl _ _ _ _ _ _ rfl b1 Tryz.underlying31 rfl Tryz.tinfo) rfl ?_
          exact ⟨gg, .inl ⟨HV.out, rfl⟩⟩
        · by_cases h7 : 7 < h
          · have HV := hidI (parse_none (HSB.out.2.bad (.inr (.inl h7))))
            have w7' : gw ≤ 7 := by omega
            clear w7
            go_wp2_with (first | (refine r_build 31 [] [] _ (Tryz.tbuild0 _) rfl rfl ?_) | (refine r_store_row 31 31 _ _ _ rfl (tg _ _ _) _ rfl b1 Tryz.tsize rfl (tg_one rfl) rfl ?_; intro w3 u3 b1'; have z3 := u3.size; have gg := u3.gr gg (by omega); clear b1; have b1 := b1'; clear b1'; obtain ⟨b1_0, b1_1, b1_2⟩ := tcells b1))
            refine bodyPost_ret (results_row_bool rfl _ _ _ _ _ _ rfl b1 Tryz.underlying31 rfl Tryz.tinfo) rfl ?_
            exact ⟨gg, .inl ⟨HV.out, rfl⟩⟩
          · have w7' : gw ≤ 7 := by omega
            have h7' : h ≤ 7 := by omega
            clear w7 h7
            by_cases h36 : 36 < c.length
            · have HV := hidI (parse_none (HSB.out.2.bad (.inr (.inr (.inl h36)))))
              go_wp2_with (first | (refine r_build 31 [] [] _ (Tryz.tbuild0 _) rfl rfl ?_) | (refine r_store_row 31 31 _ _ _ rfl (tg _ _ _) _ rfl b1 Tryz.tsize rfl (tg_one rfl) rfl ?_; intro w3 u3 b1'; have z3 := u3.size; have gg := u3.gr gg (by omega); clear b1; have b1 := b1'; clear b1'; obtain ⟨b1_0, b1_1, b1_2⟩ := tcells b1))
              refine bodyPost_ret (results_row_bool rfl _ _ _ _ _ _ rfl b1 Tryz.underlying31 rfl Tryz.tinfo) rfl ?_
              exact ⟨gg, .inl ⟨HV.out, rfl⟩⟩
            · have h36' : c.length ≤ 36 := by omega
              clear h36
              go_wp2
              go_loop [7, 8, 86] (fun _ _ kv => ∃ k : Nat, k ≤ c.length ∧ kv = .int .i64 k ∧ Hid (∀ i j, j < i → i < k → dupAt c i j = false)) (fun _ _ kv => c.length - (intOf kv).toNat)
              case atStart => exact ⟨0, Nat.zero_le _, rfl, fun i j _ h2 => by omega⟩
              case round =>
                obtain ⟨k, hk, rfl, HD⟩ := hrel
                by_cases hkl : k < c.length
                · have hck := own_cell hown k hkl rfl
                  have hsl := Tryz.slhi G c.length cap k (by omega)
                  obtain ⟨p, hp⟩ : ∃ p, at0 c k = p := ⟨_, rfl⟩
                  rw [hp] at hck
                  have HP := hidI hp
                  clear hp
                  go_wp2
                  go_loop [10, 96] (fun _ jv => ∃ j : Nat, j ≤ k ∧ jv = .int .i64 j ∧ Hid (∀ m, m < j → dupAt c k m = false)) (fun _ jv => k - (intOf jv).toNat)
                  case atStart => exact ⟨0, Nat.zero_le _, rfl, fun m h2 => by omega⟩
                  case round =>
                    obtain ⟨j, hj, rfl, HE⟩ := hrel
                    by_cases hjk : j < k
                    · have hcj := own_cell hown j (by omega) rfl
                      have hdup : dupAt c k j = (decide (at0 c k = at0 c j) && (97 ≤ at0 c k && at0 c k ≤ 102)) := rfl
                      obtain ⟨q, hq⟩ : ∃ q, at0 c j = q := ⟨_, rfl⟩
                      rw [hq] at hcj
                      rw [HP.out, hq] at hdup
                      have HDUP := hidI hdup
                      clear hq hdup
                      by_cases hpq : p = q
                      · have e1 : ((p.toNat : Int) == (q.toNat : Int)) = true := by rw [hpq]; simp
                        have HPQ := hidI hpq
                        clear hpq
                        by_cases hn : 97 ≤ (p.toNat : Int) ∧ (p.toNat : Int) ≤ 102
                        · obtain ⟨n1, n2⟩ := hn
                          have HT := hidI (show dupAt c k j = true from by
                            rw [HDUP.out, decide_eq_true HPQ.out]
                            simp [UInt8.le_iff_toNat_le]
                            omega)
                          have HV := hidI (parse_none (HSB.out.2.bad (.inr (.inr (.inr (not_once hjk hkl HT.out))))))
                          go_wp2_with (first | (refine r_build 31 [] [] _ (Tryz.tbuild0 _) rfl rfl ?_) | (refine r_store_row 31 31 _ _ _ rfl (tg _ _ _) _ rfl b1 Tryz.tsize rfl (tg_one rfl) rfl ?_; intro w3 u3 b1'; have z3 := u3.size; have gg := u3.gr gg (by omega); clear b1; have b1 := b1'; clear b1'; obtain ⟨b1_0, b1_1, b1_2⟩ := tcells b1))
                          refine bodyPost_ret (results_row_bool rfl _ _ _ _ _ _ rfl b1 Tryz.underlying31 rfl Tryz.tinfo) rfl ?_
                          exact ⟨gg, .inl ⟨HV.out, rfl⟩⟩
                        · have HF := hidI (show dupAt c k j = false from by
                            rw [HDUP.out, Bool.and_eq_false_iff]
                            right
                            rw [Bool.and_eq_false_iff]
                            simp [UInt8.le_iff_toNat_le]
                            omega)
                          have hn' : (p.toNat : Int) < 97 ∨ (97 ≤ (p.toNat : Int) ∧ 102 < (p.toNat : Int)) := by omega
                          clear hn
                          rcases hn' with n1 | ⟨n1, n2⟩
                          all_goals
                            go_wp2
                            go_round
                            case rel => exact ⟨j + 1, by omega, by go_num, fun m hm => if h : m < j then HE.out m h else by rw [show m = j by omega]; exact HF.out⟩
                            case measure => simp [intOf]; omega
                      · have e1 : ((p.toNat : Int) == (q.toNat : Int)) = false := by
                          rw [beq_eq_false_iff_ne]; intro e; exact hpq (UInt8.toNat_inj.1 (by omega))
                        have HF := hidI (show dupAt c k j = false from by rw [HDUP.out, decide_eq_false hpq]; rfl)
                        clear hpq
                        go_wp2
                        go_round
                        case rel => exact ⟨j + 1, by omega, by go_num, fun m hm => if h : m < j then HE.out m h else by rw [show m = j by omega]; exact HF.out⟩
                        case measure => simp [intOf]; omega
                    · obtain rfl : j = k := by omega
                      clear hjk
                      go_wp2
                      go_round
                      case rel => exact ⟨j + 1, by omega, by go_num, fun i m h1 h2 => if h : i < j then HD.out i m h1 h else by rw [show i = j by omega] at h1 ⊢; exact HE.out m h1⟩
                      case measure => simp [intOf]; omega
                · obtain rfl : k = c.length := by omega
                  have HV := hidI (show parse L = some ⟨gw, h, c⟩ from by
                    have := parse_of (HSB.out.2.okR w7' h7' h36' (once_of HD.out))
                    rw [← HSB.out.2.hh, ← HSB.out.2.cc] at this
                    exact this)
                  clear hkl
                  have hne1 := own_ne hown b1 (by decide)
                  go_wp2_with (first | (refine r_load_row 31 _ _ rfl _ _ _ b2 Tryz.underlying31 rfl Tryz.tinfo rfl ?_) | (refine r_store_row 31 31 _ _ _ rfl (tg _ _ _) _ rfl b1 Tryz.tsize rfl (tg_one rfl) rfl ?_; intro w3 u3 b1'; have z3 := u3.size; have gg := u3.gr gg (by omega); clear b1; have b1 := b1'; clear b1'; obtain ⟨b1_0, b1_1, b1_2⟩ := tcells b1))
                  refine bodyPost_ret (results_row_bool rfl _ _ _ _ _ _ rfl b1 Tryz.underlying31 rfl Tryz.tinfo) rfl ?_
                  exact ⟨gg, .inr ⟨_, _, HV.out, rfl, u3.row hown hne1⟩⟩
end Go.Proofs.YtpdmfbhjneodeaaGreatDoor
namespace Go.Proofs.YtpdmfbhjneodeaaGreatDoor
open Go.RowKit
theorem rd_parse_none {l : List UInt8} (h : parse l = none) : rdG l = ⟨0, 0, []⟩ ∧ rdOk l = false := by unfold rdG rdOk; rw [h]; exact ⟨rfl, rfl⟩
theorem rd_parse_some {l : List UInt8} {g : Grid} (h : parse l = some g) : rdG l = g ∧ rdOk l = true := by unfold rdG rdOk; rw [h]; exact ⟨rfl, rfl⟩
end Go.Proofs.YtpdmfbhjneodeaaGreatDoor
