/-
  slices.IndexFunc and slices.DeleteFunc over the states; the first one of the farthest trays in the program.
-/
import Derived.Test.YtpdmfbhjneodeaaGreatDoorFarP
import Derived.Test.YtpdmfbhjneodeaaGreatDoorBLa
namespace Go.Proofs.YtpdmfbhjneodeaaGreatDoor
open Go.RowKit
section
variable {P : Program} {w : World} {ops : Array Oper} {rest : List Oper} {a : Act} {Q : Exit → Act → World → Prop} {dst : Option Tmp} {ty : TypeId} {pos : String} {aft : Array Edge}
/-- A whole row is stored. -/
theorem r_store_wideW (T e : TypeId) (x y : Operand) (m g j n cap base : Nat) (L : List (List Value)) (r : List Value) (hx : a.eval x = .pointer (some ⟨g, j * m, none⟩)) (hy : a.eval y = .agg r.toArray)
    (hr : w.ownsRow base e m (.slice (some ⟨g, 0, none⟩) n cap) n L.flatten) (hW : Wide m L) (hn : L.length = n) (hj : j < n) (hm : 0 < m) (hl : r.length = m) (hi : (P.info? T).map (·.size) = some m) (h1 : ∀ v ∈ r, v.oneCell' = true)
    (h : ∀ w1, Upd g w w1 → w1.ownsRow base e m (.slice (some ⟨g, 0, none⟩) n cap) n (L.set j r).flatten → wpList P ops Q rest (a.put dst undef) w1) : wpList P ops Q (⟨dst, .store T x y, ty, pos, aft, none⟩ :: rest) a w := by
  obtain ⟨h2, h3, h4⟩ := own_set_rowW hr hW hn hj hm hl
  refine wpList_store_mid rfl T x y rfl g (j * m) r.toArray hx hy (by rw [List.size_toArray, hl]; exact h2) (by rw [List.size_toArray, hl]; exact hi) (all_oneCell_toArray h1) ?_
  exact h _ h3 h4
end
theorem rangeF {base g n cap : Nat} {w : World} {T : TypeId} {S : List (Sta Grid)} {nx : Nat → Value} {i0 i : Nat} (h : w.ownsRow base T 43 (.slice (some ⟨g, 0, none⟩) n cap) n (shR S nx i0 i).flatten) (hn : n = S.length) {j : Nat} (hj : j < n) (hij : i ≤ j) :
    w.rangeAt g (j * 43) (cellS (sta S j) (nx j)).toArray.toList := by
  have := own_flat_range h (shR_wide _ _ _ _) ((shR_length _ _ _ _).trans hn.symm) hj (o := 0) (cs := (cellS (sta S j) (nx j)).toArray.toList) (by simp [cellS_length]) (fun i hi => by
    rw [shR_get S nx i0 _ (by omega) hij, Nat.zero_add])
  rwa [Nat.add_zero] at this
theorem newL_oneF : ∀ v ∈ (newL ⟨0, 0, []⟩ 0 0 0 0).toArray.toList, v.oneCell' = true := by
  intro v hv
  unfold newL at hv
  rw [List.toList_toArray, List.mem_append] at hv
  rcases hv with h | h
  · exact gv_one _ _ _ v h
  · simp only [List.mem_cons, List.not_mem_nil, or_false] at h
    rcases h with rfl | rfl | rfl | rfl | rfl <;> rfl
theorem own_unfrozenF {w : World} {base g n cap : Nat} {e : TypeId} {size : Nat} {xs : List Value} (hr : w.ownsRow base e size (.slice (some ⟨g, 0, none⟩) n cap) n xs) (o : Nat) : w.frozen? ⟨g, o, none⟩ = false := by
  rcases hr.2 with ⟨h', _⟩ | ⟨g', cap', cur, h', hb, hg, -⟩
  · cases h'
  · simp only [Value.slice.injEq, Option.some.injEq, Addr.mk.injEq, and_true, true_and] at h'
    obtain ⟨rfl, rfl⟩ := h'
    exact Blk.free (show Blk w g cur e from hg) o
theorem blk_neF {w : World} {B C : Nat} {cs ds : Array Value} {T U : TypeId} (h : Blk w B cs T) (k : Blk w C ds U) (hne : T ≠ U) : B ≠ C := fun e => by
  subst e
  unfold Blk at h k
  rw [h] at k
  injection k with k
  injection k with _ k
  exact hne k
theorem Tryz.stinfoF : (Tryz.prog.info? 45).map (·.size) = some 43 := by kernel_rfl
theorem Tryz.stzeroF (w : World) : (zeroValue 45).run Tryz.prog w = .ok (.agg (newL ⟨0, 0, []⟩ 0 0 0 0).toArray) w := by kernel_rfl
def fnF (B : Nat) : Value := .func (.func 11) #[] #[.pointer (some ⟨B, 0, none⟩)]
set_option maxHeartbeats 400000 in
/-- A state lies nearer than the greatest distance. -/
theorem nearF_any (s : Sta Grid) (v : Value) (hv : v.oneCell' = true) (G B : Nat) (w : World) (hb : w.cell? ⟨B, 0, none⟩ = some (.int .i64 G)) (r : Bool) (hr : decide (s.far < G) = r) :
    Calls Tryz.prog 11 #[.agg (cellS s v).toArray, .pointer (some ⟨B, 0, none⟩)] w (Ret (.bool r) w) := by
  have gg := Gr.refl w
  have HON := hidI (show ∀ u ∈ (cellS s v).toArray.toList, u.oneCell' = true from cellS_one _ _ hv)
  have HSZ := hidI (show (cellS s v).toArray.size = 43 from by rw [List.size_toArray, cellS_length])
  have HC := hidI (fun (W' : World) (A : Nat) (b : Blk W' A (cellS s v).toArray 45) => show W'.cell? ⟨A, 38, none⟩ = some (.int .i64 s.far) from by rw [b.cell 38, List.getElem?_toArray]; exact cellS_tl s v 0)
  go_enter Tryz.func11, Tryz.ntmps11
  go_wp2_with (first | (refine r_box 45 _ (cellS s v).toArray rfl rfl ?_; intro w1 B1 N1; have g1 := N1.gr; have b1 : Blk w1 B1 (cellS s v).toArray 45 := N1.blk; have hb := g1.cell hb; have gg := gg.trans g1) | (refine r_fld 45 _ 1 (.pointer (some ⟨B1, 0, none⟩)) (.pointer (some ⟨B1, 38, none⟩)) rfl (Tryz.stf1 B1 0 _) rfl ?_) | (refine r_ldc 3 _ ⟨B1, 38, none⟩ (.int .i64 s.far) rfl (Tryz.isAgg3 _) (HC.out _ _ b1) rfl ?_) | (refine r_ldc 3 _ ⟨B, 0, none⟩ (.int .i64 G) rfl (Tryz.isAgg3 _) hb rfl ?_))
  go_ret
  exact ⟨ret_bool rfl, gg⟩
set_option maxHeartbeats 800000 in
set_option maxRecDepth 100000 in
/-- None of them, or the first one at once. -/
theorem indexF_any (S : List (Sta Grid)) (nx : Nat → Value) (gB cap base G B n : Nat) (w : World) (hn : n = S.length) (h0 : 0 < n) (hl : n ≤ 300) (hnx : ∀ j, j < n → (nx j).oneCell' = true) (hown : w.ownsRow base 45 43 (.slice (some ⟨gB, 0, none⟩) n cap) n (rowsI S nx).flatten) (hb : w.cell? ⟨B, 0, none⟩ = some (.int .i64 G))
    (c : Int) (hc : ((∀ j, j < n → ¬ (sta S j).far < G) ∧ c = -1) ∨ ((sta S 0).far < G ∧ c = 0)) :
    Calls Tryz.prog 19 #[.slice (some ⟨gB, 0, none⟩) n cap, fnF B] w (Ret (.int .i64 c) w) := by
  have gg := Gr.refl w
  rw [← shR_zero S nx 0] at hown
  have HNX := hidI hnx
  have HOW := hidI hown
  have HCB := hidI hb
  have HN := hidI hn
  clear hnx hown hb hn
  unfold fnF
  rcases hc with ⟨hc, rfl⟩ | ⟨hc, rfl⟩
  · have HC := hidI hc
    clear hc
    go_enter Tryz.func19, Tryz.ntmps19
    go_wp2
    go_loopw [8] (fun iv wr => ∃ j : Nat, j ≤ n ∧ iv = .int .i64 j ∧ Gr w wr) (fun iv _ => n - (intOf iv).toNat)
    case atStart => exact ⟨0, Nat.zero_le _, rfl, gg⟩
    case round =>
      clear gg
      obtain ⟨j, hj, rfl, gg⟩ := hrel
      by_cases hlt : j < n
      · have cr := rangeF (gg.row HOW.out) HN.out hlt (Nat.zero_le _)
        have HNE := hidI (nearF_any (sta S j) (nx j) (HNX.out j hlt) G B _ (gg.cell HCB.out) false (decide_eq_false (HC.out j hlt)))
        have HSZ := hidI (show (cellS (sta S j) (nx j)).toArray.size = 43 from by rw [List.size_toArray, cellS_length])
        obtain ⟨cs, hcs⟩ : ∃ cs, cs = (cellS (sta S j) (nx j)).toArray := ⟨_, rfl⟩
        rw [← hcs] at cr HNE HSZ
        clear hcs
        go_wp2_with (first | (refine r_idx 36 _ _ (.slice (some ⟨gB, 0, none⟩) n cap) (.int .i64 j) _ rfl rfl (Tryz.stix gB n cap j hlt _) rfl ?_) | (refine r_ldm 45 _ gB (j * 43) cs _ rfl cr Tryz.underlying45 rfl (by rw [HSZ.out]; exact Tryz.stinfoF) rfl ?_) | (refine r_callc 11 (.tmp 11) [.tmp 15] _ [.agg cs] [.pointer (some ⟨B, 0, none⟩)] (.bool false) (fun w' => Gr _ w') Tryz.call11 rfl rfl rfl HNE.out ?_; intro w5 g5; have gg := gg.trans g5))
        go_roundw
        case rel => exact ⟨j + 1, by omega, by go_num, gg⟩
        case measure => simp [intOf]; omega
      · obtain rfl : j = n := by omega
        go_wp2
        go_ret
        exact ⟨rfl, gg⟩
  · have cr := rangeF HOW.out HN.out h0 (Nat.zero_le _)
    have HNE := hidI (nearF_any (sta S 0) (nx 0) (HNX.out 0 h0) G B _ HCB.out true (decide_eq_true hc))
    have HSZ := hidI (show (cellS (sta S 0) (nx 0)).toArray.size = 43 from by rw [List.size_toArray, cellS_length])
    obtain ⟨cs, hcs⟩ : ∃ cs, cs = (cellS (sta S 0) (nx 0)).toArray := ⟨_, rfl⟩
    rw [← hcs] at cr HNE HSZ
    clear hcs hc
    have hix := Tryz.stix gB n cap 0 h0
    rw [Nat.zero_mul] at hix cr
    go_enter Tryz.func19, Tryz.ntmps19
    go_wp2
    go_loopw [8] (fun iv wr => iv = .int .i64 0 ∧ wr = w) (fun _ _ => 0)
    case atStart => exact ⟨rfl, rfl⟩
    case round =>
      obtain ⟨rfl, rfl⟩ := hrel
      go_wp2_with (first | (refine r_idx 36 _ _ (.slice (some ⟨gB, 0, none⟩) n cap) (.int .i64 0) _ rfl rfl (hix _) rfl ?_) | (refine r_ldm 45 _ gB 0 cs _ rfl cr Tryz.underlying45 rfl (by rw [HSZ.out]; exact Tryz.stinfoF) rfl ?_) | (refine r_callc 11 (.tmp 11) [.tmp 15] _ [.agg cs] [.pointer (some ⟨B, 0, none⟩)] (.bool true) (fun w' => Gr _ w') Tryz.call11 rfl rfl rfl HNE.out ?_; intro w5 g5; have gg := gg.trans g5))
      go_ret
      exact ⟨rfl, gg⟩
theorem Tryz.scutF (p : Option Addr) (n cap q : Nat) (hq : q ≤ cap) (w : World) : (Instr.sliceAt 36 (.slice p n cap) none (some (.int .i64 q)) none).run Tryz.prog w = .ok (.slice p q cap) w := by
  have hu : Tryz.prog.underlying 36 = some (.slice (Tryz.prog.elem 36)) := by kernel_rfl
  have he : Tryz.prog.elem 36 = 45 := by kernel_rfl
  rw [run_sliceAt_slice w 36 _ _ _ _ hu, run_slice_h w 36 p n cap hu .i64 q (by omega) (by omega), he]
  simp [Tryz.sizeOf45, Result.andThen, sliced]
  intro _
  cases p with
  | none => rfl
  | some ad => simp [add_zero']
theorem Tryz.sfromF (G n cap q : Nat) (hq : q < n) (hn : n ≤ cap) (w : World) : (Instr.sliceAt 36 (.slice (some ⟨G, 0, none⟩) n cap) (some (.int .i64 q)) none none).run Tryz.prog w = .ok (.slice (some ⟨G, q * 43, none⟩) (n - q) (cap - q)) w := by
  have hu : Tryz.prog.underlying 36 = some (.slice (Tryz.prog.elem 36)) := by kernel_rfl
  have he : Tryz.prog.elem 36 = 45 := by kernel_rfl
  rw [run_sliceAt_slice w 36 _ _ _ _ hu, run_slice_l w 36 _ n cap hu .i64 q (by omega) (by omega), he]
  have hne : cap ≠ q := by omega
  simp [Tryz.sizeOf45, Result.andThen, sliced, hne, add_flat']
set_option maxHeartbeats 1000000 in
set_option maxRecDepth 100000 in
theorem deleteF_any (S : List (Sta Grid)) (nx : Nat → Value) (gB cap base G B n i0 : Nat) (w0 w : World) (hn : n = S.length) (hl : n ≤ 300) (hnx : ∀ j, j < n → (nx j).oneCell' = true) (hown : w.ownsRow base 45 43 (.slice (some ⟨gB, 0, none⟩) n cap) n (rowsI S nx).flatten)
    (hb : Blk w B #[.int .i64 G] 3) (g0 : Gr w0 w) (hbs : w0.heap.size ≤ base) (hi0 : i0 < n) (h1 : ∀ j, j < i0 → (sta S j).far < G) (h2 : ∀ j, i0 ≤ j → j < n → (sta S j).far = G) :
    Calls Tryz.prog 10 #[.slice (some ⟨gB, 0, none⟩) n cap, fnF B] w fun e w' => Gr w0 w' ∧ Blk w' B #[.int .i64 G] 3 ∧ e = .returned (.slice (some ⟨gB, 0, none⟩) (n - i0) cap) ∧ w'.ownsRow base 45 43 (.slice (some ⟨gB, 0, none⟩) (n - i0) cap) (n - i0) (rowsI (S.drop i0) fun x => nx (i0 + x)).flatten := by
  have hgB := hown.lt gB rfl
  have gg := g0
  have HTK := hidI (fun i (h : i0 + i = n) => shR_take S nx (i0 := i0) (i := i) (by omega))
  rcases Nat.eq_zero_or_pos i0 with e0 | e0
  · subst e0
    have HIF := hidI (indexF_any S nx gB cap base G B n w hn hi0 hl hnx hown (hb.cell 0) (-1) (.inl ⟨fun j hj => by rw [h2 j (Nat.zero_le _) hj]; exact Nat.lt_irrefl _, rfl⟩))
    have HR := hidI (show (rowsI (S.drop 0) fun x => nx (0 + x)) = rowsI S nx from by simp)
    rw [Nat.sub_zero]
    have HOW := hidI hown
    clear h1 h2 hown HTK hn
    go_enter Tryz.func10, Tryz.ntmps10
    go_wp2_with (go_at_call 19; refine HIF.out.mono ?_; rintro e w1 ⟨rfl, g1⟩; have gg := gg.trans g1; have hb := g1.blk hb)
    go_ret
    exact ⟨gg, hb, rfl, by rw [HR.out]; exact g1.row HOW.out⟩
  · have HIF := hidI (indexF_any S nx gB cap base G B n w hn (by omega) hl hnx hown (hb.cell 0) 0 (.inr ⟨h1 0 e0, rfl⟩))
    rw [← shR_zero S nx i0] at hown
    have HNX := hidI hnx
    have HOW := hidI hown
    have HN := hidI hn
    have H1 := hidI h1
    have H2 := hidI h2
    clear hnx hown hn h1 h2
    go_enter Tryz.func10, Tryz.ntmps10
    go_wp2_with (go_at_call 19; refine HIF.out.mono ?_; rintro e w1 ⟨rfl, g1⟩; have gg := gg.trans g1; have hb := g1.blk hb)
    have own1 := g1.row HOW.out
    go_loopw [5, 6] (fun iv jv wr => ∃ j : Nat, iv = .int .i64 ((j - i0 : Nat) : Int) ∧ jv = .int .i64 j ∧ 1 ≤ j ∧ j ≤ n ∧ wr.ownsRow base 45 43 (.slice (some ⟨gB, 0, none⟩) n cap) n (shR S nx i0 (j - i0)).flatten ∧ Blk wr B #[.int .i64 G] 3 ∧ Gr w0 wr) (fun _ jv _ => n - (intOf jv).toNat)
    case atStart => exact ⟨1, by rw [show 1 - i0 = 0 by omega]; rfl, rfl, Nat.le_refl _, by omega, by rw [show 1 - i0 = 0 by omega]; exact own1, hb, gg⟩
    case round =>
      clear own1 gg hb
      obtain ⟨j, rfl, rfl, hj1, hjn, own, hb, gg⟩ := hrel
      have hgB2 := own.lt gB rfl
      obtain ⟨i, hi⟩ : ∃ i, i = j - i0 := ⟨_, rfl⟩
      rw [← hi] at own ⊢
      have hij : i < j := by omega
      by_cases hlt : j < n
      · have cr := rangeF own HN.out hlt (Nat.le_of_lt hij)
        have HSZ := hidI (show (cellS (sta S j) (nx j)).toArray.size = 43 from by rw [List.size_toArray, cellS_length])
        have HON := hidI (show ∀ u ∈ (cellS (sta S j) (nx j)).toArray.toList, u.oneCell' = true from cellS_one _ _ (HNX.out j hlt))
        by_cases hjj : j < i0
        · have HNE := hidI (fun w' (hb : w'.cell? ⟨B, 0, none⟩ = some (.int .i64 G)) => nearF_any (sta S j) (nx j) (HNX.out j hlt) G B w' hb true (decide_eq_true (H1.out j hjj)))
          have HI := hidI (show j + 1 - i0 = i from by omega)
          obtain ⟨cs, hcs⟩ : ∃ cs, cs = (cellS (sta S j) (nx j)).toArray := ⟨_, rfl⟩
          rw [← hcs] at cr HNE HSZ HON
          clear hcs hi hjj
          go_wp2_with (first | (refine r_idx 36 _ _ (.slice (some ⟨gB, 0, none⟩) n cap) (.int .i64 j) _ rfl rfl (Tryz.stix gB n cap j hlt _) rfl ?_) | (refine r_ldm 45 _ gB (j * 43) cs _ rfl cr Tryz.underlying45 rfl (by rw [HSZ.out]; exact Tryz.stinfoF) rfl ?_) | (refine r_alloc 45 _ Tryz.stzeroF rfl ?_; intro w8 B8 N8; have g8 := N8.gr; have b8 : Blk w8 B8 (newL ⟨0, 0, []⟩ 0 0 0 0).toArray 45 := N8.blk; have l8 := N8.lo; have z8 := g8.size; have zz := gg.size; have own := g8.row own; have hb := g8.blk hb; have gg := gg.trans g8; have hB8 : gB ≠ B8 := (by omega); clear N8) | (refine r_store_row 45 45 _ _ B8 rfl cs _ rfl b8 (by intro w; rw [HSZ.out]; exact Tryz.sizeOf45 w) (by rw [HSZ.out, List.size_toArray, newL_length]) HON.out rfl ?_; intro w9 u9 b9; have own := u9.row own (fun e => by cases e; exact hB8 rfl); have hb := u9.blk hb (fun e => blk_neF hb b8 (by decide) e); have z9 := u9.size; have gg := u9.gr gg (by omega)) | (refine r_load_row 45 _ _ rfl _ _ _ b9 Tryz.underlying45 rfl (by rw [HSZ.out]; exact Tryz.stinfoF) rfl ?_) | (refine r_callc 11 (.tmp 26) [.tmp 27] _ [.agg cs] [.pointer (some ⟨B, 0, none⟩)] (.bool true) (fun w' => Gr _ w') Tryz.call11 rfl rfl rfl (HNE.out _ (hb.cell 0)) ?_; intro w10 g10; have b9 := g10.blk b9; have own := g10.row own; have hb := g10.blk hb; have gg := gg.trans g10) | (refine r_idx 36 _ _ (.slice (some ⟨gB, 0, none⟩) n cap) (.int .i64 i) _ rfl rfl (Tryz.stix gB n cap i (by omega) _) rfl ?_) | (refine r_store_wideW 45 45 _ _ 43 gB i n cap base (shR S nx i0 i) cl rfl (by rw [← HCS.out]; rfl) own HWD.out HLN.out (by omega) (by decide) HL.out Tryz.stinfoF HO2.out ?_; intro w12 u12 own12; have gg := u12.gr gg (by omega)))
          go_roundw
          case rel => exact ⟨j + 1, by rw [HI.out], by go_num, by omega, by omega, by rw [HI.out]; exact own, hb, gg⟩
          case measure => simp [intOf]; omega
        · have HNE := hidI (fun w' (hb : w'.cell? ⟨B, 0, none⟩ = some (.int .i64 G)) => nearF_any (sta S j) (nx j) (HNX.out j hlt) G B w' hb false (decide_eq_false (by rw [H2.out j (by omega) hlt]; exact Nat.lt_irrefl _)))
          have HI := hidI (show j + 1 - i0 = i + 1 from by omega)
          have HST := hidI (show (shR S nx i0 i).set i (cellS (sta S j) (nx j)) = shR S nx i0 (i + 1) from by
            have := shR_set S nx (i0 := i0) (i := i) (by have := HN.out; omega)
            rwa [show i0 + i = j by omega] at this)
          have HL := hidI (show (cellS (sta S j) (nx j)).length = 43 from cellS_length _ _)
          have HO2 := hidI (cellS_one (sta S j) (nx j) (HNX.out j hlt))
          have HWD := hidI (shR_wide S nx i0 i)
          have HLN := hidI (show (shR S nx i0 i).length = n from (shR_length _ _ _ _).trans HN.out.symm)
          obtain ⟨cl, hcl⟩ : ∃ cl, cl = cellS (sta S j) (nx j) := ⟨_, rfl⟩
          rw [← hcl] at cr HNE HSZ HON HST HL HO2
          obtain ⟨cs, hcs⟩ : ∃ cs, cs = cl.toArray := ⟨_, rfl⟩
          have HCS := hidI hcs
          rw [← hcs] at cr HNE HSZ HON
          clear hcl hcs hi hjj
          go_wp2_with (first | (refine r_idx 36 _ _ (.slice (some ⟨gB, 0, none⟩) n cap) (.int .i64 j) _ rfl rfl (Tryz.stix gB n cap j hlt _) rfl ?_) | (refine r_ldm 45 _ gB (j * 43) cs _ rfl cr Tryz.underlying45 rfl (by rw [HSZ.out]; exact Tryz.stinfoF) rfl ?_) | (refine r_alloc 45 _ Tryz.stzeroF rfl ?_; intro w8 B8 N8; have g8 := N8.gr; have b8 : Blk w8 B8 (newL ⟨0, 0, []⟩ 0 0 0 0).toArray 45 := N8.blk; have l8 := N8.lo; have z8 := g8.size; have zz := gg.size; have own := g8.row own; have hb := g8.blk hb; have gg := gg.trans g8; have hB8 : gB ≠ B8 := (by omega); clear N8) | (refine r_store_row 45 45 _ _ B8 rfl cs _ rfl b8 (by intro w; rw [HSZ.out]; exact Tryz.sizeOf45 w) (by rw [HSZ.out, List.size_toArray, newL_length]) HON.out rfl ?_; intro w9 u9 b9; have own := u9.row own (fun e => by cases e; exact hB8 rfl); have hb := u9.blk hb (fun e => blk_neF hb b8 (by decide) e); have z9 := u9.size; have gg := u9.gr gg (by omega)) | (refine r_load_row 45 _ _ rfl _ _ _ b9 Tryz.underlying45 rfl (by rw [HSZ.out]; exact Tryz.stinfoF) rfl ?_) | (refine r_callc 11 (.tmp 26) [.tmp 27] _ [.agg cs] [.pointer (some ⟨B, 0, none⟩)] (.bool false) (fun w' => Gr _ w') Tryz.call11 rfl rfl rfl (HNE.out _ (hb.cell 0)) ?_; intro w10 g10; have b9 := g10.blk b9; have own := g10.row own; have hb := g10.blk hb; have gg := gg.trans g10) | (refine r_idx 36 _ _ (.slice (some ⟨gB, 0, none⟩) n cap) (.int .i64 i) _ rfl rfl (Tryz.stix gB n cap i (by omega) _) rfl ?_) | (refine r_store_wideW 45 45 _ _ 43 gB i n cap base (shR S nx i0 i) cl rfl (by rw [← HCS.out]; rfl) own HWD.out HLN.out (by omega) (by decide) HL.out Tryz.stinfoF HO2.out ?_; intro w12 u12 own12; have gg := u12.gr gg (by omega)))
          rw [HST.out] at own12
          have hb := u12.blk hb (fun e => by cases e; exact own_ne own hb (by decide) rfl)
          go_roundw
          case rel => exact ⟨j + 1, by rw [HI.out]; go_num, by go_num, by omega, by omega, by rw [HI.out]; exact own12, hb, gg⟩
          case measure => simp [intOf]; omega
      · have hjn2 : j = n := by omega
        have hin : i0 + i = n := by omega
        have hlt2 : i < n := by omega
        obtain ⟨gX, cX, eX, -, hnc⟩ := own_shape own (by omega)
        cases eX
        have hsub : (n - i) * 43 = n * 43 - i * 43 := Nat.sub_mul _ _ _
        have him : i * 43 ≤ n * 43 := Nat.mul_le_mul_right 43 (Nat.le_of_lt hlt2)
        obtain ⟨zl, hzl, hcl⟩ := run_clearW (P := Tryz.prog) wr 36 45 (newL ⟨0, 0, []⟩ 0 0 0 0).toArray 43 (by rw [List.size_toArray, newL_length]) (by decide) Tryz.underlying36 Tryz.stzeroF (newL_oneF) gB (i * 43) (n - i) (cap - i) (by omega)
          (fun k hk => by
            have hl := own.1
            rw [own.cellAt (i * 43 + k) (by omega), List.getElem?_eq_getElem (by omega)]
            rfl) (fun k hk => own_unfrozenF own _)
        obtain ⟨u13, own13⟩ := own_cutW own (shR_wide S nx i0 i) ((shR_length _ _ _ _).trans HN.out.symm) (Nat.le_of_lt hlt2) hzl
        rw [HTK.out i hin] at own13
        have hfr := Tryz.sfromF gB n cap i hlt2 hnc
        have hct := Tryz.scutF (some ⟨gB, 0, none⟩) n cap i (by omega)
        have HIN2 := hidI (show i = n - i0 from by omega)
        have hb13 := u13.blk hb (fun e => by cases e; exact own_ne own hb (by decide) rfl)
        have gg13 := u13.gr gg (by omega)
        rw [hjn2]
        clear hi hsub him hjn2 hin
        go_wp2_with (first | (refine r_cut_lo 36 _ _ (.slice (some ⟨gB, 0, none⟩) n cap) (.int .i64 i) _ rfl rfl (hfr _) rfl ?_) | (refine r_cut_hi 36 _ _ (.slice (some ⟨gB, 0, none⟩) n cap) (.int .i64 i) _ rfl rfl (hct _) rfl ?_))
        go_ret
        rw [← HIN2.out]
        exact ⟨gg13, hb13, rfl, own13⟩
end Go.Proofs.YtpdmfbhjneodeaaGreatDoor
