/-
  Where a ball with a name stands: in the program and in the model, and the law.
-/
import Derived.Test.YtedgocedomlhfaaDoorSpec1i
namespace Go.Proofs.YtedgocedomlhfaaDoor
open Go.RowKit
/-- The first of n cells that holds b, -1 if there is none. -/
def ixC (c : List UInt8) (b : UInt8) (n : Nat) : Int :=
  match (List.range n).find? (fun i => at0 c i == b) with
  | some i => (i : Int)
  | none => -1
theorem ixC_some {c : List UInt8} {b : UInt8} {n k : Nat} (h1 : k < n) (h2 : at0 c k = b) (h3 : ∀ j, j < k → at0 c j ≠ b) : ixC c b n = k := by
  unfold ixC
  have : (List.range n).find? (fun i => at0 c i == b) = some k := by
    rw [List.find?_range_eq_some]
    refine ⟨by simp [h2], by simpa using h1, fun j hj => ?_⟩
    have := h3 j hj
    simpa using this
  rw [this]
theorem ixC_none {c : List UInt8} {b : UInt8} {n : Nat} (h : ∀ j, j < n → at0 c j ≠ b) : ixC c b n = -1 := by
  unfold ixC
  have : (List.range n).find? (fun i => at0 c i == b) = none := by
    rw [List.find?_eq_none]
    intro j hj
    have := h j (List.mem_range.1 hj)
    simpa using this
  rw [this]
theorem ixC_cases (c : List UInt8) (b : UInt8) (n : Nat) : (ixC c b n = -1 ∧ ∀ j, j < n → at0 c j ≠ b) ∨ ∃ k : Nat, k < n ∧ ixC c b n = k ∧ at0 c k = b ∧ ∀ j, j < k → at0 c j ≠ b := by
  induction n with
  | zero => exact .inl ⟨rfl, fun j hj => absurd hj (Nat.not_lt_zero _)⟩
  | succ n ih =>
    rcases ih with ⟨_, h⟩ | ⟨k, h1, _, h3, h4⟩
    · by_cases hb : at0 c n = b
      · exact .inr ⟨n, by omega, ixC_some (by omega) hb h, hb, h⟩
      · have hall : ∀ j, j < n + 1 → at0 c j ≠ b := fun j hj => if e : j = n then e ▸ hb else h j (by omega)
        exact .inl ⟨ixC_none hall, hall⟩
    · exact .inr ⟨k, by omega, ixC_some (by omega) h3 h4, h3, h4⟩
theorem ixC_more {c : List UInt8} {b : UInt8} {n m : Nat} (hb : b ≠ 0) (hn : c.length = n) (hm : n ≤ m) : ixC c b m = ixC c b n := by
  rcases ixC_cases c b n with ⟨h1, h2⟩ | ⟨k, h1, h2, h3, h4⟩
  · rw [h1]
    refine ixC_none fun j hj => ?_
    by_cases h : j < n
    · exact h2 j h
    · rw [at0_none c j (by omega)]; exact Ne.symm hb
  · rw [h2]; exact ixC_some (by omega) h3 h4
def plI (l : List UInt8) (s : ByteArray) : Int := if rdOk l && nameS s then ixC (rdG l).c (hd s) (nn (rdG l).w (rdG l).h) else -1
def plOk (l : List UInt8) (s : ByteArray) : Bool := decide (0 ≤ plI l s)
def plX (l : List UInt8) (s : ByteArray) : Int := if plOk l s then (((plI l s).toNat % (rdG l).w : Nat) : Int) else 0
def plY (l : List UInt8) (s : ByteArray) : Int := if plOk l s then (((plI l s).toNat / (rdG l).w : Nat) : Int) else 0
theorem pl_no {l : List UInt8} {s : ByteArray} (h : plI l s = -1) : plX l s = 0 ∧ plY l s = 0 ∧ plOk l s = false := by
  have : plOk l s = false := by unfold plOk; rw [h]; rfl
  unfold plX plY
  rw [this]; exact ⟨rfl, rfl, rfl⟩
theorem pl_yes {l : List UInt8} {s : ByteArray} {k : Nat} (h : plI l s = k) : plX l s = ((k % (rdG l).w : Nat) : Int) ∧ plY l s = ((k / (rdG l).w : Nat) : Int) ∧ plOk l s = true := by
  have : plOk l s = true := by unfold plOk; rw [h]; simp
  unfold plX plY
  rw [this, h]; exact ⟨rfl, rfl, rfl⟩
theorem fin_iib {a b c d : Int} {x y : Bool} (h1 : a = c) (h2 : b = d) (h3 : x = y) : Ending.returned (.tuple #[.int .i64 a, .int .i64 b, .bool x]) = .returned (.tuple #[.int .i64 c, .int .i64 d, .bool y]) := by rw [h1, h2, h3]
theorem name_ne {b : UInt8} (h : isNameB b = true) : b ≠ 0 := by
  intro e; subst e; exact absurd h (by decide)
theorem Tryd.gall (B : Nat) (w : World) : (Instr.sliceAt 45 (.pointer (some ⟨B, 2, none⟩)) none none none).run Tryd.prog w = .ok (.slice (some ⟨B, 2, none⟩) 36 36) w := by kernel_rfl
set_option maxHeartbeats 1000000 in
set_option maxRecDepth 100000 in
theorem index_any (B : Nat) (W H : Int) (c : List UInt8) (b : UInt8) (w : World) (hb : Blk w B (gv W H c) 47) :
    Calls Tryd.prog 48 #[.slice (some ⟨B, 2, none⟩) 36 36, .int .u8 b.toNat] w (Ret (.int .i64 (ixC c b 36)) w) := by
  have gg := Gr.refl w
  obtain ⟨-, -, hcc⟩ := gcells hb
  have HCC := hidI hcc
  clear hcc hb
  go_enter Tryd.func48, Tryd.ntmps48
  go_wp2
  go_loop [5, 8] (fun _ i => ∃ k : Nat, k ≤ 36 ∧ i = .int .i64 k ∧ Hid (∀ j, j < k → at0 c j ≠ b)) (fun _ i => 36 - (intOf i).toNat)
  case atStart => exact ⟨0, Nat.zero_le _, rfl, fun j hj => by omega⟩
  case round =>
    obtain ⟨k, hk, rfl, HA⟩ := hrel
    by_cases hlt : k < 36
    · have hc := HCC.out k hlt
      by_cases hb : at0 c k = b
      · have e1 : ((b.toNat : Int) == ((at0 c k).toNat : Int)) = true := beq_byte hb.symm
        have HV := hidI (ixC_some hlt hb HA.out)
        clear hb
        go_wp2
        go_ret
        exact ⟨ret_int HV.out.symm, gg⟩
      · have e1 : ((b.toNat : Int) == ((at0 c k).toNat : Int)) = false := bne_byte (fun e => hb e.symm)
        have HB := hidI hb
        clear hb
        go_wp2
        go_round
        case rel => exact ⟨k + 1, by omega, by go_num, fun j hj => if h : j < k then HA.out j h else by rw [show j = k by omega]; exact HB.out⟩
        case measure => simp [intOf]; omega
    · obtain rfl : k = 36 := by omega
      have HV := hidI (ixC_none HA.out)
      clear hlt
      go_wp2
      go_ret
      exact ⟨ret_int HV.out.symm, gg⟩
set_option maxHeartbeats 2000000 in
set_option maxRecDepth 100000 in
theorem iPlaceOf (s c : ByteArray) (w : World) (hm : ML w) (hs : s.size ≤ 1048576) : Calls Tryd.prog 24 #[.string s, .string c] w (Ret (.tuple #[.int .i64 (plX s.data.toList c), .int .i64 (plY s.data.toList c), .bool (plOk s.data.toList c)]) w) := by
  have gg := Gr.refl w
  rcases rd_cases s.data.toList with ⟨hp, hg, hk⟩ | ⟨g, hp, hg, hk⟩
  · have HK := hidI hk
    have HV := hidI (pl_no (l := s.data.toList) (s := c) (by unfold plI; rw [hk]; rfl))
    clear hp hg hk
    go_enter Tryd.func24, Tryd.ntmps24
    go_wp2_with (first | (go_at_call 35; refine (readTray_any s _ hm hs).mono ?_; rintro e w1 ⟨rfl, g1⟩; rw [HK.out]; have z1 := g1.size; have gg := gg.trans g1) | (refine r_alloc 47 _ Tryd.gzero rfl ?_; intro w2 B2 N2; have g2 := N2.gr; have b2 : Blk w2 B2 (gv 0 0 []) 47 := N2.blk; have l2 := N2.lo; have t2 := N2.hi; have z2 := g2.size; have gg := gg.trans g2; clear N2; obtain ⟨b2_0, b2_1, b2_2⟩ := gcells b2) | (refine r_store_row 47 47 _ _ _ rfl (gv _ _ _) _ rfl b2 (Tryd.gsize' _ _ _) (by simp only [gv_size]) (gv_one _ _ _) rfl ?_; intro w3 u3 b2'; have z3 := u3.size; have gg := u3.gr gg (by omega); clear b2; have b2 := b2'; clear b2'; obtain ⟨b2_0, b2_1, b2_2⟩ := gcells b2))
    go_ret3
    exact ⟨fin_iib HV.out.1.symm HV.out.2.1.symm HV.out.2.2.symm, gg⟩
  · have HK := hidI hk
    have HG := hidI hg
    have ht := parse_tray hp
    by_cases h1 : nameS c = true
    · have h1' := h1
      unfold nameS at h1'
      rw [Bool.and_eq_true, decide_eq_true_eq] at h1'
      have hc := one_of c h1'.1
      obtain ⟨b, hb⟩ : ∃ b, hd c = b := ⟨_, rfl⟩
      rw [hb] at hc h1'
      subst hc
      have HO := hidI h1
      have hw1 := ht.w1
      have hlen := ht.len
      have n36 := ht.n36
      have hI : plI s.data.toList ⟨#[b]⟩ = ixC g.c b 36 := by
        unfold plI; rw [hk, h1, hg, ixC_more (name_ne h1'.2) hlen n36]; rfl
      have HI := hidI hI
      clear hp hk ht h1 hb h1' hI
      go_enter Tryd.func24, Tryd.ntmps24
      go_wp2_with (first | (go_at_call 35; refine (readTray_any s _ hm hs).mono ?_; rintro e w1 ⟨rfl, g1⟩; rw [HK.out, HG.out, gvG]; have z1 := g1.size; have gg := gg.trans g1) | (refine r_alloc 47 _ Tryd.gzero rfl ?_; intro w2 B2 N2; have g2 := N2.gr; have b2 : Blk w2 B2 (gv 0 0 []) 47 := N2.blk; have l2 := N2.lo; have t2 := N2.hi; have z2 := g2.size; have gg := gg.trans g2; clear N2; obtain ⟨b2_0, b2_1, b2_2⟩ := gcells b2) | (refine r_store_row 47 47 _ _ _ rfl (gv g.w g.h g.c) _ rfl b2 (Tryd.gsize' _ _ _) (by simp only [gv_size]) (gv_one _ _ _) rfl ?_; intro w3 u3 b2'; have z3 := u3.size; have gg := u3.gr gg (by omega); clear b2; have b2 := b2'; clear b2'; obtain ⟨b2_0, b2_1, b2_2⟩ := gcells b2) | (go_at_call 47; refine (isName_any _ _).mono ?_; rintro e wSame ⟨rfl, rfl⟩; rw [HO.out]))
      refine q_begin 5 (by kernel_rfl) (by kernel_rfl) ?_; simp only [List.take_succ_cons, List.take_zero, List.drop_succ_cons, List.drop_zero]
      refine q_take (.pointer (some ⟨B2, 2, none⟩)) rfl (fun w' hw' => e_val _ _ (Tryd.gf2 B2 _)) ?_; simp only [Act.put, List.setIfInBounds_toArray, List.set_cons_succ, List.set_cons_zero]
      refine q_take (.slice (some ⟨B2, 2, none⟩) 36 36) rfl (fun w' hw' => e_val _ _ (Tryd.gall B2 _)) ?_; simp only [Act.put, List.setIfInBounds_toArray, List.set_cons_succ, List.set_cons_zero]
      refine q_move _ (.string ⟨#[b]⟩) rfl rfl ?_; simp only [Act.put, List.setIfInBounds_toArray, List.set_cons_succ, List.set_cons_zero]
      refine q_take (.int .u8 b.toNat) rfl (fun w' hw' => e_val _ _ (s_idx0 Tryd.underlying9 b _)) ?_; simp only [Act.put, List.setIfInBounds_toArray, List.set_cons_succ, List.set_cons_zero]
      refine q_call 48 [.tmp 23, .tmp 25] _ [.slice (some ⟨B2, 2, none⟩) 36 36, .int .u8 b.toNat] (.int .i64 (ixC g.c b 36)) Tryd.call48 rfl rfl (fun w' hw' => ((index_any B2 g.w g.h g.c b w' (hw'.blk b2)).mono fun e w'' h => ⟨h.1, hw'.trans h.2⟩)) ?_; simp only [Act.put, List.setIfInBounds_toArray, List.set_cons_succ, List.set_cons_zero]
      refine wpQuiet_nil ?_; intro w6 g6; have z6 := g6.size; have b2 := g6.blk b2; obtain ⟨b2_0, b2_1, b2_2⟩ := gcells b2; have gg := gg.trans g6
      rcases ixC_cases g.c b 36 with ⟨hx, _⟩ | ⟨k, hk36, hx, _, _⟩
      · rw [hx]
        have HV := hidI (pl_no (HI.out.trans hx))
        clear hx
        go_wp2
        go_ret3
        exact ⟨fin_iib HV.out.1.symm HV.out.2.1.symm HV.out.2.2.symm, gg⟩
      · rw [hx]
        have hv := pl_yes (HI.out.trans hx)
        rw [hg] at hv
        have HV := hidI hv
        clear hx hv
        go_wp2
        refine q_whole (by kernel_rfl) (by kernel_rfl) ?_
        refine q_move _ (.int .i64 k) rfl rfl ?_; simp only [Act.put, List.setIfInBounds_toArray, List.set_cons_succ, List.set_cons_zero]
        refine q_take (.pointer (some ⟨B2, 0, none⟩)) rfl (fun w' hw' => e_val _ _ (Tryd.gf0 B2 _)) ?_; simp only [Act.put, List.setIfInBounds_toArray, List.set_cons_succ, List.set_cons_zero]
        refine q_take (.int .i64 g.w) rfl (fun w' hw' => e_load 3 (.tmp 30) ⟨B2, 0, none⟩ _ rfl (Tryd.isAgg3 _) (hw'.cell b2_0)) ?_; simp only [Act.put, List.setIfInBounds_toArray, List.set_cons_succ, List.set_cons_zero]
        refine q_rem _ _ _ _ (k) (g.w) rfl rfl (hw1) rfl ?_; simp only [Act.put, List.setIfInBounds_toArray, List.set_cons_succ, List.set_cons_zero]
        refine q_move _ (.int .i64 k) rfl rfl ?_; simp only [Act.put, List.setIfInBounds_toArray, List.set_cons_succ, List.set_cons_zero]
        refine q_take (.pointer (some ⟨B2, 0, none⟩)) rfl (fun w' hw' => e_val _ _ (Tryd.gf0 B2 _)) ?_; simp only [Act.put, List.setIfInBounds_toArray, List.set_cons_succ, List.set_cons_zero]
        refine q_take (.int .i64 g.w) rfl (fun w' hw' => e_load 3 (.tmp 34) ⟨B2, 0, none⟩ _ rfl (Tryd.isAgg3 _) (hw'.cell b2_0)) ?_; simp only [Act.put, List.setIfInBounds_toArray, List.set_cons_succ, List.set_cons_zero]
        refine q_quo _ _ _ _ (k) (g.w) rfl rfl (hw1) (by omega) rfl ?_; simp only [Act.put, List.setIfInBounds_toArray, List.set_cons_succ, List.set_cons_zero]
        refine q_assign _ (.int .i64 (k % g.w : Nat)) rfl rfl ?_; simp only [Act.put, List.setIfInBounds_toArray, List.set_cons_succ, List.set_cons_zero]
        refine q_assign _ (.int .i64 (k / g.w : Nat)) rfl rfl ?_; simp only [Act.put, List.setIfInBounds_toArray, List.set_cons_succ, List.set_cons_zero]
        refine q_assign _ (.bool true) rfl rfl ?_; simp only [Act.put, List.setIfInBounds_toArray, List.set_cons_succ, List.set_cons_zero]
        refine wpQuiet_nil ?_; intro w7 g7; have z7 := g7.size; have gg := gg.trans g7
        go_wp2
        go_ret3
        exact ⟨fin_iib HV.out.1.symm HV.out.2.1.symm HV.out.2.2.symm, gg⟩
    · have HO := hidI (show nameS c = false from by simpa using h1)
      have HV := hidI (pl_no (l := s.data.toList) (s := c) (by unfold plI; rw [HO.out, Bool.and_false]; rfl))
      clear hp hg hk h1 ht
      go_enter Tryd.func24, Tryd.ntmps24
      go_wp2_with (first | (go_at_call 35; refine (readTray_any s _ hm hs).mono ?_; rintro e w1 ⟨rfl, g1⟩; rw [HK.out, HG.out, gvG]; have z1 := g1.size; have gg := gg.trans g1) | (refine r_alloc 47 _ Tryd.gzero rfl ?_; intro w2 B2 N2; have g2 := N2.gr; have b2 : Blk w2 B2 (gv 0 0 []) 47 := N2.blk; have l2 := N2.lo; have t2 := N2.hi; have z2 := g2.size; have gg := gg.trans g2; clear N2; obtain ⟨b2_0, b2_1, b2_2⟩ := gcells b2) | (refine r_store_row 47 47 _ _ _ rfl (gv g.w g.h g.c) _ rfl b2 (Tryd.gsize' _ _ _) (by simp only [gv_size]) (gv_one _ _ _) rfl ?_; intro w3 u3 b2'; have z3 := u3.size; have gg := u3.gr gg (by omega); clear b2; have b2 := b2'; clear b2'; obtain ⟨b2_0, b2_1, b2_2⟩ := gcells b2) | (go_at_call 47; refine (isName_any _ _).mono ?_; rintro e wSame ⟨rfl, rfl⟩; rw [HO.out]))
      go_ret3
      exact ⟨fin_iib HV.out.1.symm HV.out.2.1.symm HV.out.2.2.symm, gg⟩
theorem name_bounds {b : UInt8} : isNameB b = true ↔ 97 ≤ (b.toNat : Int) ∧ (b.toNat : Int) ≤ 102 := by
  unfold isNameB
  rw [Bool.and_eq_true, decide_eq_true_eq, decide_eq_true_eq, UInt8.le_iff_toNat_le, UInt8.le_iff_toNat_le]
  have h1 : (97 : UInt8).toNat = 97 := rfl
  have h2 : (102 : UInt8).toNat = 102 := rfl
  omega
set_option maxHeartbeats 2000000 in
set_option maxRecDepth 100000 in
theorem sPlaceOf (s c : ByteArray) (w : World) (hs : s.size ≤ 1048576) : Calls Tryd.prog 23 #[.string s, .string c] w (Ret (.tuple #[.int .i64 (plX s.data.toList c), .int .i64 (plY s.data.toList c), .bool (plOk s.data.toList c)]) w) := by
  have gg := Gr.refl w
  go_enter Tryd.func23, Tryd.ntmps23
  go_wp2_with fail
  refine (tyRead_any s _ hs).mono ?_
  rintro e w1 ⟨g1, ⟨hp, rfl⟩ | ⟨g, sl, hp, rfl, hown⟩⟩
  · have HV := hidI (pl_no (l := s.data.toList) (s := c) (by unfold plI; rw [(rd_parse_none hp).2]; rfl))
    have z1 := g1.size
    have gg := gg.trans g1
    clear hp
    go_wp2_with (first | (refine r_alloc 41 _ Tryd.tzero rfl ?_; intro w2 B2 N2; have g2 := N2.gr; have b2 : Blk w2 B2 (tg 0 0 (.slice none 0 0)) 41 := N2.blk; have l2 := N2.lo; have t2 := N2.hi; have z2 := g2.size; have gg := gg.trans g2; clear N2; obtain ⟨b2_0, b2_1, b2_2⟩ := tcells b2) | (refine r_store_row 41 41 _ _ _ rfl (tg _ _ _) _ rfl b2 Tryd.tsize rfl (tg_one rfl) rfl ?_; intro w3 u3 b2'; have z3 := u3.size; have gg := u3.gr gg (by omega); clear b2; have b2 := b2'; clear b2'; obtain ⟨b2_0, b2_1, b2_2⟩ := tcells b2))
    go_ret3
    exact ⟨fin_iib HV.out.1.symm HV.out.2.1.symm HV.out.2.2.symm, gg⟩
  · obtain ⟨hg, hk⟩ := rd_parse_some hp
    have ht := parse_tray hp
    have z1 := g1.size
    have gg := gg.trans g1
    have hone := own_one hown
    have no : nameS c = false → plX s.data.toList c = 0 ∧ plY s.data.toList c = 0 ∧ plOk s.data.toList c = false := fun h => pl_no (by unfold plI; rw [h, Bool.and_false]; rfl)
    have NO := hidI no
    clear no
    by_cases hsz : c.size = 1
    · have hc := one_of c hsz
      obtain ⟨b, hb⟩ : ∃ b, hd c = b := ⟨_, rfl⟩
      rw [hb] at hc
      subst hc
      have hix := fun w => s_idx0 (P := Tryd.prog) Tryd.underlying9 b w
      have hns : nameS ⟨#[b]⟩ = isNameB b := by unfold nameS; rw [decide_eq_true hsz, hb]; rfl
      by_cases h1 : 97 ≤ (b.toNat : Int) ∧ (b.toNat : Int) ≤ 102
      · have hn := name_bounds.2 h1
        obtain ⟨n1, n2⟩ := h1
        have hw1 := ht.w1
        have hlen := ht.len
        have n36 := ht.n36
        have h36 : g.c.length ≤ 36 := by omega
        have hl1 : 0 < g.c.length := by rw [hlen]; exact Nat.mul_pos ht.w1 ht.h1
        have hI : plI s.data.toList ⟨#[b]⟩ = ixC g.c b g.c.length := by
          unfold plI; rw [hk, hns, hn, hg, hlen]; rfl
        have HI := hidI hI
        have HG := hidI hg
        obtain ⟨G, cap, rfl, hG, hcap⟩ := own_shape hown hl1
        clear hp hg hk ht hb hns hn hsz hI hlen
        go_wp2_with (first | (refine r_alloc 41 _ Tryd.tzero rfl ?_; intro w2 B2 N2; have g2 := N2.gr; have b2 : Blk w2 B2 (tg 0 0 (.slice none 0 0)) 41 := N2.blk; have l2 := N2.lo; have t2 := N2.hi; have z2 := g2.size; have gg := gg.trans g2; clear N2; obtain ⟨b2_0, b2_1, b2_2⟩ := tcells b2) | (refine r_store_row 41 41 _ _ _ rfl (tg _ _ _) _ rfl b2 Tryd.tsize rfl (tg_one hone) rfl ?_; intro w3 u3 b2'; have z3 := u3.size; have gg := u3.gr gg (by omega); clear b2; have b2 := b2'; clear b2'; obtain ⟨b2_0, b2_1, b2_2⟩ := tcells b2))
        have hown := u3.row (g2.row hown) (own_new hown l2)
        go_loop [9, 10, 36] (fun _ _ i => ∃ k : Nat, k ≤ g.c.length ∧ i = .int .i64 k ∧ Hid (∀ j, j < k → at0 g.c j ≠ b)) (fun _ _ i => g.c.length - (intOf i).toNat)
        case atStart => exact ⟨0, Nat.zero_le _, rfl, fun j hj => by omega⟩
        case round =>
          obtain ⟨k, hk, rfl, HA⟩ := hrel
          by_cases hlt : k < g.c.length
          · have hck := own_cell hown k hlt rfl
            by_cases hb : at0 g.c k = b
            · have e1 := beq_byte hb
              have hv := pl_yes (HI.out.trans (ixC_some hlt hb HA.out))
              rw [HG.out] at hv
              have HV := hidI hv
              clear hb hv
              go_wp2
              refine q_whole (by kernel_rfl) (by kernel_rfl) ?_
              refine q_move _ (.int .i64 k) rfl rfl ?_; simp only [Act.put, List.setIfInBounds_toArray, List.set_cons_succ, List.set_cons_zero]
              refine q_take (.pointer (some ⟨B2, 0, none⟩)) rfl (fun w' hw' => e_val _ _ (Tryd.tf0 B2 _)) ?_; simp only [Act.put, List.setIfInBounds_toArray, List.set_cons_succ, List.set_cons_zero]
              refine q_take (.int .i64 g.w) rfl (fun w' hw' => e_load 3 (.tmp 46) ⟨B2, 0, none⟩ _ rfl (Tryd.isAgg3 _) (hw'.cell b2_0)) ?_; simp only [Act.put, List.setIfInBounds_toArray, List.set_cons_succ, List.set_cons_zero]
              refine q_rem _ _ _ _ (k) (g.w) rfl rfl (hw1) rfl ?_; simp only [Act.put, List.setIfInBounds_toArray, List.set_cons_succ, List.set_cons_zero]
              refine q_move _ (.int .i64 k) rfl rfl ?_; simp only [Act.put, List.setIfInBounds_toArray, List.set_cons_succ, List.set_cons_zero]
              refine q_take (.pointer (some ⟨B2, 0, none⟩)) rfl (fun w' hw' => e_val _ _ (Tryd.tf0 B2 _)) ?_; simp only [Act.put, List.setIfInBounds_toArray, List.set_cons_succ, List.set_cons_zero]
              refine q_take (.int .i64 g.w) rfl (fun w' hw' => e_load 3 (.tmp 50) ⟨B2, 0, none⟩ _ rfl (Tryd.isAgg3 _) (hw'.cell b2_0)) ?_; simp only [Act.put, List.setIfInBounds_toArray, List.set_cons_succ, List.set_cons_zero]
              refine q_quo _ _ _ _ (k) (g.w) rfl rfl (hw1) (by omega) rfl ?_; simp only [Act.put, List.setIfInBounds_toArray, List.set_cons_succ, List.set_cons_zero]
              refine q_assign _ (.int .i64 (k % g.w : Nat)) rfl rfl ?_; simp only [Act.put, List.setIfInBounds_toArray, List.set_cons_succ, List.set_cons_zero]
              refine q_assign _ (.int .i64 (k / g.w : Nat)) rfl rfl ?_; simp only [Act.put, List.setIfInBounds_toArray, List.set_cons_succ, List.set_cons_zero]
              refine q_assign _ (.bool true) rfl rfl ?_; simp only [Act.put, List.setIfInBounds_toArray, List.set_cons_succ, List.set_cons_zero]
              refine wpQuiet_nil ?_; intro w7 g7; have z7 := g7.size; have gg := gg.trans g7
              go_wp2
              go_ret3
              exact ⟨fin_iib HV.out.1.symm HV.out.2.1.symm HV.out.2.2.symm, gg⟩
            · have e1 := bne_byte hb
              have HB := hidI hb
              clear hb
              go_wp2
              go_round
              case rel => exact ⟨k + 1, by omega, by go_num, fun j hj => if h : j < k then HA.out j h else by rw [show j = k by omega]; exact HB.out⟩
              case measure => simp [intOf]; omega
          · obtain rfl : k = g.c.length := by omega
            have HV := hidI (pl_no (HI.out.trans (ixC_none HA.out)))
            clear hlt
            go_wp2
            go_ret3
            exact ⟨fin_iib HV.out.1.symm HV.out.2.1.symm HV.out.2.2.symm, gg⟩
      · have HV := hidI (NO.out (by rw [hns, ← Bool.not_eq_true, name_bounds]; exact h1))
        have hcs : (b.toNat : Int) < 97 ∨ (97 ≤ (b.toNat : Int) ∧ 102 < (b.toNat : Int)) := by omega
        clear hp hg hk ht hb hns hsz h1
        rcases hcs with n1 | ⟨n1, n2⟩
        all_goals
          go_wp2_with (first | (refine r_alloc 41 _ Tryd.tzero rfl ?_; intro w2 B2 N2; have g2 := N2.gr; have b2 : Blk w2 B2 (tg 0 0 (.slice none 0 0)) 41 := N2.blk; have l2 := N2.lo; have t2 := N2.hi; have z2 := g2.size; have gg := gg.trans g2; clear N2; obtain ⟨b2_0, b2_1, b2_2⟩ := tcells b2) | (refine r_store_row 41 41 _ _ _ rfl (tg _ _ _) _ rfl b2 Tryd.tsize rfl (tg_one hone) rfl ?_; intro w3 u3 b2'; have z3 := u3.size; have gg := u3.gr gg (by omega); clear b2; have b2 := b2'; clear b2'; obtain ⟨b2_0, b2_1, b2_2⟩ := tcells b2))
          go_ret3
          exact ⟨fin_iib HV.out.1.symm HV.out.2.1.symm HV.out.2.2.symm, gg⟩
    · have HV := hidI (NO.out (by unfold nameS; rw [decide_eq_false hsz]; rfl))
      have hn : ((c.size : Int) != 1) = true := by rw [bne_iff_ne]; omega
      clear hp hg hk ht hsz
      go_wp2_with (first | (refine r_alloc 41 _ Tryd.tzero rfl ?_; intro w2 B2 N2; have g2 := N2.gr; have b2 : Blk w2 B2 (tg 0 0 (.slice none 0 0)) 41 := N2.blk; have l2 := N2.lo; have t2 := N2.hi; have z2 := g2.size; have gg := gg.trans g2; clear N2; obtain ⟨b2_0, b2_1, b2_2⟩ := tcells b2) | (refine r_store_row 41 41 _ _ _ rfl (tg _ _ _) _ rfl b2 Tryd.tsize rfl (tg_one hone) rfl ?_; intro w3 u3 b2'; have z3 := u3.size; have gg := u3.gr gg (by omega); clear b2; have b2 := b2'; clear b2'; obtain ⟨b2_0, b2_1, b2_2⟩ := tcells b2))
      go_ret3
      exact ⟨fin_iib HV.out.1.symm HV.out.2.1.symm HV.out.2.2.symm, gg⟩
set_option maxHeartbeats 1000000 in
theorem lawPlaceOf (s c : ByteArray) (w : World) (hm : ML w) : Calls Tryd.prog 7 #[.string s, .string c] w (Ret (.bool true) w) := by
  have gg := Gr.refl w
  by_cases hs : 1048576 < s.size
  · go_enter Tryd.func7, Tryd.ntmps7
    go_wp2
    go_ret
    exact ⟨rfl, gg⟩
  · have hs' : s.size ≤ 1048576 := by omega
    clear hs
    by_cases hc : 1048576 < c.size
    · go_enter Tryd.func7, Tryd.ntmps7
      go_wp2
      go_ret
      exact ⟨rfl, gg⟩
    · have hc' : c.size ≤ 1048576 := by omega
      clear hc
      go_enter Tryd.func7, Tryd.ntmps7
      go_wp2_with (first | (go_at_call 23; refine (sPlaceOf s c _ hs').mono ?_; rintro e w1 ⟨rfl, g1⟩; have z1 := g1.size; have gg := gg.trans g1) | (go_at_call 24; refine (iPlaceOf s c _ (gg.ml hm) hs').mono ?_; rintro e w2 ⟨rfl, g2⟩; have z2 := g2.size; have gg := gg.trans g2))
      go_ret
      exact ⟨rfl, gg⟩
end Go.Proofs.YtedgocedomlhfaaDoor
