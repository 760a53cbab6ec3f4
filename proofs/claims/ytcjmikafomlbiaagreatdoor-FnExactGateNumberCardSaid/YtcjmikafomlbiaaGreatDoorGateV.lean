/-
  Machines in the model: what is asked, and the table.
-/
import Derived.Test.YtcjmikafomlbiaaGreatDoorGateU
namespace Go.Proofs.YtcjmikafomlbiaaGreatDoor
open Go.RowKit
def RetGt (T : TypeId) (l : List UInt8) (I O : List Int) (u : ByteArray) (w : World) (e : Ending) (w' : World) : Prop :=
  Gr w w' ∧ ((gtOk l I O u = false ∧ ∃ W H sl, sl.oneCell' = true ∧ e = .returned (.tuple #[.agg (tg W H sl), .bool false])) ∨
    ∃ g sl, parse l = some g ∧ mcIn g I O = true ∧ wordB u = true ∧ gtOk l I O u = true ∧ e = .returned (.tuple #[.agg (tg g.w g.h sl), .bool true]) ∧ w'.ownsRow w.heap.size T 1 sl g.c.length (cellsV g.c))
set_option maxHeartbeats 4000000 in
set_option maxRecDepth 100000 in
theorem mcGate_any (s u : ByteArray) (I O : List Int) (bI bO : Nat) (slI slO : Value) (w : World) (hs : s.size ≤ 1048576) (hI : w.ownsRow bI 3 1 slI I.length (intsV I)) (hO : w.ownsRow bO 3 1 slO O.length (intsV O)) :
    Calls Tryz.prog 16 #[.string s, slI, slO, .string u] w (RetGt 5 s.data.toList I O u w) := by
  have gg := Gr.refl w
  have oneI := own_one hI
  have oneO := own_one hO
  obtain ⟨pI, kI, hsI⟩ := own_sliceN hI
  obtain ⟨pO, kO, hsO⟩ := own_sliceN hO
  subst hsI
  subst hsO
  obtain ⟨slI, HSI⟩ : ∃ v, Hid (v = Value.slice pI I.length kI) := ⟨_, rfl⟩
  obtain ⟨slO, HSO⟩ : ∃ v, Hid (v = Value.slice pO O.length kO) := ⟨_, rfl⟩
  rw [← HSI.out] at hI oneI ⊢
  rw [← HSO.out] at hO oneO ⊢
  go_enter Tryz.func16, Tryz.ntmps16
  go_wp2_with ((refine r_alloc (dst := some 8) 36 _ Tryz.tzero rfl ?_; intro w1 B1 N1; have g1 := N1.gr; have b1 : Blk w1 B1 (tg 0 0 (.slice none 0 0)) 36 := N1.blk; have l1 := N1.lo; have t1 := N1.hi; have z1 := g1.size; have gg := gg.trans g1; clear N1; obtain ⟨b1_0, b1_1, b1_2⟩ := tcells b1); have hI := g1.row hI; have hO := g1.row hO)
  refine (mcRead_any s u _ hs).mono ?_
  rintro e w2 ⟨g2, ⟨hn, W0, H0, sl, hone, rfl⟩ | ⟨g, sl, hp, hy, rfl, hown⟩⟩
  · have HN := hidI (show gtOk s.data.toList I O u = false from by
      unfold gtOk
      unfold mcOk at hn
      cases h1 : rdOk s.data.toList
      · rfl
      · rw [h1, Bool.true_and] at hn; rw [hn, Bool.and_false])
    have z2 := g2.size
    have b1 := g2.blk b1
    have hI := g2.row hI
    have hO := g2.row hO
    have gg := gg.trans g2
    have hown : w2.ownsRow w2.heap.size 5 1 (.slice none 0 0) 0 [] := World.ownsRow_nil _ _ _ _
    clear hn
    go_wp2_with (first | ((refine r_alloc (dst := some 10) 36 _ Tryz.tzero rfl ?_; intro w3 B3 N3; have g3 := N3.gr; have b3 : Blk w3 B3 (tg 0 0 (.slice none 0 0)) 36 := N3.blk; have l3 := N3.lo; have t3 := N3.hi; have z3 := g3.size; have b1 := g3.blk b1; obtain ⟨b1_0, b1_1, b1_2⟩ := tcells b1; have gg := gg.trans g3; clear N3; obtain ⟨b3_0, b3_1, b3_2⟩ := tcells b3); have hown := g3.row hown; have hI := g3.row hI; have hO := g3.row hO) | (have nI := own_ne hI b3 (by decide); have nO := own_ne hO b3 (by decide); have nW := own_ne hown b3 (by decide); (refine r_store_row 36 36 _ _ _ rfl (tg _ _ _) _ rfl b3 Tryz.tsize rfl (tg_one hone) rfl ?_; intro w4 u4 b3'; have z4 := u4.size; have gg := u4.gr gg (by omega); have b1 := u4.blk b1 (by omega); obtain ⟨b1_0, b1_1, b1_2⟩ := tcells b1; clear b3; have b3 := b3'; clear b3'; obtain ⟨b3_0, b3_1, b3_2⟩ := tcells b3); have hown := u4.row hown nW; have hI := u4.row hI nI; have hO := u4.row hO nO))
    have gd := (Gr.refl w4).drew
    have b1 := gd.blk b1
    have b3 := gd.blk b3
    have hown := gd.row hown
    have hI := gd.row hI
    have hO := gd.row hO
    have gg := gg.trans gd
    have zd := gd.size
    have n13 : B3 ≠ B1 := by omega
    have lo1 : w.heap.size ≤ B1 := by omega
    refine K_begin (fun w => Blk w B3 (tg W0 H0 sl) 36) 14 14 #[false, false, false, false, false, false, false, false, false, false, false, false, false, false] rfl (by kernel_rfl) (by kernel_rfl) ?_
    generalize w4.drew = wd at *
    refine K_take (v := .agg (tg W0 H0 sl)) 0 #[true, false, false, false, false, false, false, false, false, false, false, false, false, false] rfl (by kernel_rfl) (fun _ _ _ h => h) rfl (fun w hF => e_load_row 36 (.tmp 10) B3 _ _ _ rfl hF Tryz.underlying36 rfl Tryz.tinfo) (b3) ?_; simp only [Act.put, List.setIfInBounds_toArray, List.set_cons_succ, List.set_cons_zero]
    refine K_take (v := .bool false) 1 #[true, true, false, false, false, false, false, false, false, false, false, false, false, false] rfl (by kernel_rfl) (fun _ _ _ h => h) rfl (fun _ _ => rfl) (b3) ?_; simp only [Act.put, List.setIfInBounds_toArray, List.set_cons_succ, List.set_cons_zero]
    refine K_take (v := .bool false) 2 #[true, true, true, false, false, false, false, false, false, false, false, false, false, false] rfl (by kernel_rfl) (fun _ _ _ h => h) rfl (fun _ _ => rfl) (b3) ?_; simp only [Act.put, List.setIfInBounds_toArray, List.set_cons_succ, List.set_cons_zero]
    refine K_skip 3 #[true, true, true, true, false, false, false, false, false, false, false, false, false, false] rfl (by kernel_rfl) (fun _ _ _ h => h) rfl (b3) ?_; simp only [Act.put, List.setIfInBounds_toArray, List.set_cons_succ, List.set_cons_zero]
    refine K_skip 4 #[true, true, true, true, true, false, false, false, false, false, false, false, false, false] rfl (by kernel_rfl) (fun _ _ _ h => h) rfl (b3) ?_; simp only [Act.put, List.setIfInBounds_toArray, List.set_cons_succ, List.set_cons_zero]
    refine K_skip 5 #[true, true, true, true, true, true, false, false, false, false, false, false, false, false] rfl (by kernel_rfl) (fun _ _ _ h => h) rfl (b3) ?_; simp only [Act.put, List.setIfInBounds_toArray, List.set_cons_succ, List.set_cons_zero]
    refine K_take (v := .bool false) 6 #[true, true, true, true, true, true, true, false, false, false, false, false, false, false] rfl (by kernel_rfl) (fun _ _ _ h => h) rfl (fun _ _ => rfl) (b3) ?_; simp only [Act.put, List.setIfInBounds_toArray, List.set_cons_succ, List.set_cons_zero]
    refine K_take (v := .bool false) 7 #[true, true, true, true, true, true, true, true, false, false, false, false, false, false] rfl (by kernel_rfl) (fun _ _ _ h => h) rfl (fun _ _ => rfl) (b3) ?_; simp only [Act.put, List.setIfInBounds_toArray, List.set_cons_succ, List.set_cons_zero]
    refine K_skip 8 #[true, true, true, true, true, true, true, true, true, false, false, false, false, false] rfl (by kernel_rfl) (fun _ _ _ h => h) rfl (b3) ?_; simp only [Act.put, List.setIfInBounds_toArray, List.set_cons_succ, List.set_cons_zero]
    refine K_skip 9 #[true, true, true, true, true, true, true, true, true, true, false, false, false, false] rfl (by kernel_rfl) (fun _ _ _ h => h) rfl (b3) ?_; simp only [Act.put, List.setIfInBounds_toArray, List.set_cons_succ, List.set_cons_zero]
    refine K_skip 10 #[true, true, true, true, true, true, true, true, true, true, true, false, false, false] rfl (by kernel_rfl) (fun _ _ _ h => h) rfl (b3) ?_; simp only [Act.put, List.setIfInBounds_toArray, List.set_cons_succ, List.set_cons_zero]
    refine K_take (v := .bool false) 11 #[true, true, true, true, true, true, true, true, true, true, true, true, false, false] rfl (by kernel_rfl) (fun _ _ _ h => h) rfl (fun _ _ => rfl) (b3) ?_; simp only [Act.put, List.setIfInBounds_toArray, List.set_cons_succ, List.set_cons_zero]
    refine K_one 12 #[true, true, true, true, true, true, true, true, true, true, true, true, true, false] rfl (by kernel_rfl) ?_
    refine r_store_row 36 36 _ _ B1 rfl (tg W0 H0 sl) _ rfl b1 Tryz.tsize rfl (tg_one hone) rfl ?_
    intro w6 u6 b16
    have b3 := u6.blk b3 n13
    have hown := u6.row hown (own_ne hown b1 (by decide))
    have gg := u6.gr gg lo1
    simp only [Act.put]
    refine ⟨fun _ => b3, ?_⟩
    refine K_one 13 #[true, true, true, true, true, true, true, true, true, true, true, true, true, true] rfl (by kernel_rfl) ?_
    refine r_val (.bool false) rfl rfl ?_
    simp only [Act.put, List.setIfInBounds_toArray, List.set_cons_succ, List.set_cons_zero]
    refine ⟨fun _ => b3, ?_⟩
    refine K_done' (by kernel_rfl) ?_
    go_wp2
    refine bodyPost_ret (results_row_bool rfl _ _ _ _ _ _ rfl b16 Tryz.underlying36 rfl Tryz.tinfo) rfl ?_
    exact ⟨gg, .inl ⟨HN.out, _, _, _, hone, rfl⟩⟩
  · have hone := own_one hown
    have gg := gg.trans g2
    have z2 := g2.size
    have b1 := g2.blk b1
    have hI := g2.row hI
    have hO := g2.row hO
    obtain ⟨hc, -, -, hl1⟩ := cel_of hp
    obtain ⟨hrg, hrk⟩ := rd_parse_some hp
    have hlen := hc.len
    have n36 := hc.n36
    have h36 : g.c.length ≤ 36 := by omega
    have hw : wordB u = true := by unfold mcOk at hy; rw [Bool.and_eq_true] at hy; exact hy.2
    have HGT := hidI (show gtOk s.data.toList I O u = (mccB g.c I 46 && mccB g.c O 0) from by unfold gtOk; rw [hrk, hrg, hw, mcIn_eq hlen]; simp)
    have HMI := hidI (mcIn_eq (I := I) (O := O) hlen)
    have HP := hidI hp
    have HWB := hidI hw
    obtain ⟨G0, cap0, rfl, -, -⟩ := own_shape hown hl1
    have HCI := hidI (fun (w' : World) (o : w'.ownsRow w1.heap.size 5 1 (.slice (some ⟨G0, 0, none⟩) g.c.length cap0) g.c.length (cellsV g.c)) (oI : w'.ownsRow bI 3 1 slI I.length (intsV I)) => mcCells_any g.w g.h w1.heap.size g.c G0 cap0 I bI slI 46 46 w' (.inr ⟨rfl, rfl⟩) h36 hl1 o oI)
    have HCO := hidI (fun (w' : World) (o : w'.ownsRow w1.heap.size 5 1 (.slice (some ⟨G0, 0, none⟩) g.c.length cap0) g.c.length (cellsV g.c)) (oO : w'.ownsRow bO 3 1 slO O.length (intsV O)) => mcCells_any g.w g.h w1.heap.size g.c G0 cap0 O bO slO 0 0 w' (.inl ⟨rfl, rfl⟩) h36 hl1 o oO)
    obtain ⟨W0, hW0⟩ : ∃ W0, W0 = (g.w : Int) := ⟨_, rfl⟩
    obtain ⟨H0, hH0⟩ : ∃ H0, H0 = (g.h : Int) := ⟨_, rfl⟩
    have HW := hidI hW0
    have HH := hidI hH0
    rw [← hW0, ← hH0] at HCI HCO ⊢
    obtain ⟨sl, hsl⟩ : ∃ sl, sl = Value.slice (some ⟨G0, 0, none⟩) g.c.length cap0 := ⟨_, rfl⟩
    rw [← hsl] at hown hone HCI HCO ⊢
    obtain ⟨bi, hbi⟩ : ∃ bi, bi = mccB g.c I 46 := ⟨_, rfl⟩
    obtain ⟨bo, hbo⟩ : ∃ bo, bo = mccB g.c O 0 := ⟨_, rfl⟩
    rw [← hbi] at HCI HGT HMI
    rw [← hbo] at HCO HGT HMI
    clear hp hy hc hrg hrk hlen n36 h36 hw hW0 hH0 hsl hbi hbo hl1
    go_wp2_with (first | ((refine r_alloc (dst := some 10) 36 _ Tryz.tzero rfl ?_; intro w3 B3 N3; have g3 := N3.gr; have b3 : Blk w3 B3 (tg 0 0 (.slice none 0 0)) 36 := N3.blk; have l3 := N3.lo; have t3 := N3.hi; have z3 := g3.size; have b1 := g3.blk b1; obtain ⟨b1_0, b1_1, b1_2⟩ := tcells b1; have gg := gg.trans g3; clear N3; obtain ⟨b3_0, b3_1, b3_2⟩ := tcells b3); have hown := g3.row hown; have hI := g3.row hI; have hO := g3.row hO) | (have nI := own_ne hI b3 (by decide); have nO := own_ne hO b3 (by decide); have nW := own_ne hown b3 (by decide); (refine r_store_row 36 36 _ _ _ rfl (tg _ _ _) _ rfl b3 Tryz.tsize rfl (tg_one hone) rfl ?_; intro w4 u4 b3'; have z4 := u4.size; have gg := u4.gr gg (by omega); have b1 := u4.blk b1 (by omega); obtain ⟨b1_0, b1_1, b1_2⟩ := tcells b1; clear b3; have b3 := b3'; clear b3'; obtain ⟨b3_0, b3_1, b3_2⟩ := tcells b3); have hown := u4.row hown nW; have hI := u4.row hI nI; have hO := u4.row hO nO))
    have gd := (Gr.refl w4).drew
    have b1 := gd.blk b1
    have b3 := gd.blk b3
    have hown := gd.row hown
    have hI := gd.row hI
    have hO := gd.row hO
    have gg := gg.trans gd
    have zd := gd.size
    have n13 : B3 ≠ B1 := by omega
    have lo1 : w.heap.size ≤ B1 := by omega
    refine K_begin (fun w => Blk w B3 (tg W0 H0 sl) 36) 14 14 #[false, false, false, false, false, false, false, false, false, false, false, false, false, false] rfl (by kernel_rfl) (by kernel_rfl) ?_
    generalize w4.drew = wd at *
    refine K_take (v := .agg (tg W0 H0 sl)) 0 #[true, false, false, false, false, false, false, false, false, false, false, false, false, false] rfl (by kernel_rfl) (fun _ _ _ h => h) rfl (fun w hF => e_load_row 36 (.tmp 10) B3 _ _ _ rfl hF Tryz.underlying36 rfl Tryz.tinfo) (b3) ?_; simp only [Act.put, List.setIfInBounds_toArray, List.set_cons_succ, List.set_cons_zero]
    cases hbb : bi
    · rw [hbb] at HCI HGT
      refine K_take (v := .bool true) 1 #[true, true, false, false, false, false, false, false, false, false, false, false, false, false] rfl (by kernel_rfl) (fun _ _ _ h => h) rfl (fun _ _ => rfl) (b3) ?_; simp only [Act.put, List.setIfInBounds_toArray, List.set_cons_succ, List.set_cons_zero]
      refine K_take (v := .bool true) 2 #[true, true, true, false, false, false, false, false, false, false, false, false, false, false] rfl (by kernel_rfl) (fun _ _ _ h => h) rfl (fun _ _ => rfl) (b3) ?_; simp only [Act.put, List.setIfInBounds_toArray, List.set_cons_succ, List.set_cons_zero]
      refine K_take (v := .agg (tg W0 H0 sl)) 3 #[true, true, true, true, false, false, false, false, false, false, false, false, false, false] rfl (by kernel_rfl) (fun _ _ _ h => h) rfl (fun w hF => e_load_row 36 (.tmp 10) B3 _ _ _ rfl hF Tryz.underlying36 rfl Tryz.tinfo) (b3) ?_; simp only [Act.put, List.setIfInBounds_toArray, List.set_cons_succ, List.set_cons_zero]
      refine K_take (v := slI) 4 #[true, true, true, true, true, false, false, false, false, false, false, false, false, false] rfl (by kernel_rfl) (fun _ _ _ h => h) rfl (fun _ _ => rfl) (b3) ?_; simp only [Act.put, List.setIfInBounds_toArray, List.set_cons_succ, List.set_cons_zero]
      refine K_one 5 #[true, true, true, true, true, true, false, false, false, false, false, false, false, false] rfl (by kernel_rfl) ?_
      refine r_call 30 [.tmp 21, .tmp 22, .const (.int .u8 46)] _ [.agg (tg W0 H0 sl), slI, .int .u8 46] (.bool false) (fun w' => Gr wd w') Tryz.call30 rfl rfl (HCI.out wd hown hI) ?_
      intro w7 g7
      have b1 := g7.blk b1
      have b3 := g7.blk b3
      have hown := g7.row hown
      have hI := g7.row hI
      have hO := g7.row hO
      have gg := gg.trans g7
      have z7 := g7.size
      simp only [Act.put, List.setIfInBounds_toArray, List.set_cons_succ, List.set_cons_zero]
      refine ⟨fun _ => b3, ?_⟩
      refine K_take (v := .bool false) 6 #[true, true, true, true, true, true, true, false, false, false, false, false, false, false] rfl (by kernel_rfl) (fun _ _ _ h => h) rfl (fun _ _ => rfl) (b3) ?_; simp only [Act.put, List.setIfInBounds_toArray, List.set_cons_succ, List.set_cons_zero]
      refine K_take (v := .bool false) 7 #[true, true, true, true, true, true, true, true, false, false, false, false, false, false] rfl (by kernel_rfl) (fun _ _ _ h => h) rfl (fun _ _ => rfl) (b3) ?_; simp only [Act.put, List.setIfInBounds_toArray, List.set_cons_succ, List.set_cons_zero]
      refine K_skip 8 #[true, true, true, true, true, true, true, true, true, false, false, false, false, false] rfl (by kernel_rfl) (fun _ _ _ h => h) rfl (b3) ?_; simp only [Act.put, List.setIfInBounds_toArray, List.set_cons_succ, List.set_cons_zero]
      refine K_skip 9 #[true, true, true, true, true, true, true, true, true, true, false, false, false, false] rfl (by kernel_rfl) (fun _ _ _ h => h) rfl (b3) ?_; simp only [Act.put, List.setIfInBounds_toArray, List.set_cons_succ, List.set_cons_zero]
      refine K_skip 10 #[true, true, true, true, true, true, true, true, true, true, true, false, false, false] rfl (by kernel_rfl) (fun _ _ _ h => h) rfl (b3) ?_; simp only [Act.put, List.setIfInBounds_toArray, List.set_cons_succ, List.set_cons_zero]
      refine K_take (v := .bool false) 11 #[true, true, true, true, true, true, true, true, true, true, true, true, false, false] rfl (by kernel_rfl) (fun _ _ _ h => h) rfl (fun _ _ => rfl) (b3) ?_; simp only [Act.put, List.setIfInBounds_toArray, List.set_cons_succ, List.set_cons_zero]
      refine K_one 12 #[true, true, true, true, true, true, true, true, true, true, true, true, true, false] rfl (by kernel_rfl) ?_
      refine r_store_row 36 36 _ _ B1 rfl (tg W0 H0 sl) _ rfl b1 Tryz.tsize rfl (tg_one hone) rfl ?_
      intro w6 u6 b16
      have b3 := u6.blk b3 n13
      have hown := u6.row hown (own_ne hown b1 (by decide))
      have gg := u6.gr gg lo1
      simp only [Act.put]
      refine ⟨fun _ => b3, ?_⟩
      refine K_one 13 #[true, true, true, true, true, true, true, true, true, true, true, true, true, true] rfl (by kernel_rfl) ?_
      refine r_val (.bool false) rfl rfl ?_
      simp only [Act.put, List.setIfInBounds_toArray, List.set_cons_succ, List.set_cons_zero]
      refine ⟨fun _ => b3, ?_⟩
      refine K_done' (by kernel_rfl) ?_
      go_wp2
      refine bodyPost_ret (results_row_bool rfl _ _ _ _ _ _ rfl b16 Tryz.underlying36 rfl Tryz.tinfo) rfl ?_
      exact ⟨gg, .inl ⟨by rw [HGT.out]; rfl, _, _, _, hone, rfl⟩⟩
    · rw [hbb] at HCI HGT HMI
      skip
      refine K_take (v := .bool true) 1 #[true, true, false, false, false, false, false, false, false, false, false, false, false, false] rfl (by kernel_rfl) (fun _ _ _ h => h) rfl (fun _ _ => rfl) (b3) ?_; simp only [Act.put, List.setIfInBounds_toArray, List.set_cons_succ, List.set_cons_zero]
      refine K_take (v := .bool true) 2 #[true, true, true, false, false, false, false, false, false, false, false, false, false, false] rfl (by kernel_rfl) (fun _ _ _ h => h) rfl (fun _ _ => rfl) (b3) ?_; simp only [Act.put, List.setIfInBounds_toArray, List.set_cons_succ, List.set_cons_zero]
      refine K_take (v := .agg (tg W0 H0 sl)) 3 #[true, true, true, true, false, false, false, false, false, false, false, false, false, false] rfl (by kernel_rfl) (fun _ _ _ h => h) rfl (fun w hF => e_load_row 36 (.tmp 10) B3 _ _ _ rfl hF Tryz.underlying36 rfl Tryz.tinfo) (b3) ?_; simp only [Act.put, List.setIfInBounds_toArray, List.set_cons_succ, List.set_cons_zero]
      refine K_take (v := slI) 4 #[true, true, true, true, true, false, false, false, false, false, false, false, false, false] rfl (by kernel_rfl) (fun _ _ _ h => h) rfl (fun _ _ => rfl) (b3) ?_; simp only [Act.put, List.setIfInBounds_toArray, List.set_cons_succ, List.set_cons_zero]
      refine K_one 5 #[true, true, true, true, true, true, false, false, false, false, false, false, false, false] rfl (by kernel_rfl) ?_
      refine r_call 30 [.tmp 21, .tmp 22, .const (.int .u8 46)] _ [.agg (tg W0 H0 sl), slI, .int .u8 46] (.bool true) (fun w' => Gr wd w') Tryz.call30 rfl rfl (HCI.out wd hown hI) ?_
      intro w7 g7
      have b1 := g7.blk b1
      have b3 := g7.blk b3
      have hown := g7.row hown
      have hI := g7.row hI
      have hO := g7.row hO
      have gg := gg.trans g7
      have z7 := g7.size
      simp only [Act.put, List.setIfInBounds_toArray, List.set_cons_succ, List.set_cons_zero]
      refine ⟨fun _ => b3, ?_⟩
      refine K_take (v := .bool true) 6 #[true, true, true, true, true, true, true, false, false, false, false, false, false, false] rfl (by kernel_rfl) (fun _ _ _ h => h) rfl (fun _ _ => rfl) (b3) ?_; simp only [Act.put, List.setIfInBounds_toArray, List.set_cons_succ, List.set_cons_zero]
      refine K_take (v := .bool true) 7 #[true, true, true, true, true, true, true, true, false, false, false, false, false, false] rfl (by kernel_rfl) (fun _ _ _ h => h) rfl (fun _ _ => rfl) (b3) ?_; simp only [Act.put, List.setIfInBounds_toArray, List.set_cons_succ, List.set_cons_zero]
      refine K_take (v := .agg (tg W0 H0 sl)) 8 #[true, true, true, true, true, true, true, true, true, false, false, false, false, false] rfl (by kernel_rfl) (fun _ _ _ h => h) rfl (fun w hF => e_load_row 36 (.tmp 10) B3 _ _ _ rfl hF Tryz.underlying36 rfl Tryz.tinfo) (b3) ?_; simp only [Act.put, List.setIfInBounds_toArray, List.set_cons_succ, List.set_cons_zero]
      refine K_take (v := slO) 9 #[true, true, true, true, true, true, true, true, true, true, false, false, false, false] rfl (by kernel_rfl) (fun _ _ _ h => h) rfl (fun _ _ => rfl) (b3) ?_; simp only [Act.put, List.setIfInBounds_toArray, List.set_cons_succ, List.set_cons_zero]
      refine K_one 10 #[true, true, true, true, true, true, true, true, true, true, true, false, false, false] rfl (by kernel_rfl) ?_
      refine r_call 30 [.tmp 26, .tmp 27, .const (.int .u8 0)] _ [.agg (tg W0 H0 sl), slO, .int .u8 0] (.bool bo) (fun w' => Gr w7 w') Tryz.call30 rfl rfl (HCO.out w7 hown hO) ?_
      intro w8 g8
      have b1 := g8.blk b1
      have b3 := g8.blk b3
      have hown := g8.row hown
      have gg := gg.trans g8
      have z8 := g8.size
      simp only [Act.put, List.setIfInBounds_toArray, List.set_cons_succ, List.set_cons_zero]
      refine ⟨fun _ => b3, ?_⟩
      refine K_take (v := .bool bo) 11 #[true, true, true, true, true, true, true, true, true, true, true, true, false, false] rfl (by kernel_rfl) (fun _ _ _ h => h) rfl (fun _ _ => rfl) (b3) ?_; simp only [Act.put, List.setIfInBounds_toArray, List.set_cons_succ, List.set_cons_zero]
      refine K_one 12 #[true, true, true, true, true, true, true, true, true, true, true, true, true, false] rfl (by kernel_rfl) ?_
      refine r_store_row 36 36 _ _ B1 rfl (tg W0 H0 sl) _ rfl b1 Tryz.tsize rfl (tg_one hone) rfl ?_
      intro w6 u6 b16
      have b3 := u6.blk b3 n13
      have hown := u6.row hown (own_ne hown b1 (by decide))
      have gg := u6.gr gg lo1
      simp only [Act.put]
      refine ⟨fun _ => b3, ?_⟩
      refine K_one 13 #[true, true, true, true, true, true, true, true, true, true, true, true, true, true] rfl (by kernel_rfl) ?_
      refine r_val (.bool bo) rfl rfl ?_
      simp only [Act.put, List.setIfInBounds_toArray, List.set_cons_succ, List.set_cons_zero]
      refine ⟨fun _ => b3, ?_⟩
      refine K_done' (by kernel_rfl) ?_
      go_wp2
      refine bodyPost_ret (results_row_bool rfl _ _ _ _ _ _ rfl b16 Tryz.underlying36 rfl Tryz.tinfo) rfl ?_
      cases hbo : bo
      · rw [hbo] at HGT
        exact ⟨gg, .inl ⟨by rw [HGT.out]; rfl, _, _, _, hone, rfl⟩⟩
      · rw [hbo] at HGT HMI
        exact ⟨gg, .inr ⟨g, sl, HP.out, by rw [HMI.out]; rfl, HWB.out, by rw [HGT.out]; rfl, by (rw [HW.out, HH.out] <;> first | rfl | (rw [hbo])), own_up hown (by omega)⟩⟩
end Go.Proofs.YtcjmikafomlbiaaGreatDoor
