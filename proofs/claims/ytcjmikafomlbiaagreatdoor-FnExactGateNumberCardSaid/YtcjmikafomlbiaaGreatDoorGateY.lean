/-
  A machine that is read: its trays for each number of inputs.
-/
import Derived.Test.YtcjmikafomlbiaaGreatDoorGateK
namespace Go.Proofs.YtcjmikafomlbiaaGreatDoor
open Go.RowKit Go.Shelf
set_option maxHeartbeats 2000000 in
set_option maxRecDepth 100000 in
theorem readMachine_yes (s : ByteArray) (g : Grid) (I O : List Int) (bI bO : Nat) (slI slO : Value) (w : World) (hm : ML w) (hs : s.size ≤ 1048576) (hp : parse s.data.toList = some g) (hin : mcIn g I O = true)
    (hI : w.ownsRow bI 3 1 slI I.length (intsV I)) (hO : w.ownsRow bO 3 1 slO O.length (intsV O)) (wI : ∀ k, k < I.length → (Lit.int .i64 (gi I k)).wf = true) (wO : ∀ k, k < O.length → (Lit.int .i64 (gi O k)).wf = true) :
    Calls Tryz.prog 18 #[.string s, slI, slO] w (Ret (.tuple #[.agg (mcC (2 ^ I.length : Nat) (mcF g I (2 ^ I.length)) slO).toArray, .bool true]) w) := by
  have gg := Gr.refl w
  obtain ⟨hg, hk⟩ := rd_parse_some hp
  obtain ⟨hc, -, -, -⟩ := cel_of hp
  have w7 := hc.w7
  have h7 := hc.h7
  have n36 := hc.n36
  have hlen := hc.len
  have h36 : g.c.length ≤ 36 := by omega
  unfold mcIn at hin
  simp only [Bool.and_eq_true, Bool.not_eq_true'] at hin
  obtain ⟨⟨⟨a1, a2⟩, a3⟩, a4⟩ := hin
  obtain ⟨l1, l3⟩ := adB_len a1
  have l4 := (adB_len a2).2
  have HK := hidI hk
  have HG := hidI hg
  have hone := own_one hO
  have HAD := hidI (fun (w' : World) (sl : Value) (b : Bool) (h : (sl = slI ∧ b = true ∧ w'.ownsRow bI 3 1 slI I.length (intsV I)) ∨ (sl = slO ∧ b = true ∧ w'.ownsRow bO 3 1 slO O.length (intsV O))) => show Calls Tryz.prog 35 #[.agg (gv g.w g.h g.c), sl] w' (Ret (.bool b) w') from by
    rcases h with ⟨e1, e2, o⟩ | ⟨e1, e2, o⟩ <;> rw [e1, e2]
    · have := areDiff_any g I bI slI w' w7 h7 o wI; rwa [a1] at this
    · have := areDiff_any g O bO slO w' w7 h7 o wO; rwa [a2] at this)
  have HCT := hidI (fun (w' : World) (sl fv : Value) (b : Bool) (B : Nat) (hb : Blk w' B (gv g.w g.h g.c) 42) (h : (sl = slI ∧ fv = .func (.func 36) #[] #[.pointer (some ⟨B, 0, none⟩)] ∧ b = false ∧ w'.ownsRow bI 3 1 slI I.length (intsV I)) ∨ (sl = slO ∧ fv = .func (.func 37) #[] #[.pointer (some ⟨B, 0, none⟩)] ∧ b = false ∧ w'.ownsRow bO 3 1 slO O.length (intsV O))) => show Calls Tryz.prog 38 #[sl, fv] w' (Ret (.bool b) w') from by
    rcases h with ⟨e1, e2, e3, o⟩ | ⟨e1, e2, e3, o⟩ <;> rw [e1, e2, e3]
    · have := containsZ_any 36 Tryz.call36 (takenB g.c) I B bI slI w' (by omega) o (fun j hj w2 g2 => taken_any g (gi I j) B w2 (by have := adB_in a1 hj; omega) (g2.blk hb)); rwa [a3] at this
    · have := containsZ_any 37 Tryz.call37 (wallB g.c) O B bO slO w' (by omega) o (fun j hj w2 g2 => wall_any g (gi O j) B w2 (by have := adB_in a2 hj; omega) (g2.blk hb)); rwa [a4] at this)
  have HCE := hidI (fun j (hj : j < I.length) => show gi I j = (cellOf I j : Int) ∧ cellOf I j < g.c.length from by
    have := adB_in a1 hj
    unfold cellOf
    omega)
  have HW := hidI (fun (num : Nat) (hnum : num ≤ 8) (w' : World) (b : Nat) (cap : Nat) (hb : b < w'.heap.size) (hrow : I64s w' b 0 I.length (fun j => (cellOf I j : Int))) => withInputs_any g (cellOf I) b 0 I.length cap num w' (by omega) hnum (fun j hj => (HCE.out j hj).2) h36 hrow hb)
  have HII := hidI (fun (w' : World) (G cap : Nat) (o : w'.ownsRow bI 3 1 (.slice (some ⟨G, 0, none⟩) I.length cap) I.length (intsV I)) => show I64s w' G 0 I.length (fun j => (cellOf I j : Int)) from fun j hj => by
    have := own_int o j hj rfl
    rw [(HCE.out j hj).1] at this
    rw [Nat.zero_add]
    exact this)
  obtain ⟨N, hN⟩ : ∃ N, N = I.length := ⟨_, rfl⟩
  rw [← hN] at HAD HCT hI l1 l3 HII HW
  obtain ⟨M, hM⟩ : ∃ M, M = 2 ^ N := ⟨_, rfl⟩
  have hM8 : M ≤ 8 := by
    have : 2 ^ N ≤ 2 ^ 3 := Nat.pow_le_pow_right (by decide) l3
    omega
  have HSH := hidI (hM ▸ Tryz.shlM N l3)
  rw [← hN, ← hM]
  have HMF := hidI (mcF_zero g I)
  have HMS := hidI (fun k => show updF (mcF g I k) k ⟨g.w, g.h, wiG g (cellOf I) N k⟩ = mcF g I (k + 1) from hN ▸ mcF_succ g I k)
  obtain ⟨GI, cI, rfl, -, -⟩ := own_shape hI (by omega)
  obtain ⟨pO, cO, rfl⟩ := own_sliceN hO
  obtain ⟨K, hK⟩ : ∃ K, K = O.length := ⟨_, rfl⟩
  rw [← hK] at HAD HCT hO hone ⊢
  have hGI := (hI.lt GI rfl).2
  clear hg hk hp hc a1 a2 a3 a4 wI wO hM hN hK l4
  go_enter Tryz.func18, Tryz.ntmps18
  go_wp2_with (first | ((refine r_alloc (dst := some 6) 45 _ Tryz.mzero rfl ?_; intro w1 B1 N1; have g1 := N1.gr; have b1 : Blk w1 B1 (zmC.toArray) 45 := N1.blk; have l1 := N1.lo; have t1 := N1.hi; have z1 := g1.size; have gg := gg.trans g1; clear N1); have hI := g1.row hI; have hO := g1.row hO) | ((go_at_call 34; refine (readTray_any s _ (gg.ml hm) hs).mono ?_; rintro e w2 ⟨rfl, g2⟩; rw [HK.out, HG.out, gvG]; have z2 := g2.size; have b1 := g2.blk b1; have gg := gg.trans g2); have hI := g2.row hI; have hO := g2.row hO) | ((refine r_alloc (dst := some 8) 42 _ Tryz.gzero rfl ?_; intro w3 B3 N3; have g3 := N3.gr; have b3 : Blk w3 B3 (gv 0 0 []) 42 := N3.blk; have l3 := N3.lo; have t3 := N3.hi; have z3 := g3.size; have b1 := g3.blk b1; have gg := gg.trans g3; clear N3; obtain ⟨b3_0, b3_1, b3_2⟩ := gcells b3); have hI := g3.row hI; have hO := g3.row hO) | (have n1 := own_ne hI b3 (by decide); have n2 := own_ne hO b3 (by decide); (refine r_store_row 42 42 _ _ _ rfl (gv g.w g.h g.c) _ rfl b3 (Tryz.gsize' _ _ _) (by simp only [gv_size]) (gv_one _ _ _) rfl ?_; intro w4 u4 b3'; have z4 := u4.size; have gg := u4.gr gg (by omega); have b1 := u4.blk b1 (by omega); clear b3; have b3 := b3'; clear b3'; obtain ⟨b3_0, b3_1, b3_2⟩ := gcells b3); have hI := u4.row hI n1; have hO := u4.row hO n2) | (refine r_load_row 42 _ _ rfl _ _ _ b3 Tryz.underlying42 rfl (Tryz.ginfo' _ _ _) rfl ?_) | (go_at_call 35; refine (HAD.out _ _ _ (by first | exact .inl ⟨rfl, rfl, hI⟩ | exact .inr ⟨rfl, rfl, hO⟩)).mono ?_; rintro e w5 ⟨rfl, g5⟩; have hI := g5.row hI; have hO := g5.row hO; have b1 := g5.blk b1; have b3 := g5.blk b3; have gg := gg.trans g5; have z5 := g5.size) | (go_at_call 38; refine (HCT.out _ _ _ _ B3 b3 (by first | exact .inl ⟨rfl, rfl, rfl, hI⟩ | exact .inr ⟨rfl, rfl, rfl, hO⟩)).mono ?_; rintro e w7 ⟨rfl, g7⟩; have hI := g7.row hI; have hO := g7.row hO; have b1 := g7.blk b1; have b3 := g7.blk b3; have gg := gg.trans g7; have z7 := g7.size) | (refine r_binC .shl _ _ (.int .i64 1) (.int .i64 (N : Int)) (.int .i64 (M : Int)) rfl rfl (fun _ => rfl) (HSH.out _) rfl ?_) | (refine r_build 45 [(0, .tmp 47), (2, .tmp 48)] [(0, .int .i64 (M : Int)), (2, .slice pO K cO)] _ (Tryz.mbuild _ _ _ _ _) rfl rfl ?_) | ((refine r_alloc (dst := some 12) 45 _ Tryz.mzero rfl ?_; intro w9 B9 N9; have g9 := N9.gr; have b9 : Blk w9 B9 (zmC.toArray) 45 := N9.blk; have l9 := N9.lo; have t9 := N9.hi; have z9 := g9.size; have b1 := g9.blk b1; have b3 := g9.blk b3; have gg := gg.trans g9; clear N9); have hI := g9.row hI; have hO := g9.row hO) | (have n1 := own_ne hI b9 (by decide); have n2 := own_ne hO b9 (by decide); refine r_store_row 45 45 _ _ B9 rfl (mcC M (fun _ => g0) (.slice pO K cO)).toArray _ rfl b9 (Tryz.msize _ _ _) rfl (mcC_one _ _ _ rfl) rfl ?_; intro w10 u10 b90; have hI := u10.row hI n1; have hO := u10.row hO n2; have b1 := u10.blk b1 (by omega); have b3 := u10.blk b3 (by omega); have gg := u10.gr gg (by omega); have z10 := u10.size) | (refine r_fld 45 _ 0 (.pointer (some ⟨B9, 0, none⟩)) (.pointer (some ⟨B9, 0, none⟩)) rfl (Tryz.mf0 B9 _) rfl ?_) | (refine r_ldc 3 _ ⟨B9, 0, none⟩ (.int .i64 (M : Int)) rfl (Tryz.isAgg3 _) ((b90.cell 0).trans (by rw [List.getElem?_toArray]; rfl)) rfl ?_))
  rw [← HMF.out] at b90
  have lo1 : w.heap.size ≤ B1 := by omega
  have lo9 : w.heap.size ≤ B9 := by omega
  have n19 : B1 ≠ B9 := by omega
  have n39 : B3 ≠ B9 := by omega
  have n1I : w10.heap.size > GI := by omega
  go_loopw [52] (fun iv wr => ∃ k : Nat, k ≤ M ∧ iv = .int .i64 k ∧ Blk wr B9 (mcC M (mcF g I k) (.slice pO K cO)).toArray 45 ∧ Blk wr B1 zmC.toArray 45 ∧ Blk wr B3 (gv g.w g.h g.c) 42 ∧ wr.ownsRow bI 3 1 (.slice (some ⟨GI, 0, none⟩) N cI) N (intsV I) ∧ Gr w wr) (fun iv _ => M - (intOf iv).toNat)
  case atStart => exact ⟨0, Nat.zero_le _, rfl, b90, b1, b3, hI, gg⟩
  case round =>
    clear b90 b1 b3 hI hO gg
    obtain ⟨k, hk, rfl, b9, b1, b3, hI, gg⟩ := hrel
    have zr := gg.size
    by_cases hlt : k < M
    · have hk8 : k < 8 := by omega
      have n1 := own_ne hI b9 (by decide)
      have HNX := hidI (HMS.out k)
      have HWK := hidI (HW.out k (by omega) wr GI cI (by omega) (HII.out wr GI cI hI))
      obtain ⟨x, hx⟩ : ∃ x : Grid, x = ⟨g.w, g.h, wiG g (cellOf I) N k⟩ := ⟨_, rfl⟩
      have HX := hidI (show gv g.w g.h (wiG g (cellOf I) N k) = gvG x from by rw [hx]; rfl)
      rw [← hx] at HNX
      rw [HX.out] at HWK
      obtain ⟨G, hG⟩ : ∃ G, G = mcF g I k := ⟨_, rfl⟩
      rw [← hG] at HNX b9
      clear hx hG
      go_wp2_with (first | (go_at_call 39; refine (HWK.out).mono ?_; rintro e w12 ⟨rfl, g12⟩; have b1 := g12.blk b1; have b3 := g12.blk b3; have b9 := g12.blk b9; have hI := g12.row hI; have gg := gg.trans g12; have hsc := mc_cells (P := Tryz.prog) b9 hk8 x) | (refine r_load_row 42 _ _ rfl _ _ _ b3 Tryz.underlying42 rfl (Tryz.ginfo' _ _ _) rfl ?_) | (refine r_fld 45 _ 1 (.pointer (some ⟨B9, 0, none⟩)) (.pointer (some ⟨B9, 1, none⟩)) rfl (Tryz.mf1 B9 _) rfl ?_) | (refine r_idx 43 _ _ (.pointer (some ⟨B9, 1, none⟩)) (.int .i64 k) _ rfl rfl (Tryz.mix B9 k hk8 _) rfl ?_))
      obtain ⟨u13, b19⟩ := mc_store b9 hk8 x
      have b1 := u13.blk b1 n19
      have b3 := u13.blk b3 n39
      have hI := u13.row hI n1
      have gg := u13.gr gg lo9
      rw [HNX.out] at b19
      try simp only [Act.put]
      go_roundw
      case rel => exact ⟨k + 1, by omega, by go_num, b19, b1, b3, hI, gg⟩
      case measure => simp [intOf]; omega
    · obtain rfl : k = M := by omega
      clear hlt
      go_wp2_with (first | (refine r_load_row 45 (.tmp 12) _ rfl _ _ _ b9 Tryz.underlying45 rfl (Tryz.minfo _ _ _) rfl ?_) | (refine r_store_row 45 45 _ _ B1 rfl (mcC k (mcF g I k) (.slice pO K cO)).toArray _ rfl b1 (Tryz.msize _ _ _) rfl (mcC_one _ _ _ rfl) rfl ?_; intro w14 u14 b14))
      refine bodyPost_ret (results_row_bool rfl _ _ _ _ _ _ rfl b14 Tryz.underlying45 rfl (Tryz.minfo _ _ _)) rfl ⟨rfl, u14.gr gg lo1⟩
end Go.Proofs.YtcjmikafomlbiaaGreatDoor
