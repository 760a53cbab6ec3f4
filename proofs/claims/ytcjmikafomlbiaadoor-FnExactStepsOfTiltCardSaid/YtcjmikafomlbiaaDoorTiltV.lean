/-
  A tray and a direction read: in the program and in the model; and a tray tilted, with the law.
-/
import Derived.Test.YtcjmikafomlbiaaDoorBTq
import Derived.Test.YtcjmikafomlbiaaDoorBWd
namespace Go.Proofs.YtcjmikafomlbiaaDoor
open Go.RowKit
def dtOk (l : List UInt8) (dir : ByteArray) : Bool := rdOk l && dirOk dir
theorem dt_cases (l : List UInt8) (dir : ByteArray) : (dtOk l dir = false) ∨ ∃ g d, parse l = some g ∧ rdG l = g ∧ rdOk l = true ∧ d < 4 ∧ dir = ⟨#[dB d]⟩ ∧ dS dir = ((d : Nat) : Int) ∧ dirOk dir = true ∧ dtOk l dir = true := by
  unfold dtOk
  rcases rd_cases l with ⟨_, _, hk⟩ | ⟨g, hp, hg, hk⟩
  · left; rw [hk]; rfl
  · cases hd : dirOk dir
    · left; rw [Bool.and_false]
    · obtain ⟨d, h4, e1, e2⟩ := dir_yes hd
      exact .inr ⟨g, d, hp, hg, hk, h4, e1, e2, rfl, by rw [hk]; rfl⟩
theorem cel_of {l : List UInt8} {g : Grid} (h : parse l = some g) : Cel g ∧ 1 ≤ g.w ∧ 1 ≤ g.h ∧ 0 < g.c.length := by
  have ht := parse_tray h
  exact ⟨⟨ht.w7, ht.h7, ht.n36, ht.len, ht.cells⟩, ht.w1, ht.h1, by rw [ht.len]; exact Nat.mul_pos ht.w1 ht.h1⟩
theorem results_row_two {P : Program} {fn : Func} {p q r : Tmp} {T : TypeId} (h : fn.results = #[.cell p T, .tmp q, .tmp r]) (tmps : Array Value) (w : World) (B : Nat) (t : TypeId) (cs : Array Value) (d : TypeDesc)
    (hp : tmps.getD p undef = .pointer (some ⟨B, 0, none⟩)) (hg : Blk w B cs t)
    (hu : P.underlying T = some d) (hd : (match d with | .struct _ | .array _ _ => true | _ => false) = true) (hi : (P.info? T).map (·.size) = some cs.size) :
    (results fn tmps).run P w = .ok (.tuple #[.agg cs, tmps.getD q undef, tmps.getD r undef]) w := by
  have hp' : tmps[p]?.getD undef = .pointer (some ⟨B, 0, none⟩) := by simpa using hp
  simp [results, h, hp', asAddr, run_loadVar_row w B t T cs (0, 0) d hg hu hd hi]
set_option maxHeartbeats 1000000 in
set_option maxRecDepth 100000 in
theorem readTilt_yes (s dir : ByteArray) (g : Grid) (d : Nat) (w : World) (hm : ML w) (hs : s.size ≤ 1048576) (hg : rdG s.data.toList = g) (hk : rdOk s.data.toList = true) (hd : dir = ⟨#[dB d]⟩) (hdo : dirOk dir = true) :
    Calls Tryd.prog 34 #[.string s, .string dir] w (Ret (.tuple #[.agg (gvG g), .int .u8 (dB d).toNat, .bool true]) w) := by
  have gg := Gr.refl w
  have HG := hidI hg
  have HK := hidI hk
  have HDO := hidI hdo
  subst hd
  clear hg hk hdo
  generalize dB d = b at *
  go_enter Tryd.func34, Tryd.ntmps34
  go_wp2_with (first | (refine r_alloc (dst := some 4) 38 _ Tryd.gzero rfl ?_; intro w1 B1 N1; have g1 := N1.gr; have b1 : Blk w1 B1 (gv 0 0 []) 38 := N1.blk; have l1 := N1.lo; have t1 := N1.hi; have z1 := g1.size; have gg := gg.trans g1; clear N1; obtain ⟨b1_0, b1_1, b1_2⟩ := gcells b1) | (go_at_call 38; refine (readTray_any s _ (gg.ml hm) hs).mono ?_; rintro e w2 ⟨rfl, g2⟩; rw [HK.out, HG.out, gvG]; have z2 := g2.size; have b1 := g2.blk b1; have gg := gg.trans g2) | (refine r_alloc (dst := some 7) 38 _ Tryd.gzero rfl ?_; intro w3 B3 N3; have g3 := N3.gr; have b3 : Blk w3 B3 (gv 0 0 []) 38 := N3.blk; have l3 := N3.lo; have t3 := N3.hi; have z3 := g3.size; have b1 := g3.blk b1; have gg := gg.trans g3; clear N3; obtain ⟨b3_0, b3_1, b3_2⟩ := gcells b3) | (refine r_store_row 38 38 _ _ _ rfl (gv g.w g.h g.c) _ rfl b3 (Tryd.gsize' _ _ _) (by simp only [gv_size]) (gv_one _ _ _) rfl ?_; intro w4 u4 b3'; have z4 := u4.size; have gg := u4.gr gg (by omega); have b1 := u4.blk b1 (by omega); clear b3; have b3 := b3'; clear b3'; obtain ⟨b3_0, b3_1, b3_2⟩ := gcells b3) | (go_at_call 26; refine (isDirection_any _ _).mono ?_; rintro e wSame ⟨rfl, rfl⟩; rw [HDO.out]))
  have gd := (Gr.refl w4).drew
  have b1 := gd.blk b1
  have b3 := gd.blk b3
  have gg := gg.trans gd
  have zd := gd.size
  have hB13 : B1 ≠ B3 := by omega
  have lo1 : w.heap.size ≤ B1 := by omega
  refine F_begin (fun w => Blk w B3 (gv g.w g.h g.c) 38) 3 6 #[false, false, false, false, false, false] rfl (by kernel_rfl) (by kernel_rfl) ?_
  generalize w4.drew = wd at *
  refine F_take (v := .agg (gv g.w g.h g.c)) 0 #[true, false, false, false, false, false] rfl (by kernel_rfl) (fun _ _ _ h => h) rfl (fun w hF => e_load_row 38 (.tmp 7) B3 _ _ _ rfl hF Tryd.underlying38 rfl (Tryd.ginfo' _ _ _)) (b3) ?_; simp only [Act.put, List.setIfInBounds_toArray, List.set_cons_succ, List.set_cons_zero]
  refine F_free (v := .string ⟨#[b]⟩) 1 #[true, true, false, false, false, false] rfl (by kernel_rfl) (fun _ _ _ h => h) rfl (fun _ => rfl) (b3) ?_; simp only [Act.put, List.setIfInBounds_toArray, List.set_cons_succ, List.set_cons_zero]
  refine F_free (v := .int .u8 b.toNat) 2 #[true, true, true, false, false, false] rfl (by kernel_rfl) (fun _ _ _ h => h) rfl (fun _ => e_val _ _ (s_idx0 Tryd.underlying9 b _)) (b3) ?_; simp only [Act.put, List.setIfInBounds_toArray, List.set_cons_succ, List.set_cons_zero]
  refine F_one 3 #[true, true, true, true, false, false] rfl (by kernel_rfl) ?_
  refine r_store_row 38 38 _ _ B1 rfl (gv g.w g.h g.c) _ rfl b1 (Tryd.gsize' _ _ _) (by simp only [gv_size]) (gv_one _ _ _) rfl ?_
  intro w6 u6 b16
  simp only [Act.put]
  refine ⟨fun h => (by cases h), ?_⟩
  refine F_one 4 #[true, true, true, true, true, false] rfl (by kernel_rfl) ?_
  refine r_val (.int .u8 b.toNat) rfl rfl ?_
  simp only [Act.put, List.setIfInBounds_toArray, List.set_cons_succ, List.set_cons_zero]
  refine ⟨fun h => (by cases h), ?_⟩
  refine F_one 5 #[true, true, true, true, true, true] rfl (by kernel_rfl) ?_
  refine r_val (.bool true) rfl rfl ?_
  simp only [Act.put, List.setIfInBounds_toArray, List.set_cons_succ, List.set_cons_zero]
  refine ⟨fun h => (by cases h), ?_⟩
  refine F_done (by kernel_rfl) ?_
  go_wp2
  refine bodyPost_ret (results_row_two rfl _ _ _ _ _ _ rfl b16 Tryd.underlying38 rfl (Tryd.ginfo' _ _ _)) rfl ⟨rfl, u6.gr gg lo1⟩
set_option maxHeartbeats 1000000 in
set_option maxRecDepth 100000 in
theorem readTilt_no (s dir : ByteArray) (w : World) (hm : ML w) (hs : s.size ≤ 1048576) (hk : dtOk s.data.toList dir = false) :
    Calls Tryd.prog 34 #[.string s, .string dir] w (Ret (.tuple #[.agg (gv 0 0 []), .int .u8 0, .bool false]) w) := by
  have gg := Gr.refl w
  obtain ⟨g, hg⟩ : ∃ g, rdG s.data.toList = g := ⟨_, rfl⟩
  have HG := hidI hg
  unfold dtOk at hk
  clear hg
  by_cases h1 : rdOk s.data.toList = true
  · have hd : dirOk dir = false := by rw [h1, Bool.true_and] at hk; exact hk
    have HK := hidI h1
    have HDO := hidI hd
    clear hk h1 hd
    go_enter Tryd.func34, Tryd.ntmps34
    go_wp2_with (first | (refine r_alloc (dst := some 4) 38 _ Tryd.gzero rfl ?_; intro w1 B1 N1; have g1 := N1.gr; have b1 : Blk w1 B1 (gv 0 0 []) 38 := N1.blk; have l1 := N1.lo; have t1 := N1.hi; have z1 := g1.size; have gg := gg.trans g1; clear N1; obtain ⟨b1_0, b1_1, b1_2⟩ := gcells b1) | (go_at_call 38; refine (readTray_any s _ (gg.ml hm) hs).mono ?_; rintro e w2 ⟨rfl, g2⟩; rw [HK.out, HG.out, gvG]; have z2 := g2.size; have b1 := g2.blk b1; have gg := gg.trans g2) | (refine r_alloc (dst := some 7) 38 _ Tryd.gzero rfl ?_; intro w3 B3 N3; have g3 := N3.gr; have b3 : Blk w3 B3 (gv 0 0 []) 38 := N3.blk; have l3 := N3.lo; have t3 := N3.hi; have z3 := g3.size; have b1 := g3.blk b1; have gg := gg.trans g3; clear N3; obtain ⟨b3_0, b3_1, b3_2⟩ := gcells b3) | (refine r_store_row 38 38 _ _ _ rfl (gv g.w g.h g.c) _ rfl b3 (Tryd.gsize' _ _ _) (by simp only [gv_size]) (gv_one _ _ _) rfl ?_; intro w4 u4 b3'; have z4 := u4.size; have gg := u4.gr gg (by omega); have b1 := u4.blk b1 (by omega); clear b3; have b3 := b3'; clear b3'; obtain ⟨b3_0, b3_1, b3_2⟩ := gcells b3) | (go_at_call 26; refine (isDirection_any _ _).mono ?_; rintro e wSame ⟨rfl, rfl⟩; rw [HDO.out]) | (refine r_build 38 [] [] _ (Tryd.gbuild0 _) rfl rfl ?_) | (refine r_store_row 38 38 _ _ _ rfl (gv 0 0 []) _ rfl b1 (Tryd.gsize' _ _ _) (by simp only [gv_size]) (gv_one _ _ _) rfl ?_; intro w6 u6 b1'; have z6 := u6.size; have gg := u6.gr gg (by omega); clear b1; have b1 := b1'; clear b1'; obtain ⟨b1_0, b1_1, b1_2⟩ := gcells b1))
    refine bodyPost_ret (results_row_two rfl _ _ _ _ _ _ rfl b1 Tryd.underlying38 rfl (Tryd.ginfo' _ _ _)) rfl ⟨rfl, gg⟩
  · have HK := hidI (show rdOk s.data.toList = false from by simpa using h1)
    clear hk h1
    go_enter Tryd.func34, Tryd.ntmps34
    go_wp2_with (first | (refine r_alloc (dst := some 4) 38 _ Tryd.gzero rfl ?_; intro w1 B1 N1; have g1 := N1.gr; have b1 : Blk w1 B1 (gv 0 0 []) 38 := N1.blk; have l1 := N1.lo; have t1 := N1.hi; have z1 := g1.size; have gg := gg.trans g1; clear N1; obtain ⟨b1_0, b1_1, b1_2⟩ := gcells b1) | (go_at_call 38; refine (readTray_any s _ (gg.ml hm) hs).mono ?_; rintro e w2 ⟨rfl, g2⟩; rw [HK.out, HG.out, gvG]; have z2 := g2.size; have b1 := g2.blk b1; have gg := gg.trans g2) | (refine r_alloc (dst := some 7) 38 _ Tryd.gzero rfl ?_; intro w3 B3 N3; have g3 := N3.gr; have b3 : Blk w3 B3 (gv 0 0 []) 38 := N3.blk; have l3 := N3.lo; have t3 := N3.hi; have z3 := g3.size; have b1 := g3.blk b1; have gg := gg.trans g3; clear N3; obtain ⟨b3_0, b3_1, b3_2⟩ := gcells b3) | (refine r_store_row 38 38 _ _ _ rfl (gv g.w g.h g.c) _ rfl b3 (Tryd.gsize' _ _ _) (by simp only [gv_size]) (gv_one _ _ _) rfl ?_; intro w4 u4 b3'; have z4 := u4.size; have gg := u4.gr gg (by omega); have b1 := u4.blk b1 (by omega); clear b3; have b3 := b3'; clear b3'; obtain ⟨b3_0, b3_1, b3_2⟩ := gcells b3) | (refine r_build 38 [] [] _ (Tryd.gbuild0 _) rfl rfl ?_) | (refine r_store_row 38 38 _ _ _ rfl (gv 0 0 []) _ rfl b1 (Tryd.gsize' _ _ _) (by simp only [gv_size]) (gv_one _ _ _) rfl ?_; intro w6 u6 b1'; have z6 := u6.size; have gg := u6.gr gg (by omega); clear b1; have b1 := b1'; clear b1'; obtain ⟨b1_0, b1_1, b1_2⟩ := gcells b1))
    refine bodyPost_ret (results_row_two rfl _ _ _ _ _ _ rfl b1 Tryd.underlying38 rfl (Tryd.ginfo' _ _ _)) rfl ⟨rfl, gg⟩
/-- What the model's reader of a tray and a direction leaves. -/
def RetTi (T : TypeId) (l : List UInt8) (dir : ByteArray) (w : World) (e : Ending) (w' : World) : Prop :=
  Gr w w' ∧ ((dtOk l dir = false ∧ ∃ W H sl x, sl.oneCell' = true ∧ e = .returned (.tuple #[.agg (tg W H sl), .int .i64 x, .bool false])) ∨
    ∃ (g : Grid) (sl : Value) (d : Nat), parse l = some g ∧ d < 4 ∧ dir = ⟨#[dB d]⟩ ∧ dtOk l dir = true ∧ e = .returned (.tuple #[.agg (tg g.w g.h sl), .int .i64 d, .bool true]) ∧ w'.ownsRow w.heap.size T 1 sl g.c.length (cellsV g.c))
set_option maxHeartbeats 1000000 in
set_option maxRecDepth 100000 in
theorem tiRead_any (s dir : ByteArray) (w : World) (hs : s.size ≤ 1048576) : Calls Tryd.prog 30 #[.string s, .string dir] w (RetTi 5 s.data.toList dir w) := by
  have gg := Gr.refl w
  go_enter Tryd.func30, Tryd.ntmps30
  go_wp2_with (refine r_alloc (dst := some 4) 31 _ Tryd.tzero rfl ?_; intro w1 B1 N1; have g1 := N1.gr; have b1 : Blk w1 B1 (tg 0 0 (.slice none 0 0)) 31 := N1.blk; have l1 := N1.lo; have t1 := N1.hi; have z1 := g1.size; have gg := gg.trans g1; clear N1; obtain ⟨b1_0, b1_1, b1_2⟩ := tcells b1)
  refine (tyRead_any s _ hs).mono ?_
  rintro e w2 ⟨g2, ⟨hp, rfl⟩ | ⟨g, sl, hp, rfl, hown⟩⟩
  · have HN := hidI (show dtOk s.data.toList dir = false from by unfold dtOk; rw [(rd_parse_none hp).2]; rfl)
    have z2 := g2.size
    have b1 := g2.blk b1
    have gg := gg.trans g2
    clear hp
    go_wp2_with (first | (refine r_alloc (dst := some 7) 31 _ Tryd.tzero rfl ?_; intro w3 B3 N3; have g3 := N3.gr; have b3 : Blk w3 B3 (tg 0 0 (.slice none 0 0)) 31 := N3.blk; have l3 := N3.lo; have t3 := N3.hi; have z3 := g3.size; have b1 := g3.blk b1; obtain ⟨b1_0, b1_1, b1_2⟩ := tcells b1; have gg := gg.trans g3; clear N3; obtain ⟨b3_0, b3_1, b3_2⟩ := tcells b3) | (refine r_store_row 31 31 _ _ _ rfl (tg _ _ _) _ rfl b3 Tryd.tsize rfl (tg_one rfl) rfl ?_; intro w4 u4 b3'; have z4 := u4.size; have gg := u4.gr gg (by omega); have b1 := u4.blk b1 (by omega); obtain ⟨b1_0, b1_1, b1_2⟩ := tcells b1; clear b3; have b3 := b3'; clear b3'; obtain ⟨b3_0, b3_1, b3_2⟩ := tcells b3) | (go_at_call 24; refine (tiDir_any dir _).mono ?_; rintro e w5 ⟨rfl, g5⟩; have z5 := g5.size; have b1 := g5.blk b1; obtain ⟨b1_0, b1_1, b1_2⟩ := tcells b1; have b3 := g5.blk b3; obtain ⟨b3_0, b3_1, b3_2⟩ := tcells b3; have gg := gg.trans g5) | (refine r_load_row 31 _ _ rfl _ _ _ b3 Tryd.underlying31 rfl Tryd.tinfo rfl ?_) | (refine r_store_row 31 31 _ _ _ rfl (tg _ _ _) _ rfl b1 Tryd.tsize rfl (tg_one rfl) rfl ?_; intro w6 u6 b1'; have z6 := u6.size; have gg := u6.gr gg (by omega); clear b1; have b1 := b1'; clear b1'; obtain ⟨b1_0, b1_1, b1_2⟩ := tcells b1))
    refine bodyPost_ret (results_row_two rfl _ _ _ _ _ _ rfl b1 Tryd.underlying31 rfl Tryd.tinfo) rfl ⟨gg, .inl ⟨HN.out, _, _, _, _, rfl, rfl⟩⟩
  · have z2 := g2.size
    have b1 := g2.blk b1
    have gg := gg.trans g2
    have hone := own_one hown
    have lo1 : w.heap.size ≤ B1 := by omega
    have hHP := hidI hp
    have hk := (rd_parse_some hp).2
    cases hd : dirOk dir
    · have HN := hidI (show dtOk s.data.toList dir = false from by unfold dtOk; rw [hd, Bool.and_false])
      have hneg := dir_no hd
      have hng : ¬ (0 : Int) ≤ dS dir := by omega
      have hdd : decide ((0 : Int) ≤ dS dir) = false := decide_eq_false hng
      clear hp hk hd
      go_wp2_with (first | (refine r_alloc (dst := some 7) 31 _ Tryd.tzero rfl ?_; intro w3 B3 N3; have g3 := N3.gr; have b3 : Blk w3 B3 (tg 0 0 (.slice none 0 0)) 31 := N3.blk; have l3 := N3.lo; have t3 := N3.hi; have z3 := g3.size; have b1 := g3.blk b1; obtain ⟨b1_0, b1_1, b1_2⟩ := tcells b1; have gg := gg.trans g3; clear N3; obtain ⟨b3_0, b3_1, b3_2⟩ := tcells b3) | (refine r_store_row 31 31 _ _ _ rfl (tg _ _ _) _ rfl b3 Tryd.tsize rfl (tg_one hone) rfl ?_; intro w4 u4 b3'; have z4 := u4.size; have gg := u4.gr gg (by omega); have b1 := u4.blk b1 (by omega); obtain ⟨b1_0, b1_1, b1_2⟩ := tcells b1; clear b3; have b3 := b3'; clear b3'; obtain ⟨b3_0, b3_1, b3_2⟩ := tcells b3) | (go_at_call 24; refine (tiDir_any dir _).mono ?_; rintro e w5 ⟨rfl, g5⟩; have z5 := g5.size; have b1 := g5.blk b1; obtain ⟨b1_0, b1_1, b1_2⟩ := tcells b1; have b3 := g5.blk b3; obtain ⟨b3_0, b3_1, b3_2⟩ := tcells b3; have gg := gg.trans g5) | (refine r_load_row 31 _ _ rfl _ _ _ b3 Tryd.underlying31 rfl Tryd.tinfo rfl ?_) | (refine r_store_row 31 31 _ _ B1 rfl (tg g.w g.h sl) _ rfl b1 Tryd.tsize rfl (tg_one hone) rfl ?_; intro w6 u6 b16))
      refine bodyPost_ret (results_row_two rfl _ _ _ _ _ _ rfl b16 Tryd.underlying31 rfl Tryd.tinfo) rfl ⟨u6.gr gg lo1, .inl ⟨HN.out, _, _, _, _, hone, rfl⟩⟩
    · obtain ⟨d, h4, e1, e2⟩ := dir_yes hd
      have HD := hidI e2
      have HE := hidI e1
      have HY := hidI (show dtOk s.data.toList dir = true from by unfold dtOk; rw [hd, hk]; rfl)
      have hd0 : (0 : Int) ≤ (d : Int) := by omega
      have hn1 : ¬ ((d : Int) < 0) := by omega
      clear hp hk hd e1 e2
      go_wp2_with (first | (refine r_alloc (dst := some 7) 31 _ Tryd.tzero rfl ?_; intro w3 B3 N3; have g3 := N3.gr; have b3 : Blk w3 B3 (tg 0 0 (.slice none 0 0)) 31 := N3.blk; have l3 := N3.lo; have t3 := N3.hi; have z3 := g3.size; have b1 := g3.blk b1; obtain ⟨b1_0, b1_1, b1_2⟩ := tcells b1; have gg := gg.trans g3; clear N3; obtain ⟨b3_0, b3_1, b3_2⟩ := tcells b3) | (refine r_store_row 31 31 _ _ _ rfl (tg _ _ _) _ rfl b3 Tryd.tsize rfl (tg_one hone) rfl ?_; intro w4 u4 b3'; have z4 := u4.size; have gg := u4.gr gg (by omega); have b1 := u4.blk b1 (by omega); obtain ⟨b1_0, b1_1, b1_2⟩ := tcells b1; clear b3; have b3 := b3'; clear b3'; obtain ⟨b3_0, b3_1, b3_2⟩ := tcells b3) | (go_at_call 24; refine (tiDir_any dir _).mono ?_; rintro e w5 ⟨rfl, g5⟩; rw [HD.out]; have z5 := g5.size; have b1 := g5.blk b1; obtain ⟨b1_0, b1_1, b1_2⟩ := tcells b1; have b3 := g5.blk b3; obtain ⟨b3_0, b3_1, b3_2⟩ := tcells b3; have gg := gg.trans g5) | (refine r_load_row 31 _ _ rfl _ _ _ b3 Tryd.underlying31 rfl Tryd.tinfo rfl ?_) | (refine r_store_row 31 31 _ _ B1 rfl (tg g.w g.h sl) _ rfl b1 Tryd.tsize rfl (tg_one hone) rfl ?_; intro w6 u6 b16))
      refine bodyPost_ret (results_row_two rfl _ _ _ _ _ _ rfl b16 Tryd.underlying31 rfl Tryd.tinfo) rfl ⟨u6.gr gg lo1, .inr ⟨g, sl, d, hHP.out, h4, HE.out, HY.out, rfl, ?_⟩⟩
      have h5 := g5.row (u4.row (g3.row hown) (own_new hown l3))
      exact own_up (u6.row h5 (own_ne h5 b1 (by decide))) (by omega)
/-- The text of a tray tilted. -/
def ttG (l : List UInt8) (dir : ByteArray) : Grid := tiltG (dS dir).toNat (rdG l)
def ttB (l : List UInt8) (dir : ByteArray) : ByteArray := if dtOk l dir then txtG (ttG l dir) else ⟨#[]⟩
theorem one_word {w w' : World} {B : Nat} {d : Nat} {e : TypeId} (h : New w w' B #[.int .u8 (dB d).toNat] e) : WordAt w' (.slice (some ⟨B, 0, none⟩) 1 1) [d] :=
  ⟨_, 1, rfl, fun j hj => by
    obtain rfl : j = 0 := by simpa using hj
    exact ⟨B, 0, rfl, Blk.cell h.blk 0⟩⟩
end Go.Proofs.YtcjmikafomlbiaaDoor
