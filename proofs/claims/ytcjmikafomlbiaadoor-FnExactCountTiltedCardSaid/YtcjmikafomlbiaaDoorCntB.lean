/-
  Trays without balls and with room for so many: in the program and in the model, and the law of CountStates.
-/
import Derived.Test.YtcjmikafomlbiaaDoorCntA
import Derived.Test.YtcjmikafomlbiaaDoorTiltW
import Derived.Test.YtcjmikafomlbiaaDoorBLs
namespace Go.Proofs.YtcjmikafomlbiaaDoor
open Go.RowKit
/-- How many balls a grid has, and how many free cells. -/
def nbN (g : Grid) : Nat := (ballsTo isBallB g.c (nn g.w g.h)).length
def frN (g : Grid) : Nat := cnt g.c 46 (nn g.w g.h)
def brOk (l : List UInt8) : Bool := rdOk l && decide (nbN (rdG l) = 0)
def rmOk (l : List UInt8) (b : Int) : Bool := brOk l && btw b 0 (frN (rdG l))
def rmG (l : List UInt8) (b : Int) : Grid := if rmOk l b then rdG l else ⟨0, 0, []⟩
theorem frN_le {l : List UInt8} {g : Grid} (hp : parse l = some g) : frN g ≤ 36 := Nat.le_trans (cnt_le _ _ _) (parse_tray hp).n36
theorem rm_cases (l : List UInt8) (b : Int) : (rmOk l b = false ∧ rmG l b = ⟨0, 0, []⟩ ∧ (rdOk l = false ∨ ∃ g, parse l = some g ∧ rdG l = g ∧ rdOk l = true ∧ (0 < nbN g ∨ (nbN g = 0 ∧ b < 0) ∨ (nbN g = 0 ∧ 0 ≤ b ∧ (frN g : Int) < b)))) ∨
    ∃ (g : Grid) (n : Nat), parse l = some g ∧ rdG l = g ∧ rdOk l = true ∧ nbN g = 0 ∧ b = n ∧ n ≤ frN g ∧ rmOk l b = true ∧ rmG l b = g := by
  cases hr : rmOk l b
  · refine .inl ⟨rfl, by unfold rmG; rw [hr]; rfl, ?_⟩
    rcases rd_cases l with ⟨_, _, hk⟩ | ⟨g, hp, hg, hk⟩
    · exact .inl hk
    · refine .inr ⟨g, hp, hg, hk, ?_⟩
      unfold rmOk brOk at hr
      rw [hk, hg, Bool.true_and] at hr
      unfold btw at hr
      simp at hr
      by_cases h0 : nbN g = 0
      · have := hr h0
        by_cases hb : b < 0
        · exact .inr (.inl ⟨h0, hb⟩)
        · exact .inr (.inr ⟨h0, by omega, this (by omega)⟩)
      · exact .inl (by omega)
  · have hr' := hr
    unfold rmOk brOk at hr
    rw [Bool.and_eq_true, Bool.and_eq_true, decide_eq_true_eq] at hr
    obtain ⟨⟨hk, h0⟩, hb⟩ := hr
    rcases rd_cases l with ⟨_, _, hk'⟩ | ⟨g, hp, hg, -⟩
    · rw [hk'] at hk; cases hk
    · unfold btw at hb
      rw [hg] at hb h0
      rw [Bool.and_eq_true, decide_eq_true_eq, decide_eq_true_eq] at hb
      exact .inr ⟨g, b.toNat, hp, hg, hk, h0, by omega, by omega, rfl, by unfold rmG; rw [hr', hg]; rfl⟩
theorem balls_same {l : List UInt8} {g : Grid} (hp : parse l = some g) : (ballsTo ballB g.c (nn g.w g.h)).length = nbN g := by
  have ht := parse_tray hp
  unfold nbN
  rw [ballsTo_congr _ fun i hi => ball_cell (ht.cells i (by rw [ht.len]; exact hi))]
set_option maxHeartbeats 1000000 in
set_option maxRecDepth 100000 in
theorem readRoom_any (s : ByteArray) (b : Int) (w : World) (hm : ML w) (hs : s.size ≤ 1048576) :
    Calls Tryd.prog 21 #[.string s, .int .i64 b] w (Ret (.tuple #[.agg (gvG (rmG s.data.toList b)), .bool (rmOk s.data.toList b)]) w) := by
  have gg := Gr.refl w
  rcases rm_cases s.data.toList b with ⟨hr, hG, hk | ⟨g, hp, hg, hk, hc⟩⟩ | ⟨g, n, hp, hg, hk, h0, rfl, hn, hr, hG⟩
  · rw [hr, hG]
    have HK := hidI hk
    have HG := hidI (show rdG s.data.toList = ⟨0, 0, []⟩ from by
      rcases rd_cases s.data.toList with ⟨_, h, _⟩ | ⟨g, _, _, h⟩
      · exact h
      · rw [hk] at h; cases h)
    clear hr hG hk
    go_enter Tryd.func21, Tryd.ntmps21
    go_wp2_with (first | (refine r_alloc (dst := some 4) 38 _ Tryd.gzero rfl ?_; intro w1 B1 N1; have g1 := N1.gr; have b1 : Blk w1 B1 (gv 0 0 []) 38 := N1.blk; have l1 := N1.lo; have t1 := N1.hi; have z1 := g1.size; have gg := gg.trans g1; clear N1; obtain ⟨b1_0, b1_1, b1_2⟩ := gcells b1) | (go_at_call 38; refine (readTray_any s _ (gg.ml hm) hs).mono ?_; rintro e w2 ⟨rfl, g2⟩; rw [HK.out, HG.out, gvG]; have z2 := g2.size; have b1 := g2.blk b1; have gg := gg.trans g2) | (refine r_alloc (dst := some 6) 38 _ Tryd.gzero rfl ?_; intro w3 B3 N3; have g3 := N3.gr; have b3 : Blk w3 B3 (gv 0 0 []) 38 := N3.blk; have l3 := N3.lo; have t3 := N3.hi; have z3 := g3.size; have b1 := g3.blk b1; have gg := gg.trans g3; clear N3; obtain ⟨b3_0, b3_1, b3_2⟩ := gcells b3) | (refine r_store_row 38 38 _ _ _ rfl (gv 0 0 []) _ rfl b3 (Tryd.gsize' _ _ _) (by simp only [gv_size]) (gv_one _ _ _) rfl ?_; intro w4 u4 b3'; have z4 := u4.size; have gg := u4.gr gg (by omega); have b1 := u4.blk b1 (by omega); clear b3; have b3 := b3'; clear b3'; obtain ⟨b3_0, b3_1, b3_2⟩ := gcells b3) | (refine r_build 38 [] [] _ (Tryd.gbuild0 _) rfl rfl ?_) | (refine r_store_row 38 38 _ _ _ rfl (gv 0 0 []) _ rfl b1 (Tryd.gsize' _ _ _) (by simp only [gv_size]) (gv_one _ _ _) rfl ?_; intro w6 u6 b1'; have z6 := u6.size; have gg := u6.gr gg (by omega); clear b1; have b1 := b1'; clear b1'; obtain ⟨b1_0, b1_1, b1_2⟩ := gcells b1))
    refine bodyPost_ret (results_row_bool rfl _ _ _ _ _ _ rfl b1 Tryd.underlying38 rfl (Tryd.ginfo' _ _ _)) rfl ⟨?_, gg⟩
    rfl
  · have ht := parse_tray hp
    have w7 := ht.w7
    have h7 := ht.h7
    have n36 := ht.n36
    have HB := hidI (fun w => show Calls Tryd.prog 39 #[.agg (gv g.w g.h g.c)] w (fun e w' => Gr w w' ∧ ∃ p k, e = .returned (.slice p (nbN g) k)) from (ballsIn_any g.w g.h g.c w w7 h7 n36).mono fun e w' ⟨g1, v, he, ho⟩ => by
      obtain ⟨p, m, k, rfl⟩ := own_slice ho
      obtain rfl := own_len ho
      exact ⟨g1, p, k, by rw [he, balls_same hp]⟩)
    have HC := hidI (fun w => show Calls Tryd.prog 23 #[.agg (gv g.w g.h g.c), .int .u8 46] w (Ret (.int .i64 (frN g : Nat)) w) from countByte_any g.w g.h g.c 46 w w7 h7 n36)
    rw [hr, hG]
    have HK := hidI hk
    have HG := hidI hg
    obtain ⟨F, hF⟩ : ∃ F, F = frN g := ⟨_, rfl⟩
    obtain ⟨N, hN⟩ : ∃ N, N = nbN g := ⟨_, rfl⟩
    rw [← hF] at hc HC
    rw [← hN] at hc HB
    clear hr hG hk hg hp ht hF hN
    rcases hc with h1 | ⟨rfl, h1⟩ | ⟨rfl, h1, h2⟩
    case' inr.inr => have hb0 : decide (b < 0) = false := decide_eq_false (by omega)
    all_goals
      go_enter Tryd.func21, Tryd.ntmps21
      go_wp2_with (first | (refine r_alloc (dst := some 4) 38 _ Tryd.gzero rfl ?_; intro w1 B1 N1; have g1 := N1.gr; have b1 : Blk w1 B1 (gv 0 0 []) 38 := N1.blk; have l1 := N1.lo; have t1 := N1.hi; have z1 := g1.size; have gg := gg.trans g1; clear N1; obtain ⟨b1_0, b1_1, b1_2⟩ := gcells b1) | (go_at_call 38; refine (readTray_any s _ (gg.ml hm) hs).mono ?_; rintro e w2 ⟨rfl, g2⟩; rw [HK.out, HG.out, gvG]; have z2 := g2.size; have b1 := g2.blk b1; have gg := gg.trans g2) | (refine r_alloc (dst := some 6) 38 _ Tryd.gzero rfl ?_; intro w3 B3 N3; have g3 := N3.gr; have b3 : Blk w3 B3 (gv 0 0 []) 38 := N3.blk; have l3 := N3.lo; have t3 := N3.hi; have z3 := g3.size; have b1 := g3.blk b1; have gg := gg.trans g3; clear N3; obtain ⟨b3_0, b3_1, b3_2⟩ := gcells b3) | (refine r_store_row 38 38 _ _ _ rfl (gv g.w g.h g.c) _ rfl b3 (Tryd.gsize' _ _ _) (by simp only [gv_size]) (gv_one _ _ _) rfl ?_; intro w4 u4 b3'; have z4 := u4.size; have gg := u4.gr gg (by omega); have b1 := u4.blk b1 (by omega); clear b3; have b3 := b3'; clear b3'; obtain ⟨b3_0, b3_1, b3_2⟩ := gcells b3) | (refine r_load_row 38 _ _ rfl _ _ _ b3 Tryd.underlying38 rfl (Tryd.ginfo' _ _ _) rfl ?_) | (go_at_call 39; refine (HB.out _).mono ?_; rintro e w5 ⟨g5, p5, k5, rfl⟩; have z5 := g5.size; have b1 := g5.blk b1; have b3 := g5.blk b3; have gg := gg.trans g5) | (go_at_call 23; refine (HC.out _).mono ?_; rintro e w6 ⟨rfl, g6⟩; have z6 := g6.size; have b1 := g6.blk b1; have b3 := g6.blk b3; have gg := gg.trans g6) | (refine r_build 38 [] [] _ (Tryd.gbuild0 _) rfl rfl ?_) | (refine r_store_row 38 38 _ _ _ rfl (gv 0 0 []) _ rfl b1 (Tryd.gsize' _ _ _) (by simp only [gv_size]) (gv_one _ _ _) rfl ?_; intro w7 u7 b1'; have z7 := u7.size; have gg := u7.gr gg (by omega); clear b1; have b1 := b1'; clear b1'; obtain ⟨b1_0, b1_1, b1_2⟩ := gcells b1))
      refine bodyPost_ret (results_row_bool rfl _ _ _ _ _ _ rfl b1 Tryd.underlying38 rfl (Tryd.ginfo' _ _ _)) rfl ⟨?_, gg⟩
      rfl
  · have ht := parse_tray hp
    have w7 := ht.w7
    have h7 := ht.h7
    have n36 := ht.n36
    have HB := hidI (fun w => show Calls Tryd.prog 39 #[.agg (gv g.w g.h g.c)] w (fun e w' => Gr w w' ∧ ∃ p k, e = .returned (.slice p (0 : Nat) k)) from (ballsIn_any g.w g.h g.c w w7 h7 n36).mono fun e w' ⟨g1, v, he, ho⟩ => by
      obtain ⟨p, m, k, rfl⟩ := own_slice ho
      obtain rfl := own_len ho
      exact ⟨g1, p, k, by rw [he, balls_same hp, h0]⟩)
    have HC := hidI (fun w => show Calls Tryd.prog 23 #[.agg (gv g.w g.h g.c), .int .u8 46] w (Ret (.int .i64 (frN g : Nat)) w) from countByte_any g.w g.h g.c 46 w w7 h7 n36)
    rw [hr, hG]
    have HK := hidI hk
    have HG := hidI hg
    obtain ⟨F, hF⟩ : ∃ F, F = frN g := ⟨_, rfl⟩
    rw [← hF] at hn HC
    clear hr hG hk hg hp ht hF h0
    have hn' : ¬ (F : Int) < (n : Int) := by omega
    go_enter Tryd.func21, Tryd.ntmps21
    go_wp2_with (first | (refine r_alloc (dst := some 4) 38 _ Tryd.gzero rfl ?_; intro w1 B1 N1; have g1 := N1.gr; have b1 : Blk w1 B1 (gv 0 0 []) 38 := N1.blk; have l1 := N1.lo; have t1 := N1.hi; have z1 := g1.size; have gg := gg.trans g1; clear N1; obtain ⟨b1_0, b1_1, b1_2⟩ := gcells b1) | (go_at_call 38; refine (readTray_any s _ (gg.ml hm) hs).mono ?_; rintro e w2 ⟨rfl, g2⟩; rw [HK.out, HG.out, gvG]; have z2 := g2.size; have b1 := g2.blk b1; have gg := gg.trans g2) | (refine r_alloc (dst := some 6) 38 _ Tryd.gzero rfl ?_; intro w3 B3 N3; have g3 := N3.gr; have b3 : Blk w3 B3 (gv 0 0 []) 38 := N3.blk; have l3 := N3.lo; have t3 := N3.hi; have z3 := g3.size; have b1 := g3.blk b1; have gg := gg.trans g3; clear N3; obtain ⟨b3_0, b3_1, b3_2⟩ := gcells b3) | (refine r_store_row 38 38 _ _ _ rfl (gv g.w g.h g.c) _ rfl b3 (Tryd.gsize' _ _ _) (by simp only [gv_size]) (gv_one _ _ _) rfl ?_; intro w4 u4 b3'; have z4 := u4.size; have gg := u4.gr gg (by omega); have b1 := u4.blk b1 (by omega); clear b3; have b3 := b3'; clear b3'; obtain ⟨b3_0, b3_1, b3_2⟩ := gcells b3) | (refine r_load_row 38 _ _ rfl _ _ _ b3 Tryd.underlying38 rfl (Tryd.ginfo' _ _ _) rfl ?_) | (go_at_call 39; refine (HB.out _).mono ?_; rintro e w5 ⟨g5, p5, k5, rfl⟩; have z5 := g5.size; have b1 := g5.blk b1; have b3 := g5.blk b3; have gg := gg.trans g5) | (go_at_call 23; refine (HC.out _).mono ?_; rintro e w6 ⟨rfl, g6⟩; have z6 := g6.size; have b1 := g6.blk b1; have b3 := g6.blk b3; have gg := gg.trans g6) | (refine r_store_row 38 38 _ _ _ rfl (gv g.w g.h g.c) _ rfl b1 (Tryd.gsize' _ _ _) (by simp only [gv_size]) (gv_one _ _ _) rfl ?_; intro w7 u7 b1'; have z7 := u7.size; have gg := u7.gr gg (by omega); clear b1; have b1 := b1'; clear b1'; obtain ⟨b1_0, b1_1, b1_2⟩ := gcells b1))
    refine bodyPost_ret (results_row_bool rfl _ _ _ _ _ _ rfl b1 Tryd.underlying38 rfl (Tryd.ginfo' _ _ _)) rfl ⟨?_, gg⟩
    rfl
def RetBa (T : TypeId) (l : List UInt8) (w : World) (e : Ending) (w' : World) : Prop :=
  Gr w w' ∧ ((brOk l = false ∧ ∃ W H sl, sl.oneCell' = true ∧ e = .returned (.tuple #[.agg (tg W H sl), .int .i64 0, .bool false])) ∨
    ∃ (g : Grid) (sl : Value), parse l = some g ∧ rdG l = g ∧ brOk l = true ∧ nbN g = 0 ∧ e = .returned (.tuple #[.agg (tg g.w g.h sl), .int .i64 (frN g : Nat), .bool true]) ∧ w'.ownsRow w.heap.size T 1 sl g.c.length (cellsV g.c))
set_option maxHeartbeats 1000000 in
set_option maxRecDepth 100000 in
theorem cnBare_any (s : ByteArray) (w : World) (hs : s.size ≤ 1048576) : Calls Tryd.prog 18 #[.string s] w (RetBa 5 s.data.toList w) := by
  have gg := Gr.refl w
  go_enter Tryd.func18, Tryd.ntmps18
  go_wp2_with (refine r_alloc (dst := some 2) 31 _ Tryd.tzero rfl ?_; intro w1 B1 N1; have g1 := N1.gr; have b1 : Blk w1 B1 (tg 0 0 (.slice none 0 0)) 31 := N1.blk; have l1 := N1.lo; have t1 := N1.hi; have z1 := g1.size; have gg := gg.trans g1; clear N1; obtain ⟨b1_0, b1_1, b1_2⟩ := tcells b1)
  refine (tyRead_any s _ hs).mono ?_
  rintro e w2 ⟨g2, ⟨hp, rfl⟩ | ⟨g, sl, hp, rfl, hown⟩⟩
  · have HN := hidI (show brOk s.data.toList = false from by unfold brOk; rw [(rd_parse_none hp).2]; rfl)
    have z2 := g2.size
    have b1 := g2.blk b1
    have gg := gg.trans g2
    clear hp
    go_wp2_with (first | (refine r_alloc (dst := some 5) 31 _ Tryd.tzero rfl ?_; intro w3 B3 N3; have g3 := N3.gr; have b3 : Blk w3 B3 (tg 0 0 (.slice none 0 0)) 31 := N3.blk; have l3 := N3.lo; have t3 := N3.hi; have z3 := g3.size; have b1 := g3.blk b1; obtain ⟨b1_0, b1_1, b1_2⟩ := tcells b1; have gg := gg.trans g3; clear N3; obtain ⟨b3_0, b3_1, b3_2⟩ := tcells b3) | (refine r_store_row 31 31 _ _ _ rfl (tg _ _ _) _ rfl b3 Tryd.tsize rfl (tg_one rfl) rfl ?_; intro w4 u4 b3'; have z4 := u4.size; have gg := u4.gr gg (by omega); have b1 := u4.blk b1 (by omega); obtain ⟨b1_0, b1_1, b1_2⟩ := tcells b1; clear b3; have b3 := b3'; clear b3'; obtain ⟨b3_0, b3_1, b3_2⟩ := tcells b3) | (refine r_load_row 31 _ _ rfl _ _ _ b3 Tryd.underlying31 rfl Tryd.tinfo rfl ?_) | (refine r_store_row 31 31 _ _ _ rfl (tg _ _ _) _ rfl b1 Tryd.tsize rfl (tg_one rfl) rfl ?_; intro w6 u6 b1'; have z6 := u6.size; have gg := u6.gr gg (by omega); clear b1; have b1 := b1'; clear b1'; obtain ⟨b1_0, b1_1, b1_2⟩ := tcells b1))
    refine bodyPost_ret (results_row_two rfl _ _ _ _ _ _ rfl b1 Tryd.underlying31 rfl Tryd.tinfo) rfl ⟨gg, .inl ⟨HN.out, _, _, _, rfl, rfl⟩⟩
  · have z2 := g2.size
    have b1 := g2.blk b1
    have gg := gg.trans g2
    have hone := own_one hown
    have lo1 : w.heap.size ≤ B1 := by omega
    obtain ⟨hg, hk⟩ := rd_parse_some hp
    have ht := parse_tray hp
    have n36 := ht.n36
    have hlen := ht.len
    have h36 : g.c.length ≤ 36 := by omega
    have hl1 : 0 < g.c.length := by rw [hlen]; exact Nat.mul_pos ht.w1 ht.h1
    obtain ⟨G, cap, rfl, -, -⟩ := own_shape hown hl1
    have HB := hidI (show (ballsTo isBallB g.c g.c.length).length = nbN g from by unfold nbN; rw [hlen])
    have HFR := hidI (show cnt g.c 46 g.c.length = frN g from by unfold frN; rw [hlen])
    have HHP := hidI hp
    have HG := hidI hg
    by_cases h0 : nbN g = 0
    · have HY := hidI (show brOk s.data.toList = true from by unfold brOk; rw [hk, hg, decide_eq_true h0]; rfl)
      have H0 := hidI h0
      clear hp hg hk ht hlen h0
      go_wp2_with (first | (refine r_alloc (dst := some 5) 31 _ Tryd.tzero rfl ?_; intro w3 B3 N3; have g3 := N3.gr; have b3 : Blk w3 B3 (tg 0 0 (.slice none 0 0)) 31 := N3.blk; have l3 := N3.lo; have t3 := N3.hi; have z3 := g3.size; have b1 := g3.blk b1; obtain ⟨b1_0, b1_1, b1_2⟩ := tcells b1; have gg := gg.trans g3; clear N3; obtain ⟨b3_0, b3_1, b3_2⟩ := tcells b3) | (refine r_store_row 31 31 _ _ _ rfl (tg _ _ _) _ rfl b3 Tryd.tsize rfl (tg_one hone) rfl ?_; intro w4 u4 b3'; have z4 := u4.size; have gg := u4.gr gg (by omega); have b1 := u4.blk b1 (by omega); obtain ⟨b1_0, b1_1, b1_2⟩ := tcells b1; clear b3; have b3 := b3'; clear b3'; obtain ⟨b3_0, b3_1, b3_2⟩ := tcells b3) | (refine r_load_row 31 _ _ rfl _ _ _ b3 Tryd.underlying31 rfl Tryd.tinfo rfl ?_))
      have own := u4.row (g3.row hown) (own_new hown l3)
      refine (tyBalls_any g.w g.h _ g.c G cap _ h36 own).mono ?_
      rintro e w5 ⟨g5, v5, rfl, own5⟩
      rw [HB.out, H0.out] at own5
      obtain ⟨p5, m5, k5, rfl⟩ := own_slice own5
      obtain rfl : m5 = 0 := own_len own5
      have own := g5.row own
      have b1 := g5.blk b1
      have b3 := g5.blk b3
      obtain ⟨b3_0, b3_1, b3_2⟩ := tcells b3
      have gg := gg.trans g5
      have z5 := g5.size
      go_wp2
      go_loopw [7, 27] (fun nv iv wr => ∃ k : Nat, k ≤ g.c.length ∧ iv = .int .i64 k ∧ nv = .int .i64 (cnt g.c 46 k : Nat) ∧ Gr w5 wr) (fun _ iv _ => g.c.length - (intOf iv).toNat)
      case atStart => exact ⟨0, Nat.zero_le _, rfl, rfl, Gr.refl w5⟩
      case round =>
        obtain ⟨k, hk, rfl, rfl, gr⟩ := hrel
        have hle := cnt_le g.c 46 k
        by_cases hlt : k < g.c.length
        · have hc := own_cell (gr.row own) k hlt rfl
          by_cases hb : at0 g.c k = 46
          · have e1 := hidI (show cnt g.c 46 (k + 1) = cnt g.c 46 k + 1 from by rw [cnt, if_pos hb])
            rw [hb] at hc
            clear hb
            go_wp2
            go_roundw
            case rel => exact ⟨k + 1, by omega, by go_num, by rw [e1.out]; go_num, gr⟩
            case measure => simp [intOf]; omega
          · have e1 := hidI (show cnt g.c 46 (k + 1) = cnt g.c 46 k from by rw [cnt, if_neg hb]; rfl)
            have hne : (((at0 g.c k).toNat : Int) == 46) = false := by
              rw [beq_eq_false_iff_ne]
              intro e
              exact hb (UInt8.toNat_inj.1 (by show (at0 g.c k).toNat = 46; omega))
            clear hb
            go_wp2
            go_roundw
            case rel => exact ⟨k + 1, by omega, by go_num, by rw [e1.out], gr⟩
            case measure => simp [intOf]; omega
        · obtain rfl : k = g.c.length := by omega
          clear hlt
          have b1 := gr.blk b1
          have b3 := gr.blk b3
          have own := gr.row own
          have gg := gg.trans gr
          have z6 := gr.size
          go_wp2_with (first | (refine r_load_row 31 _ _ rfl _ _ _ b3 Tryd.underlying31 rfl Tryd.tinfo rfl ?_) | (refine r_store_row 31 31 _ _ B1 rfl (tg g.w g.h (.slice (some ⟨G, 0, none⟩) g.c.length cap)) _ rfl b1 Tryd.tsize rfl (tg_one hone) rfl ?_; intro w7 u7 b17))
          refine bodyPost_ret (results_row_two rfl _ _ _ _ _ _ rfl b17 Tryd.underlying31 rfl Tryd.tinfo) rfl ⟨u7.gr gg lo1, .inr ⟨g, _, HHP.out, HG.out, HY.out, H0.out, by rw [HFR.out]; rfl, ?_⟩⟩
          exact own_up (u7.row own (own_ne own b1 (by decide))) (by omega)
    · have HN := hidI (show brOk s.data.toList = false from by unfold brOk; rw [hk, hg, decide_eq_false h0]; rfl)
      obtain ⟨N, hN⟩ : ∃ N, N = nbN g := ⟨_, rfl⟩
      rw [← hN] at HB h0
      have h0' : 0 < N := by omega
      clear hp hg hk ht hlen h0 hN
      go_wp2_with (first | (refine r_alloc (dst := some 5) 31 _ Tryd.tzero rfl ?_; intro w3 B3 N3; have g3 := N3.gr; have b3 : Blk w3 B3 (tg 0 0 (.slice none 0 0)) 31 := N3.blk; have l3 := N3.lo; have t3 := N3.hi; have z3 := g3.size; have b1 := g3.blk b1; obtain ⟨b1_0, b1_1, b1_2⟩ := tcells b1; have gg := gg.trans g3; clear N3; obtain ⟨b3_0, b3_1, b3_2⟩ := tcells b3) | (refine r_store_row 31 31 _ _ _ rfl (tg _ _ _) _ rfl b3 Tryd.tsize rfl (tg_one hone) rfl ?_; intro w4 u4 b3'; have z4 := u4.size; have gg := u4.gr gg (by omega); have b1 := u4.blk b1 (by omega); obtain ⟨b1_0, b1_1, b1_2⟩ := tcells b1; clear b3; have b3 := b3'; clear b3'; obtain ⟨b3_0, b3_1, b3_2⟩ := tcells b3) | (refine r_load_row 31 _ _ rfl _ _ _ b3 Tryd.underlying31 rfl Tryd.tinfo rfl ?_))
      have own := u4.row (g3.row hown) (own_new hown l3)
      refine (tyBalls_any g.w g.h _ g.c G cap _ h36 own).mono ?_
      rintro e w5 ⟨g5, v5, rfl, own5⟩
      rw [HB.out] at own5
      obtain ⟨p5, m5, k5, rfl⟩ := own_slice own5
      obtain rfl : m5 = N := own_len own5
      have b1 := g5.blk b1
      have b3 := g5.blk b3
      have gg := gg.trans g5
      have z5 := g5.size
      go_wp2_with (first | (refine r_load_row 31 _ _ rfl _ _ _ b3 Tryd.underlying31 rfl Tryd.tinfo rfl ?_) | (refine r_store_row 31 31 _ _ B1 rfl (tg g.w g.h (.slice (some ⟨G, 0, none⟩) g.c.length cap)) _ rfl b1 Tryd.tsize rfl (tg_one hone) rfl ?_; intro w7 u7 b17))
      refine bodyPost_ret (results_row_two rfl _ _ _ _ _ _ rfl b17 Tryd.underlying31 rfl Tryd.tinfo) rfl ⟨u7.gr gg lo1, .inl ⟨HN.out, _, _, _, hone, rfl⟩⟩
def csN (l : List UInt8) (b : Int) : Int := if rmOk l b then (chN (frN (rdG l)) b.toNat : Nat) else 0
theorem csN_no {l : List UInt8} {b : Int} (h : rmOk l b = false) : csN l b = 0 := by unfold csN; rw [h]; rfl
theorem csN_yes {l : List UInt8} {g : Grid} {n : Nat} (h : rmOk l n = true) (hg : rdG l = g) : csN l n = (chN (frN g) n : Nat) := by unfold csN; rw [h, hg]; rfl
set_option maxHeartbeats 1000000 in
set_option maxRecDepth 100000 in
theorem iCountStates (s : ByteArray) (b : Int) (w : World) (hm : ML w) (hs : s.size ≤ 1048576) : Calls Tryd.prog 9 #[.string s, .int .i64 b] w (Ret (.tuple #[.int .i64 (csN s.data.toList b), .bool (rmOk s.data.toList b)]) w) := by
  have gg := Gr.refl w
  rcases rm_cases s.data.toList b with ⟨hr, hG, -⟩ | ⟨g, n, hp, hg, hk, h0, rfl, hn, hr, hG⟩
  · have HR := hidI hr
    have HG := hidI hG
    have HV := hidI (csN_no hr)
    clear hr hG
    go_enter Tryd.func9, Tryd.ntmps9
    go_wp2_with (first | (go_at_call 21; refine (readRoom_any s b _ (gg.ml hm) hs).mono ?_; rintro e w1 ⟨rfl, g1⟩; rw [HR.out, HG.out, gvG]; have z1 := g1.size; have gg := gg.trans g1) | (refine r_alloc 38 _ Tryd.gzero rfl ?_; intro w2 B2 N2; have g2 := N2.gr; have b2 : Blk w2 B2 (gv 0 0 []) 38 := N2.blk; have l2 := N2.lo; have t2 := N2.hi; have z2 := g2.size; have gg := gg.trans g2; clear N2; obtain ⟨b2_0, b2_1, b2_2⟩ := gcells b2) | (refine r_store_row 38 38 _ _ _ rfl (gv 0 0 []) _ rfl b2 (Tryd.gsize' _ _ _) (by simp only [gv_size]) (gv_one _ _ _) rfl ?_; intro w3 u3 b2'; have z3 := u3.size; have gg := u3.gr gg (by omega); clear b2; have b2 := b2'; clear b2'; obtain ⟨b2_0, b2_1, b2_2⟩ := gcells b2))
    go_ret2
    exact ⟨fin_ibN HV.out.symm HR.out.symm, gg⟩
  · have HR := hidI hr
    have HG := hidI hG
    have HV := hidI (csN_yes hr hg)
    have h36 := frN_le hp
    have ht := parse_tray hp
    have w7 := ht.w7
    have h7 := ht.h7
    have n36 := ht.n36
    have HC := hidI (fun w => show Calls Tryd.prog 23 #[.agg (gv g.w g.h g.c), .int .u8 46] w (Ret (.int .i64 (frN g : Nat)) w) from countByte_any g.w g.h g.c 46 w w7 h7 n36)
    clear hr hG hp hg hk h0 ht
    go_enter Tryd.func9, Tryd.ntmps9
    go_wp2_with (first | (go_at_call 21; refine (readRoom_any s n _ (gg.ml hm) hs).mono ?_; rintro e w1 ⟨rfl, g1⟩; rw [HR.out, HG.out, gvG]; have z1 := g1.size; have gg := gg.trans g1) | (refine r_alloc 38 _ Tryd.gzero rfl ?_; intro w2 B2 N2; have g2 := N2.gr; have b2 : Blk w2 B2 (gv 0 0 []) 38 := N2.blk; have l2 := N2.lo; have t2 := N2.hi; have z2 := g2.size; have gg := gg.trans g2; clear N2; obtain ⟨b2_0, b2_1, b2_2⟩ := gcells b2) | (refine r_store_row 38 38 _ _ _ rfl (gv g.w g.h g.c) _ rfl b2 (Tryd.gsize' _ _ _) (by simp only [gv_size]) (gv_one _ _ _) rfl ?_; intro w3 u3 b2'; have z3 := u3.size; have gg := u3.gr gg (by omega); clear b2; have b2 := b2'; clear b2'; obtain ⟨b2_0, b2_1, b2_2⟩ := gcells b2) | (refine r_load_row 38 _ _ rfl _ _ _ b2 Tryd.underlying38 rfl (Tryd.ginfo' _ _ _) rfl ?_) | (go_at_call 23; refine (HC.out _).mono ?_; rintro e w4 ⟨rfl, g4⟩; have z4 := g4.size; have gg := gg.trans g4) | (go_at_call 22; refine (countSetsN_any (frN g) n _ h36 hn).mono ?_; rintro e w5 ⟨rfl, g5⟩; have z5 := g5.size; have gg := gg.trans g5))
    go_ret2
    exact ⟨fin_ibN HV.out.symm HR.out.symm, gg⟩
set_option maxHeartbeats 1000000 in
set_option maxRecDepth 100000 in
theorem sCountStates (s : ByteArray) (b : Int) (w : World) (hs : s.size ≤ 1048576) : Calls Tryd.prog 8 #[.string s, .int .i64 b] w (Ret (.tuple #[.int .i64 (csN s.data.toList b), .bool (rmOk s.data.toList b)]) w) := by
  have gg := Gr.refl w
  go_enter Tryd.func8, Tryd.ntmps8
  go_wp2_with fail
  refine (cnBare_any s _ hs).mono ?_
  rintro e w1 ⟨g1, ⟨hn, W, H, sl, hone, rfl⟩ | ⟨g, sl, hp, hg, hy, h0, rfl, hown⟩⟩
  · have HR := hidI (show rmOk s.data.toList b = false from by unfold rmOk; rw [hn]; rfl)
    have HV := hidI (csN_no HR.out)
    have gg := gg.trans g1
    have z1 := g1.size
    clear hn
    go_wp2_with (first | (refine r_alloc 31 _ Tryd.tzero rfl ?_; intro w2 B2 N2; have g2 := N2.gr; have b2 : Blk w2 B2 (tg 0 0 (.slice none 0 0)) 31 := N2.blk; have l2 := N2.lo; have t2 := N2.hi; have z2 := g2.size; have gg := gg.trans g2; clear N2; obtain ⟨b2_0, b2_1, b2_2⟩ := tcells b2) | (refine r_store_row 31 31 _ _ _ rfl (tg _ _ _) _ rfl b2 Tryd.tsize rfl (tg_one hone) rfl ?_; intro w3 u3 b2'; have z3 := u3.size; have gg := u3.gr gg (by omega); clear b2; have b2 := b2'; clear b2'; obtain ⟨b2_0, b2_1, b2_2⟩ := tcells b2))
    go_ret2
    exact ⟨fin_ibN HV.out.symm HR.out.symm, gg⟩
  · have hone := own_one hown
    have gg := gg.trans g1
    have z1 := g1.size
    have h36 := frN_le hp
    by_cases hb : btw b 0 (frN g) = true
    · have HB := hidI hb
      have HR := hidI (show rmOk s.data.toList b = true from by unfold rmOk; rw [hy, hg, hb]; rfl)
      unfold btw at hb
      rw [Bool.and_eq_true, decide_eq_true_eq, decide_eq_true_eq] at hb
      obtain ⟨n, rfl⟩ : ∃ n : Nat, b = n := ⟨b.toNat, by omega⟩
      have hn : n ≤ frN g := by omega
      have HV := hidI (csN_yes HR.out hg)
      clear hy h0 hp hb hg
      go_wp2_with (first | (refine r_alloc 31 _ Tryd.tzero rfl ?_; intro w2 B2 N2; have g2 := N2.gr; have b2 : Blk w2 B2 (tg 0 0 (.slice none 0 0)) 31 := N2.blk; have l2 := N2.lo; have t2 := N2.hi; have z2 := g2.size; have gg := gg.trans g2; clear N2; obtain ⟨b2_0, b2_1, b2_2⟩ := tcells b2) | (refine r_store_row 31 31 _ _ _ rfl (tg _ _ _) _ rfl b2 Tryd.tsize rfl (tg_one hone) rfl ?_; intro w3 u3 b2'; have z3 := u3.size; have gg := u3.gr gg (by omega); clear b2; have b2 := b2'; clear b2'; obtain ⟨b2_0, b2_1, b2_2⟩ := tcells b2) | (go_at_call 19; refine (l1In_any _ _ _ _).mono ?_; rintro e wSame ⟨rfl, rfl⟩; rw [HB.out]) | (go_at_call 20; refine (cnChoose_any (frN g) n _ h36 hn).mono ?_; rintro e w4 ⟨rfl, g4⟩; have z4 := g4.size; have gg := gg.trans g4))
      go_ret2
      exact ⟨fin_ibN HV.out.symm HR.out.symm, gg⟩
    · have HB := hidI (show btw b 0 (frN g) = false from by simpa using hb)
      have HR := hidI (show rmOk s.data.toList b = false from by unfold rmOk; rw [hg, HB.out, Bool.and_false])
      have HV := hidI (csN_no HR.out)
      clear hy h0 hp hb hg
      go_wp2_with (first | (refine r_alloc 31 _ Tryd.tzero rfl ?_; intro w2 B2 N2; have g2 := N2.gr; have b2 : Blk w2 B2 (tg 0 0 (.slice none 0 0)) 31 := N2.blk; have l2 := N2.lo; have t2 := N2.hi; have z2 := g2.size; have gg := gg.trans g2; clear N2; obtain ⟨b2_0, b2_1, b2_2⟩ := tcells b2) | (refine r_store_row 31 31 _ _ _ rfl (tg _ _ _) _ rfl b2 Tryd.tsize rfl (tg_one hone) rfl ?_; intro w3 u3 b2'; have z3 := u3.size; have gg := u3.gr gg (by omega); clear b2; have b2 := b2'; clear b2'; obtain ⟨b2_0, b2_1, b2_2⟩ := tcells b2) | (go_at_call 19; refine (l1In_any _ _ _ _).mono ?_; rintro e wSame ⟨rfl, rfl⟩; rw [HB.out]))
      go_ret2
      exact ⟨fin_ibN HV.out.symm HR.out.symm, gg⟩
set_option maxHeartbeats 1000000 in
theorem lawCountStates (s : ByteArray) (b : Int) (w : World) (hm : ML w) : Calls Tryd.prog 3 #[.string s, .int .i64 b] w (Ret (.bool true) w) := by
  have gg := Gr.refl w
  by_cases hs : 1048576 < s.size
  · go_enter Tryd.func3, Tryd.ntmps3
    go_wp2
    go_ret
    exact ⟨rfl, gg⟩
  · have hs' : s.size ≤ 1048576 := by omega
    clear hs
    go_enter Tryd.func3, Tryd.ntmps3
    go_wp2_with (first | (go_at_call 8; refine (sCountStates s b _ hs').mono ?_; rintro e w1 ⟨rfl, g1⟩; have z1 := g1.size; have gg := gg.trans g1) | (go_at_call 9; refine (iCountStates s b _ (gg.ml hm) hs').mono ?_; rintro e w2 ⟨rfl, g2⟩; have z2 := g2.size; have gg := gg.trans g2))
    go_ret
    exact ⟨rfl, gg⟩
end Go.Proofs.YtcjmikafomlbiaaDoor
