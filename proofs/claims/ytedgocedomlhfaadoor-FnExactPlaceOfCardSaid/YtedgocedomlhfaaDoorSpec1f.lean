/-
  What the model's functions that change a tray's cells return: one cell put, and all balls taken out.
-/
import Derived.Test.YtedgocedomlhfaaDoorSpec1e
import Derived.Test.YtedgocedomlhfaaDoorImpl1h
namespace Go.Proofs.YtedgocedomlhfaaDoor
open Go.RowKit
theorem cellsV_set (c : List UInt8) (j : Nat) (b : UInt8) : (cellsV c).set j (byteV b) = cellsV (c.set j b) := by
  unfold cellsV
  rw [List.map_set]
/-- It returns a grid of the model, its cells in new memory. -/
def RetG (T : TypeId) (W H : Int) (c : List UInt8) (w : World) (e : Ending) (w' : World) : Prop :=
  Gr w w' ∧ ∃ sl, e = .returned (.agg (tg W H sl)) ∧ w'.ownsRow w.heap.size T 1 sl c.length (cellsV c)
theorem own_up {w : World} {b0 base : Nat} {e : TypeId} {size : Nat} {v : Value} {n : Nat} {xs : List Value} (hr : w.ownsRow base e size v n xs) (hb : b0 ≤ base) : w.ownsRow b0 e size v n xs := by
  obtain ⟨h1, h2 | ⟨g, cap, cur, rfl, b, c, d⟩⟩ := hr
  · exact ⟨h1, .inl h2⟩
  · exact ⟨h1, .inr ⟨g, cap, cur, rfl, by omega, c, d⟩⟩
theorem tyText_n (W H base n : Nat) (c : List UInt8) (sl : Value) (w : World) (hW1 : 1 ≤ W) (hH1 : 1 ≤ H) (hW : W ≤ 7) (hH : H ≤ 7) (h36 : nn W H ≤ 36) (hlen : c.length = nn W H) (hn : c.length = n) (hown : w.ownsRow base 5 1 sl n (cellsV c)) :
    Calls Tryd.prog 49 #[.agg (tg W H sl)] w (Ret (.string (txtB W H c)) w) := by
  subst hn
  exact tyText_any W H base c sl w hW1 hH1 hW hH h36 hlen hown
set_option maxHeartbeats 1000000 in
theorem tyIf_any (W H base n : Nat) (c : List UInt8) (sl : Value) (w : World) (hW1 : 1 ≤ W) (hH1 : 1 ≤ H) (hW : W ≤ 7) (hH : H ≤ 7) (h36 : nn W H ≤ 36) (hlen : c.length = nn W H) (hn : c.length = n) (hown : w.ownsRow base 5 1 sl n (cellsV c)) :
    Calls Tryd.prog 39 #[.agg (tg W H sl)] w (Ret (.tuple #[.string (ifB (txtB W H c)), .bool (rdOk (txtB W H c).data.toList)]) w) := by
  have gg := Gr.refl w
  have htl := txtB_le W H c hW hH
  by_cases h : rdOk (txtB W H c).data.toList = true
  · have HK := hidI h
    clear h
    go_enter Tryd.func39, Tryd.ntmps39
    go_wp2_with (first | (refine r_box 41 _ (tg (W) (H) (sl)) rfl rfl ?_; intro w1 B1 N1; have g1 := N1.gr; have b1 : Blk w1 B1 (tg (W) (H) (sl)) 41 := N1.blk; have l1 := N1.lo; have t1 := N1.hi; have z1 := g1.size; have gg := gg.trans g1; clear N1; obtain ⟨b1_0, b1_1, b1_2⟩ := tcells b1) | (refine r_load_row 41 _ _ rfl _ _ _ b1 Tryd.underlying41 rfl Tryd.tinfo rfl ?_) | (go_at_call 49; refine (tyText_n W H base n c sl _ hW1 hH1 hW hH h36 hlen hn (g1.row hown)).mono ?_; rintro e w2 ⟨rfl, g2⟩; have z2 := g2.size; have gg := gg.trans g2) | (go_at_call 61; refine (tyGood_any _ _ (by omega)).mono ?_; rintro e w3 ⟨rfl, g3⟩; rw [HK.out]; have z3 := g3.size; have gg := gg.trans g3))
    go_ret2
    exact ⟨fin_sb (by unfold ifB; rw [HK.out]; rfl) HK.out.symm, gg⟩
  · have HK := hidI (show rdOk (txtB W H c).data.toList = false from by simpa using h)
    clear h
    go_enter Tryd.func39, Tryd.ntmps39
    go_wp2_with (first | (refine r_box 41 _ (tg (W) (H) (sl)) rfl rfl ?_; intro w1 B1 N1; have g1 := N1.gr; have b1 : Blk w1 B1 (tg (W) (H) (sl)) 41 := N1.blk; have l1 := N1.lo; have t1 := N1.hi; have z1 := g1.size; have gg := gg.trans g1; clear N1; obtain ⟨b1_0, b1_1, b1_2⟩ := tcells b1) | (refine r_load_row 41 _ _ rfl _ _ _ b1 Tryd.underlying41 rfl Tryd.tinfo rfl ?_) | (go_at_call 49; refine (tyText_n W H base n c sl _ hW1 hH1 hW hH h36 hlen hn (g1.row hown)).mono ?_; rintro e w2 ⟨rfl, g2⟩; have z2 := g2.size; have gg := gg.trans g2) | (go_at_call 61; refine (tyGood_any _ _ (by omega)).mono ?_; rintro e w3 ⟨rfl, g3⟩; rw [HK.out]; have z3 := g3.size; have gg := gg.trans g3))
    go_ret2
    exact ⟨fin_sb (by unfold ifB; rw [HK.out]; rfl) HK.out.symm, gg⟩
theorem Tryd.six0 (B n cap x : Nat) (hx : x < n) (w : World) : (Instr.indexAt 39 (.slice (some ⟨B, 0, none⟩) n cap) (.int .i64 x)).run Tryd.prog w = .ok (.pointer (some ⟨B, x, none⟩)) w := by
  have h := Tryd.six B 0 n cap x hx w
  rw [Nat.zero_add] at h
  exact h
set_option maxHeartbeats 2000000 in
set_option maxRecDepth 100000 in
theorem sPutAt (s : ByteArray) (x y : Int) (c : ByteArray) (w : World) (hs : s.size ≤ 1048576) : Calls Tryd.prog 14 #[.string s, .int .i64 x, .int .i64 y, .string c] w (Ret (.tuple #[.string (paS s.data.toList x y c), .bool (paR s.data.toList x y c)]) w) := by
  have gg := Gr.refl w
  have bad : paOk s.data.toList x y c = false → paS s.data.toList x y c = ⟨#[]⟩ ∧ paR s.data.toList x y c = false := fun h => by
    unfold paS paR; rw [h]; exact ⟨rfl, rfl⟩
  have BAD := hidI bad
  clear bad
  go_enter Tryd.func14, Tryd.ntmps14
  go_wp2_with fail
  refine (tyRead_any s _ hs).mono ?_
  rintro e w1 ⟨g1, ⟨hp, rfl⟩ | ⟨g, sl, hp, rfl, hown⟩⟩
  · have HV := hidI (BAD.out (by unfold paOk; rw [(rd_parse_none hp).2]; rfl))
    have z1 := g1.size
    have gg := gg.trans g1
    clear hp
    go_wp2_with (first | (refine r_alloc 41 _ Tryd.tzero rfl ?_; intro w2 B2 N2; have g2 := N2.gr; have b2 : Blk w2 B2 (tg 0 0 (.slice none 0 0)) 41 := N2.blk; have l2 := N2.lo; have t2 := N2.hi; have z2 := g2.size; have gg := gg.trans g2; clear N2; obtain ⟨b2_0, b2_1, b2_2⟩ := tcells b2) | (refine r_store_row 41 41 _ _ _ rfl (tg _ _ _) _ rfl b2 Tryd.tsize rfl (tg_one rfl) rfl ?_; intro w3 u3 b2'; have z3 := u3.size; have gg := u3.gr gg (by omega); clear b2; have b2 := b2'; clear b2'; obtain ⟨b2_0, b2_1, b2_2⟩ := tcells b2))
    go_ret2
    exact ⟨fin_sb HV.out.1.symm HV.out.2.symm, gg⟩
  · obtain ⟨hg, hk⟩ := rd_parse_some hp
    have ht := parse_tray hp
    have z1 := g1.size
    have gg := gg.trans g1
    have hone := own_one hown
    have hw7 := ht.w7
    have hh7 := ht.h7
    by_cases h1 : (inB x g.w && inB y g.h) = true
    · have HO := hidI h1
      rw [Bool.and_eq_true, inB_true, inB_true] at h1
      obtain ⟨⟨x0, x1⟩, y0, y1⟩ := h1
      by_cases h2 : oneB c = true
      · obtain ⟨x, rfl⟩ : ∃ n : Nat, x = n := ⟨x.toNat, by omega⟩
        obtain ⟨y, rfl⟩ : ∃ n : Nat, y = n := ⟨y.toNat, by omega⟩
        have hsz : c.size = 1 := by
          unfold oneB at h2; rw [Bool.and_eq_true, decide_eq_true_eq] at h2; exact h2.1
        have hc := one_of c hsz
        obtain ⟨b, hb⟩ : ∃ b, hd c = b := ⟨_, rfl⟩
        rw [hb] at hc
        subst hc
        have HC1 := hidI h2
        have hok : paOk s.data.toList x y ⟨#[b]⟩ = true := by unfold paOk; rw [hk, hg, HO.out, h2]; rfl
        have hT : paT s.data.toList x y ⟨#[b]⟩ = txtB g.w g.h (g.c.set (nn g.w y + x) b) := by unfold paT; rw [hg]; rfl
        have HV := hidI (show paS s.data.toList x y ⟨#[b]⟩ = ifB (txtB g.w g.h (g.c.set (nn g.w y + x) b)) ∧ paR s.data.toList x y ⟨#[b]⟩ = rdOk (txtB g.w g.h (g.c.set (nn g.w y + x) b)).data.toList from by
          unfold paS paR; rw [hok, hT]; exact ⟨rfl, rfl⟩)
        have hw1 := ht.w1
        have hh1 := ht.h1
        have n36 := ht.n36
        have hlen := ht.len
        have hxw : x < g.w := by omega
        have hyh : y < g.h := by omega
        have hle := nn_row (W := g.w) hyh
        have hl1 : 0 < g.c.length := by omega
        obtain ⟨G, cap, rfl, hG, hcap⟩ := own_shape hown hl1
        have hGlt := (hown.lt G rfl).2
        obtain ⟨f, hf⟩ : ∃ f, f = nn g.w y := ⟨_, rfl⟩
        rw [← hf] at hle HV
        have hf36 : f ≤ 36 := by omega
        have hfx : f + x < g.c.length := by omega
        have e1 : (y : Int) * (g.w : Int) = f := by rw [hf, nn_int, Int.mul_comm]
        have HF := hidI hf
        have HLEN := hidI hlen
        clear hp hg hk ht x0 y0 x1 y1 hf hlen hb hsz h2 hok hT
        go_wp2_with (first | (refine r_alloc 41 _ Tryd.tzero rfl ?_; intro w2 B2 N2; have g2 := N2.gr; have b2 : Blk w2 B2 (tg 0 0 (.slice none 0 0)) 41 := N2.blk; have l2 := N2.lo; have t2 := N2.hi; have z2 := g2.size; have gg := gg.trans g2; clear N2; obtain ⟨b2_0, b2_1, b2_2⟩ := tcells b2) | (refine r_store_row 41 41 _ _ _ rfl (tg _ _ _) _ rfl b2 Tryd.tsize rfl (tg_one hone) rfl ?_; intro w3 u3 b2'; have z3 := u3.size; have gg := u3.gr gg (by omega); clear b2; have b2 := b2'; clear b2'; obtain ⟨b2_0, b2_1, b2_2⟩ := tcells b2) | (refine r_load_row 41 _ _ rfl _ _ _ b2 Tryd.underlying41 rfl Tryd.tinfo rfl ?_) | (go_at_call 34; refine (tyCell_any g.w g.h _ x y _ hw7 hh7).mono ?_; rintro e w4 ⟨rfl, g4⟩; rw [HO.out]; have z4 := g4.size; have b2 := g4.blk b2; obtain ⟨b2_0, b2_1, b2_2⟩ := tcells b2; have gg := gg.trans g4) | (go_at_call 38; refine (tyOne_any _ _).mono ?_; rintro e wSame ⟨rfl, rfl⟩; rw [HC1.out]))
        have hown := g4.row (u3.row (g2.row hown) (own_new hown l2))
        refine q_begin 11 (by kernel_rfl) (by kernel_rfl) ?_; simp only [List.take_succ_cons, List.take_zero, List.drop_succ_cons, List.drop_zero]
        refine q_take (.pointer (some ⟨B2, 2, none⟩)) rfl (fun w' hw' => e_val _ _ (Tryd.tf2 B2 _)) ?_; simp only [Act.put, List.setIfInBounds_toArray, List.set_cons_succ, List.set_cons_zero]
        refine q_take (.slice (some ⟨G, 0, none⟩) g.c.length cap) rfl (fun w' hw' => e_load 39 (.tmp 31) ⟨B2, 2, none⟩ _ rfl (Tryd.isAgg39 _) (hw'.cell b2_2)) ?_; simp only [Act.put, List.setIfInBounds_toArray, List.set_cons_succ, List.set_cons_zero]
        refine q_move _ (.int .i64 y) rfl rfl ?_; simp only [Act.put, List.setIfInBounds_toArray, List.set_cons_succ, List.set_cons_zero]
        refine q_take (.pointer (some ⟨B2, 0, none⟩)) rfl (fun w' hw' => e_val _ _ (Tryd.tf0 B2 _)) ?_; simp only [Act.put, List.setIfInBounds_toArray, List.set_cons_succ, List.set_cons_zero]
        refine q_take (.int .i64 g.w) rfl (fun w' hw' => e_load 3 (.tmp 34) ⟨B2, 0, none⟩ _ rfl (Tryd.isAgg3 _) (hw'.cell b2_0)) ?_; simp only [Act.put, List.setIfInBounds_toArray, List.set_cons_succ, List.set_cons_zero]
        refine q_mul _ _ _ _ (y) (g.w) (f) rfl rfl (e1) (by omega) rfl ?_; simp only [Act.put, List.setIfInBounds_toArray, List.set_cons_succ, List.set_cons_zero]
        refine q_move _ (.int .i64 x) rfl rfl ?_; simp only [Act.put, List.setIfInBounds_toArray, List.set_cons_succ, List.set_cons_zero]
        refine q_add _ _ _ _ (f) (x) (((f + x : Nat) : Int)) rfl rfl (by omega) (by omega) rfl ?_; simp only [Act.put, List.setIfInBounds_toArray, List.set_cons_succ, List.set_cons_zero]
        refine q_move _ (.string ⟨#[b]⟩) rfl rfl ?_; simp only [Act.put, List.setIfInBounds_toArray, List.set_cons_succ, List.set_cons_zero]
        refine q_take (.int .u8 b.toNat) rfl (fun w' hw' => e_val _ _ (s_idx0 Tryd.underlying9 b _)) ?_; simp only [Act.put, List.setIfInBounds_toArray, List.set_cons_succ, List.set_cons_zero]
        refine q_take (.pointer (some ⟨G, f + x, none⟩)) rfl (fun w' hw' => e_val _ _ (Tryd.six0 G g.c.length cap (f + x) hfx _)) ?_; simp only [Act.put, List.setIfInBounds_toArray, List.set_cons_succ, List.set_cons_zero]
        refine wpQuiet_nil ?_; intro w9 g9; have z9 := g9.size; have b2 := g9.blk b2; have gg := gg.trans g9
        have hown9 := g9.row hown
        have lo2 : w.heap.size ≤ G := hG
        have hln : (g.c.set (f + x) b).length = g.c.length := List.length_set
        have hlt2 : (g.c.set (f + x) b).length = nn g.w g.h := by rw [hln]; exact HLEN.out
        go_wp2_with (first | (refine r_store_own 5 5 _ _ G (f + x) g.c.length cap w.heap.size (cellsV g.c) rfl (byteV b) rfl hown9 hfx Tryd.sizeOf5 rfl rfl ?_; intro w10 u10 hown10; rw [cellsV_set] at hown10; have b2 := u10.blk b2 (by omega); have gg := u10.gr gg lo2) | (refine r_load_row 41 _ _ rfl _ _ _ b2 Tryd.underlying41 rfl Tryd.tinfo rfl ?_) | (go_at_call 39; refine (tyIf_any g.w g.h w.heap.size g.c.length (g.c.set (f + x) b) _ _ hw1 hh1 hw7 hh7 n36 hlt2 hln hown10).mono ?_; rintro e w11 ⟨rfl, g11⟩; have z11 := g11.size; have gg := gg.trans g11))
        go_ret2
        exact ⟨fin_sb HV.out.1.symm HV.out.2.symm, gg⟩
      · have HC1 := hidI (show oneB c = false from by simpa using h2)
        have HV := hidI (BAD.out (by unfold paOk; rw [HC1.out, Bool.and_false]))
        clear hp hg hk h2 x0 y0 x1 y1 ht
        go_wp2_with (first | (refine r_alloc 41 _ Tryd.tzero rfl ?_; intro w2 B2 N2; have g2 := N2.gr; have b2 : Blk w2 B2 (tg 0 0 (.slice none 0 0)) 41 := N2.blk; have l2 := N2.lo; have t2 := N2.hi; have z2 := g2.size; have gg := gg.trans g2; clear N2; obtain ⟨b2_0, b2_1, b2_2⟩ := tcells b2) | (refine r_store_row 41 41 _ _ _ rfl (tg _ _ _) _ rfl b2 Tryd.tsize rfl (tg_one hone) rfl ?_; intro w3 u3 b2'; have z3 := u3.size; have gg := u3.gr gg (by omega); clear b2; have b2 := b2'; clear b2'; obtain ⟨b2_0, b2_1, b2_2⟩ := tcells b2) | (refine r_load_row 41 _ _ rfl _ _ _ b2 Tryd.underlying41 rfl Tryd.tinfo rfl ?_) | (go_at_call 34; refine (tyCell_any g.w g.h _ x y _ hw7 hh7).mono ?_; rintro e w4 ⟨rfl, g4⟩; rw [HO.out]; have z4 := g4.size; have b2 := g4.blk b2; obtain ⟨b2_0, b2_1, b2_2⟩ := tcells b2; have gg := gg.trans g4) | (go_at_call 38; refine (tyOne_any _ _).mono ?_; rintro e wSame ⟨rfl, rfl⟩; rw [HC1.out]))
        go_ret2
        exact ⟨fin_sb HV.out.1.symm HV.out.2.symm, gg⟩
    · have HO := hidI (show (inB x g.w && inB y g.h) = false from by simpa using h1)
      have HV := hidI (BAD.out (by unfold paOk; rw [hg, HO.out, Bool.and_false]; rfl))
      clear hp hg hk h1 ht
      go_wp2_with (first | (refine r_alloc 41 _ Tryd.tzero rfl ?_; intro w2 B2 N2; have g2 := N2.gr; have b2 : Blk w2 B2 (tg 0 0 (.slice none 0 0)) 41 := N2.blk; have l2 := N2.lo; have t2 := N2.hi; have z2 := g2.size; have gg := gg.trans g2; clear N2; obtain ⟨b2_0, b2_1, b2_2⟩ := tcells b2) | (refine r_store_row 41 41 _ _ _ rfl (tg _ _ _) _ rfl b2 Tryd.tsize rfl (tg_one hone) rfl ?_; intro w3 u3 b2'; have z3 := u3.size; have gg := u3.gr gg (by omega); clear b2; have b2 := b2'; clear b2'; obtain ⟨b2_0, b2_1, b2_2⟩ := tcells b2) | (refine r_load_row 41 _ _ rfl _ _ _ b2 Tryd.underlying41 rfl Tryd.tinfo rfl ?_) | (go_at_call 34; refine (tyCell_any g.w g.h _ x y _ hw7 hh7).mono ?_; rintro e w4 ⟨rfl, g4⟩; rw [HO.out]; have z4 := g4.size; have b2 := g4.blk b2; obtain ⟨b2_0, b2_1, b2_2⟩ := tcells b2; have gg := gg.trans g4))
      go_ret2
      exact ⟨fin_sb HV.out.1.symm HV.out.2.symm, gg⟩
end Go.Proofs.YtedgocedomlhfaaDoor
