/-
  What the program's functions on a tray's text that look at its cells return: how many cells have a text.
-/
import Derived.Test.YtedgocedomlhfaaDoorImpl1d
import Derived.Test.YtedgocedomlhfaaDoorImpl1e
namespace Go.Proofs.YtedgocedomlhfaaDoor
open Go.RowKit
theorem rd_cases (l : List UInt8) : (parse l = none ∧ rdG l = ⟨0, 0, []⟩ ∧ rdOk l = false) ∨ ∃ g, parse l = some g ∧ rdG l = g ∧ rdOk l = true := by
  cases h : parse l with
  | none => exact .inl ⟨rfl, by unfold rdG rdOk; rw [h]; exact ⟨rfl, rfl⟩⟩
  | some g => exact .inr ⟨g, rfl, by unfold rdG rdOk; rw [h]; exact ⟨rfl, rfl⟩⟩
structure Tray (g : Grid) : Prop where
  w1 : 1 ≤ g.w
  h1 : 1 ≤ g.h
  w7 : g.w ≤ 7
  h7 : g.h ≤ 7
  n36 : nn g.w g.h ≤ 36
  len : g.c.length = nn g.w g.h
  cells : ∀ i, i < g.c.length → isCellB (at0 g.c i) = true
theorem parse_tray {l : List UInt8} {g : Grid} (h : parse l = some g) : Tray g := by
  obtain ⟨⟨a, b, c, d⟩, e, f⟩ := parse_fits h
  obtain ⟨k, _, hc⟩ := parse_some h
  refine ⟨e, f, a, b, c, d, ?_⟩
  rw [hc]
  exact (all_at0 _ isCellB).1 (List.all_eq_true.2 k.cells)
theorem fin_nb {a c : Int} {x y : Bool} (h1 : a = c) (h2 : x = y) : Ending.returned (.tuple #[.int .i64 a, .bool x]) = .returned (.tuple #[.int .i64 c, .bool y]) := by rw [h1, h2]
theorem fin_sb {a c : ByteArray} {x y : Bool} (h1 : a = c) (h2 : x = y) : Ending.returned (.tuple #[.string a, .bool x]) = .returned (.tuple #[.string c, .bool y]) := by rw [h1, h2]
def ccOk (l : List UInt8) (c : ByteArray) : Bool := rdOk l && oneB c
def ccN (l : List UInt8) (c : ByteArray) : Nat := if ccOk l c then (rdG l).c.count (hd c) else 0
set_option maxHeartbeats 1000000 in
theorem iCountCells (s c : ByteArray) (w : World) (hm : ML w) (hs : s.size ≤ 1048576) : Calls Tryd.prog 17 #[.string s, .string c] w (Ret (.tuple #[.int .i64 (ccN s.data.toList c), .bool (ccOk s.data.toList c)]) w) := by
  have gg := Gr.refl w
  rcases rd_cases s.data.toList with ⟨hp, hg, hk⟩ | ⟨g, hp, hg, hk⟩
  · have HK := hidI hk
    have HV := hidI (show ccOk s.data.toList c = false from by unfold ccOk; rw [hk]; rfl)
    clear hp hg hk
    go_enter Tryd.func17, Tryd.ntmps17
    go_wp2_with (first | (go_at_call 35; refine (readTray_any s _ hm hs).mono ?_; rintro e w1 ⟨rfl, g1⟩; rw [HK.out]; have z1 := g1.size; have gg := gg.trans g1) | (refine r_alloc 47 _ Tryd.gzero rfl ?_; intro w2 B2 N2; have g2 := N2.gr; have b2 : Blk w2 B2 (gv 0 0 []) 47 := N2.blk; have l2 := N2.lo; have t2 := N2.hi; have z2 := g2.size; have gg := gg.trans g2; clear N2; obtain ⟨b2_0, b2_1, b2_2⟩ := gcells b2) | (refine r_store_row 47 47 _ _ _ rfl (gv _ _ _) _ rfl b2 (Tryd.gsize' _ _ _) (by simp only [gv_size]) (gv_one _ _ _) rfl ?_; intro w3 u3 b2'; have z3 := u3.size; have gg := u3.gr gg (by omega); clear b2; have b2 := b2'; clear b2'; obtain ⟨b2_0, b2_1, b2_2⟩ := gcells b2))
    go_ret2
    exact ⟨fin_nb (by unfold ccN; rw [HV.out]; rfl) (by rw [HV.out]), gg⟩
  · have HK := hidI hk
    have HG := hidI hg
    have ht := parse_tray hp
    by_cases h1 : oneB c = true
    · have hsz : c.size = 1 := by
        unfold oneB at h1; rw [Bool.and_eq_true, decide_eq_true_eq] at h1; exact h1.1
      have hc := one_of c hsz
      obtain ⟨b, hb⟩ : ∃ b, hd c = b := ⟨_, rfl⟩
      rw [hb] at hc
      subst hc
      have HO := hidI h1
      have HV := hidI (show ccOk s.data.toList ⟨#[b]⟩ = true from by unfold ccOk; rw [hk, h1]; rfl)
      have HC := hidI (show ccN s.data.toList ⟨#[b]⟩ = cnt g.c b (nn g.w g.h) from by
        unfold ccN; rw [HV.out, hg, ← ht.len, cnt_all]; rfl)
      have w7 := ht.w7
      have h7 := ht.h7
      have n36 := ht.n36
      clear hp hg hk h1 hb hsz ht
      go_enter Tryd.func17, Tryd.ntmps17
      go_wp2_with (first | (go_at_call 35; refine (readTray_any s _ hm hs).mono ?_; rintro e w1 ⟨rfl, g1⟩; rw [HK.out, HG.out, gvG]; have z1 := g1.size; have gg := gg.trans g1) | (refine r_alloc 47 _ Tryd.gzero rfl ?_; intro w2 B2 N2; have g2 := N2.gr; have b2 : Blk w2 B2 (gv 0 0 []) 47 := N2.blk; have l2 := N2.lo; have t2 := N2.hi; have z2 := g2.size; have gg := gg.trans g2; clear N2; obtain ⟨b2_0, b2_1, b2_2⟩ := gcells b2) | (refine r_store_row 47 47 _ _ _ rfl (gv g.w g.h g.c) _ rfl b2 (Tryd.gsize' _ _ _) (by simp only [gv_size]) (gv_one _ _ _) rfl ?_; intro w3 u3 b2'; have z3 := u3.size; have gg := u3.gr gg (by omega); clear b2; have b2 := b2'; clear b2'; obtain ⟨b2_0, b2_1, b2_2⟩ := gcells b2) | (go_at_call 40; refine (isCell_any _ _).mono ?_; rintro e wSame ⟨rfl, rfl⟩; rw [HO.out]))
      refine q_begin 4 (by kernel_rfl) (by kernel_rfl) ?_
      simp only [List.take_succ_cons, List.take_zero, List.drop_succ_cons, List.drop_zero]
      refine q_take (.agg (gv _ _ _)) rfl (fun w' hw' => e_load_row 47 (.tmp 6) _ _ _ _ rfl (hw'.blk b2) Tryd.underlying47 rfl (Tryd.ginfo' _ _ _)) ?_; simp only [Act.put, List.setIfInBounds_toArray, List.set_cons_succ, List.set_cons_zero]
      refine q_move _ (.string ⟨#[b]⟩) rfl rfl ?_; simp only [Act.put, List.setIfInBounds_toArray, List.set_cons_succ, List.set_cons_zero]
      refine q_take (.int .u8 b.toNat) rfl (fun w' hw' => e_val _ _ (s_idx0 Tryd.underlying9 b _)) ?_; simp only [Act.put, List.setIfInBounds_toArray, List.set_cons_succ, List.set_cons_zero]
      refine q_call 43 [.tmp 20, .tmp 22] _ [.agg (gv g.w g.h g.c), .int .u8 b.toNat] (.int .i64 (cnt g.c b (nn g.w g.h))) Tryd.call43 rfl rfl (fun w' hw' => ((countByte_any g.w g.h g.c b w' w7 h7 n36).mono fun e w'' h => ⟨h.1, hw'.trans h.2⟩)) ?_; simp only [Act.put, List.setIfInBounds_toArray, List.set_cons_succ, List.set_cons_zero]
      refine wpQuiet_nil ?_
      intro w9 g9
      go_wp2
      go_ret2
      exact ⟨fin_nb (by rw [HC.out]) (by rw [HV.out]), gg.trans g9⟩
    · have HO := hidI (show oneB c = false from by simpa using h1)
      have HV := hidI (show ccOk s.data.toList c = false from by unfold ccOk; rw [HO.out, Bool.and_false])
      clear hp hg hk h1
      go_enter Tryd.func17, Tryd.ntmps17
      go_wp2_with (first | (go_at_call 35; refine (readTray_any s _ hm hs).mono ?_; rintro e w1 ⟨rfl, g1⟩; rw [HK.out, HG.out, gvG]; have z1 := g1.size; have gg := gg.trans g1) | (refine r_alloc 47 _ Tryd.gzero rfl ?_; intro w2 B2 N2; have g2 := N2.gr; have b2 : Blk w2 B2 (gv 0 0 []) 47 := N2.blk; have l2 := N2.lo; have t2 := N2.hi; have z2 := g2.size; have gg := gg.trans g2; clear N2; obtain ⟨b2_0, b2_1, b2_2⟩ := gcells b2) | (refine r_store_row 47 47 _ _ _ rfl (gv g.w g.h g.c) _ rfl b2 (Tryd.gsize' _ _ _) (by simp only [gv_size]) (gv_one _ _ _) rfl ?_; intro w3 u3 b2'; have z3 := u3.size; have gg := u3.gr gg (by omega); clear b2; have b2 := b2'; clear b2'; obtain ⟨b2_0, b2_1, b2_2⟩ := gcells b2) | (go_at_call 40; refine (isCell_any _ _).mono ?_; rintro e wSame ⟨rfl, rfl⟩; rw [HO.out]))
      go_ret2
      exact ⟨fin_nb (by unfold ccN; rw [HV.out]; rfl) (by rw [HV.out]), gg⟩
end Go.Proofs.YtedgocedomlhfaaDoor
