/-
  Machines in the model: GateTable.
-/
import Derived.Test.YtcjmikafomlbiaaGreatDoorGateA
namespace Go.Proofs.YtcjmikafomlbiaaGreatDoor
open Go.RowKit
theorem gtL_yes {l : List UInt8} {I O : List Int} {u : ByteArray} {g : Grid} (hg : rdG l = g) (h : gtOk l I O u = true) : gtL l I O u = tabL (gtF g I O u) (2 ^ I.length) := by unfold gtL; rw [if_pos h, hg]
theorem gtL_no {l : List UInt8} {I O : List Int} {u : ByteArray} (h : gtOk l I O u = false) : gtL l I O u = [] := by unfold gtL; rw [if_neg (by rw [h]; decide)]
theorem gtL_le (l : List UInt8) (I O : List Int) (u : ByteArray) : (gtL l I O u).length ≤ 8 := by
  cases h : gtOk l I O u
  · rw [gtL_no h]; exact Nat.zero_le _
  · rw [gtL_yes rfl h, tabL_length]
    unfold gtOk at h
    simp only [Bool.and_eq_true] at h
    have h2 := h.1.2
    unfold mcIn at h2
    simp only [Bool.and_eq_true] at h2
    have := (adB_len h2.1.1.1).2
    exact Nat.pow_le_pow_right (by decide) this
set_option maxHeartbeats 2000000 in
set_option maxRecDepth 100000 in
theorem sGateTable (s u : ByteArray) (I O : List Int) (bI bO : Nat) (slI slO : Value) (w : World) (hs : s.size ≤ 1048576) (hI : w.ownsRow bI 3 1 slI I.length (intsV I)) (hO : w.ownsRow bO 3 1 slO O.length (intsV O)) :
    Calls Tryz.prog 6 #[.string s, slI, slO, .string u] w (RetInts 3 (gtL s.data.toList I O u) (gtOk s.data.toList I O u) w) := by
  have gg := Gr.refl w
  have oneI := own_one hI
  have oneO := own_one hO
  go_enter Tryz.func6, Tryz.ntmps6
  go_wp2_with fail
  refine (mcGate_any s u I O bI bO slI slO _ hs hI hO).mono ?_
  rintro e w1 ⟨g1, ⟨hn, W0, H0, sl, hone, rfl⟩ | ⟨g, sl, hp, hin, hu, hy, rfl, hown⟩⟩
  · have HC := hidI hn
    have HV := hidI (gtL_no hn)
    have z1 := g1.size
    have gg := gg.trans g1
    clear hn
    go_wp2_with (first | (refine r_alloc (dst := some 10) 36 _ Tryz.tzero rfl ?_; intro w2 B2 N2; have g2 := N2.gr; have b2 : Blk w2 B2 (tg 0 0 (.slice none 0 0)) 36 := N2.blk; have l2 := N2.lo; have t2 := N2.hi; have z2 := g2.size; have gg := gg.trans g2; clear N2; obtain ⟨b2_0, b2_1, b2_2⟩ := tcells b2) | (refine r_store_row 36 36 _ _ _ rfl (tg _ _ _) _ rfl b2 Tryz.tsize rfl (tg_one hone) rfl ?_; intro w3 u3 b2'; have z3 := u3.size; have gg := u3.gr gg (by omega); clear b2; have b2 := b2'; clear b2'; obtain ⟨b2_0, b2_1, b2_2⟩ := tcells b2))
    go_ret2
    exact ⟨gg, _, fin_vb HC.out.symm, by rw [HV.out]; exact World.ownsRow_nil _ _ _ _⟩
  · obtain ⟨hc, -, -, hl⟩ := cel_of hp
    have HC := hidI hy
    have HV := hidI (gtL_yes (rd_parse_some hp).1 hy)
    have hone := own_one hown
    have z1 := g1.size
    have hI := g1.row hI
    have hO := g1.row hO
    have gg := gg.trans g1
    obtain ⟨G0, cap, rfl, -, -⟩ := own_shape hown hl
    have HT := hidI (fun (w0 : World) (h1 : w0.ownsRow w.heap.size 5 1 (.slice (some ⟨G0, 0, none⟩) g.c.length cap) g.c.length (cellsV g.c)) (h2 : w0.ownsRow bI 3 1 slI I.length (intsV I)) (h3 : w0.ownsRow bO 3 1 slO O.length (intsV O)) => mcTable_any g I O u w.heap.size bI bO G0 cap slI slO w0 hc hl hu hin h1 h2 h3)
    clear hy hp hin hu hc hl
    go_wp2_with (first | ((refine r_alloc (dst := some 10) 36 _ Tryz.tzero rfl ?_; intro w2 B2 N2; have g2 := N2.gr; have b2 : Blk w2 B2 (tg 0 0 (.slice none 0 0)) 36 := N2.blk; have l2 := N2.lo; have t2 := N2.hi; have z2 := g2.size; have gg := gg.trans g2; clear N2; obtain ⟨b2_0, b2_1, b2_2⟩ := tcells b2); have hI := g2.row hI; have hO := g2.row hO; have hown := g2.row hown) | (have nI := own_ne hI b2 (by decide); have nO := own_ne hO b2 (by decide); have nW := own_ne hown b2 (by decide); (refine r_store_row 36 36 _ _ _ rfl (tg _ _ _) _ rfl b2 Tryz.tsize rfl (tg_one hone) rfl ?_; intro w3 u3 b2'; have z3 := u3.size; have gg := u3.gr gg (by omega); clear b2; have b2 := b2'; clear b2'; obtain ⟨b2_0, b2_1, b2_2⟩ := tcells b2); have hown := u3.row hown nW; have hI := u3.row hI nI; have hO := u3.row hO nO) | (refine r_load_row 36 _ _ rfl _ _ _ b2 Tryz.underlying36 rfl Tryz.tinfo rfl ?_))
    refine (HT.out _ hown hI hO).mono ?_
    rintro e w4 ⟨g4, v4, rfl, own4⟩
    have z3 := gg.size
    have gg := gg.trans g4
    have own5 : w4.ownsRow w.heap.size 3 1 v4 (gtL s.data.toList I O u).length (intsV (gtL s.data.toList I O u)) := by rw [HV.out, tabL_length]; exact own_up own4 z3
    go_wp2
    go_ret2
    exact ⟨gg, _, fin_vb HC.out.symm, own5⟩
end Go.Proofs.YtcjmikafomlbiaaGreatDoor
