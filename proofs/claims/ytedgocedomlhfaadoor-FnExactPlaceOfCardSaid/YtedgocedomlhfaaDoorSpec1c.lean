/-
  What the model's functions on single cells return: whether a text is one cell, how many cells have a text.
-/
import Derived.Test.YtedgocedomlhfaaDoorSpec1b
import Derived.Test.YtedgocedomlhfaaDoorImpl1f
import Derived.Test.YtedgocedomlhfaaDoorFnA
namespace Go.Proofs.YtedgocedomlhfaaDoor
open Go.RowKit
theorem beq_byte {b c : UInt8} (h : b = c) : ((b.toNat : Int) == (c.toNat : Int)) = true := by rw [h]; simp
theorem bne_byte {b c : UInt8} (h : ¬ b = c) : ((b.toNat : Int) == (c.toNat : Int)) = false := by
  rw [beq_eq_false_iff_ne]; intro e; exact h (UInt8.toNat_inj.1 (by omega))
theorem own_new {w : World} {base : Nat} {e : TypeId} {size : Nat} {v : Value} {n : Nat} {xs : List Value} (hr : w.ownsRow base e size v n xs) {B : Nat} (hB : w.heap.size ≤ B) : v.ownBlock ≠ some B := fun h => by
  have := (hr.lt B h).2
  omega
set_option maxHeartbeats 400000 in
theorem tyOne_any (s : ByteArray) (w : World) : Calls Tryd.prog 38 #[.string s] w fun e w' => e = .returned (.bool (oneB s)) ∧ w = w' := by
  by_cases h : s.size = 1
  · have hs := one_of s h
    obtain ⟨b, hb⟩ : ∃ b, hd s = b := ⟨_, rfl⟩
    rw [hb] at hs
    subst hs
    have HV := hidI (show isCellB b = oneB ⟨#[b]⟩ from by simp [oneB, hd, ByteArray.size])
    have hix := fun w => s_idx0 (P := Tryd.prog) Tryd.underlying9 b w
    clear h hb
    go_enter Tryd.func38, Tryd.ntmps38
    go_wp2_with (go_at_call 56; refine (tyIs_any _ _).mono ?_; rintro e wSame ⟨rfl, rfl⟩)
    go_ret
    exact ⟨ret_bool HV.out, rfl⟩
  · have HV := hidI (show oneB s = false from by unfold oneB; rw [decide_eq_false h]; rfl)
    have hn : ((s.size : Int) == 1) = false := by rw [beq_eq_false_iff_ne]; omega
    clear h
    go_enter Tryd.func38, Tryd.ntmps38
    go_wp2
    go_ret
    exact ⟨ret_bool HV.out.symm, rfl⟩
set_option maxHeartbeats 1000000 in
theorem sCountCells (s c : ByteArray) (w : World) (hs : s.size ≤ 1048576) : Calls Tryd.prog 16 #[.string s, .string c] w (Ret (.tuple #[.int .i64 (ccN s.data.toList c), .bool (ccOk s.data.toList c)]) w) := by
  have gg := Gr.refl w
  go_enter Tryd.func16, Tryd.ntmps16
  go_wp2_with fail
  refine (tyRead_any s _ hs).mono ?_
  rintro e w1 ⟨g1, ⟨hp, rfl⟩ | ⟨g, sl, hp, rfl, hown⟩⟩
  · have HV := hidI (show ccOk s.data.toList c = false from by unfold ccOk; rw [(rd_parse_none hp).2]; rfl)
    have z1 := g1.size
    have gg := gg.trans g1
    clear hp
    go_wp2_with (first | (refine r_alloc 41 _ Tryd.tzero rfl ?_; intro w2 B2 N2; have g2 := N2.gr; have b2 : Blk w2 B2 (tg 0 0 (.slice none 0 0)) 41 := N2.blk; have l2 := N2.lo; have t2 := N2.hi; have z2 := g2.size; have gg := gg.trans g2; clear N2; obtain ⟨b2_0, b2_1, b2_2⟩ := tcells b2) | (refine r_store_row 41 41 _ _ _ rfl (tg _ _ _) _ rfl b2 Tryd.tsize rfl (tg_one rfl) rfl ?_; intro w3 u3 b2'; have z3 := u3.size; have gg := u3.gr gg (by omega); clear b2; have b2 := b2'; clear b2'; obtain ⟨b2_0, b2_1, b2_2⟩ := tcells b2))
    go_ret2
    exact ⟨fin_nb (by unfold ccN; rw [HV.out]; rfl) (by rw [HV.out]), gg⟩
  · obtain ⟨hg, hk⟩ := rd_parse_some hp
    have ht := parse_tray hp
    have z1 := g1.size
    have gg := gg.trans g1
    have hone := own_one hown
    by_cases h1 : oneB c = true
    · have hsz : c.size = 1 := by
        unfold oneB at h1; rw [Bool.and_eq_true, decide_eq_true_eq] at h1; exact h1.1
      have hc := one_of c hsz
      obtain ⟨b, hb⟩ : ∃ b, hd c = b := ⟨_, rfl⟩
      rw [hb] at hc
      subst hc
      have HO := hidI h1
      have HV := hidI (show ccOk s.data.toList ⟨#[b]⟩ = true from by unfold ccOk; rw [hk, h1]; rfl)
      have HC := hidI (show ccN s.data.toList ⟨#[b]⟩ = cnt g.c b g.c.length from by
        unfold ccN; rw [HV.out, hg, cnt_all]; rfl)
      have n36 := ht.n36
      have hl36 : g.c.length ≤ 36 := by rw [ht.len]; exact n36
      have hl1 : 0 < g.c.length := by rw [ht.len]; exact Nat.mul_pos ht.w1 ht.h1
      have hix := fun w => s_idx0 (P := Tryd.prog) Tryd.underlying9 b w
      obtain ⟨G, cap, rfl, hG, hcap⟩ := own_shape hown hl1
      clear hp hg hk h1 hb hsz ht
      go_wp2_with (first | (refine r_alloc 41 _ Tryd.tzero rfl ?_; intro w2 B2 N2; have g2 := N2.gr; have b2 : Blk w2 B2 (tg 0 0 (.slice none 0 0)) 41 := N2.blk; have l2 := N2.lo; have t2 := N2.hi; have z2 := g2.size; have gg := gg.trans g2; clear N2; obtain ⟨b2_0, b2_1, b2_2⟩ := tcells b2) | (refine r_store_row 41 41 _ _ _ rfl (tg _ _ _) _ rfl b2 Tryd.tsize rfl (tg_one hone) rfl ?_; intro w3 u3 b2'; have z3 := u3.size; have gg := u3.gr gg (by omega); clear b2; have b2 := b2'; clear b2'; obtain ⟨b2_0, b2_1, b2_2⟩ := tcells b2) | (go_at_call 38; refine (tyOne_any _ _).mono ?_; rintro e wSame ⟨rfl, rfl⟩; rw [HO.out]))
      have hown := u3.row (g2.row hown) (own_new hown l2)
      go_loop [8, 10, 26] (fun n _ i => ∃ k : Nat, k ≤ g.c.length ∧ i = .int .i64 k ∧ n = .int .i64 (cnt g.c b k)) (fun _ _ i => g.c.length - (intOf i).toNat)
      case atStart => exact ⟨0, Nat.zero_le _, rfl, rfl⟩
      case round =>
        obtain ⟨k, hk, rfl, rfl⟩ := hrel
        have hle := cnt_le g.c b k
        by_cases hlt : k < g.c.length
        · have hck := own_cell hown k hlt rfl
          by_cases hb : at0 g.c k = b
          · have e1 := hidI (show cnt g.c b (k + 1) = cnt g.c b k + 1 from by rw [cnt, if_pos hb])
            have ht := beq_byte hb
            clear hb
            go_wp2
            go_round
            case rel => exact ⟨k + 1, by omega, by go_num, by rw [e1.out]; go_num⟩
            case measure => simp [intOf]; omega
          · have e1 := hidI (show cnt g.c b (k + 1) = cnt g.c b k from by rw [cnt, if_neg hb]; rfl)
            have ht := bne_byte hb
            clear hb
            go_wp2
            go_round
            case rel => exact ⟨k + 1, by omega, by go_num, by rw [e1.out]⟩
            case measure => simp [intOf]; omega
        · obtain rfl : k = g.c.length := by omega
          clear hlt
          go_wp2
          go_ret2
          exact ⟨fin_nb (by rw [HC.out]) (by rw [HV.out]), gg⟩
    · have HO := hidI (show oneB c = false from by simpa using h1)
      have HV := hidI (show ccOk s.data.toList c = false from by unfold ccOk; rw [HO.out, Bool.and_false])
      clear hp hg hk h1
      go_wp2_with (first | (refine r_alloc 41 _ Tryd.tzero rfl ?_; intro w2 B2 N2; have g2 := N2.gr; have b2 : Blk w2 B2 (tg 0 0 (.slice none 0 0)) 41 := N2.blk; have l2 := N2.lo; have t2 := N2.hi; have z2 := g2.size; have gg := gg.trans g2; clear N2; obtain ⟨b2_0, b2_1, b2_2⟩ := tcells b2) | (refine r_store_row 41 41 _ _ _ rfl (tg _ _ _) _ rfl b2 Tryd.tsize rfl (tg_one hone) rfl ?_; intro w3 u3 b2'; have z3 := u3.size; have gg := u3.gr gg (by omega); clear b2; have b2 := b2'; clear b2'; obtain ⟨b2_0, b2_1, b2_2⟩ := tcells b2) | (go_at_call 38; refine (tyOne_any _ _).mono ?_; rintro e wSame ⟨rfl, rfl⟩; rw [HO.out]))
      go_ret2
      exact ⟨fin_nb (by unfold ccN; rw [HV.out]; rfl) (by rw [HV.out]), gg⟩
end Go.Proofs.YtedgocedomlhfaaDoor
