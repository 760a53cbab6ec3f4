/-
  GateNumber: both sides and the law.
-/
import Derived.Test.YtcjmikafomlbiaaGreatDoorGateL
namespace Go.Proofs.YtcjmikafomlbiaaGreatDoor
open Go.RowKit
def gnI (S : Nat → Int) : Nat → Int
  | 0 => 0
  | k + 1 => 2 * gnI S k + S k
theorem gnI_succ (S : Nat → Int) (k : Nat) : gnI S (k + 1) = 2 * gnI S k + S k := rfl
theorem gnI_le {S : Nat → Int} : ∀ k, (∀ j, j < k → 0 ≤ S j ∧ S j ≤ 7) → 0 ≤ gnI S k ∧ gnI S k + 8 ≤ 8 * ((2 ^ k : Nat) : Int)
  | 0, _ => by simp [gnI]
  | k + 1, h => by
    have ih := gnI_le k (fun j hj => h j (by omega))
    have hs := h k (by omega)
    rw [gnI_succ]
    have e : (2 : Nat) ^ (k + 1) = 2 ^ k * 2 := Nat.pow_succ 2 k
    omega
theorem gnI_congr {S T : Nat → Int} : ∀ k, (∀ j, j < k → S j = T j) → gnI S k = gnI T k
  | 0, _ => rfl
  | k + 1, h => by rw [gnI_succ, gnI_succ, gnI_congr k (fun j hj => h j (by omega)), h k (by omega)]
def gnOk (l : List UInt8) (I : List Int) (o : Int) (u : ByteArray) : Bool := gtOk l I [o] u && decide (I.length = 2)
def gnF (l : List UInt8) (I : List Int) (o : Int) (u : ByteArray) : Nat → Int := fun k => ((gtF (rdG l) I [o] u k : Nat) : Int)
def gnV (l : List UInt8) (I : List Int) (o : Int) (u : ByteArray) : Int := if gnOk l I o u then gnI (gnF l I o u) 4 else 0
theorem gtF_small (g : Grid) (I : List Int) (o : Int) (u : ByteArray) (k : Nat) : 0 ≤ ((gtF g I [o] u k : Nat) : Int) ∧ ((gtF g I [o] u k : Nat) : Int) ≤ 7 := by
  have h := otN_lt (runG (wds u) ⟨g.w, g.h, mtTo g.c (cellOf I) I.length k I.length⟩).c [o] [o].length
  have h5 : (2 : Nat) ^ [o].length = 2 := rfl
  unfold gtF
  omega
theorem tabL_gi {f : Nat → Nat} {n k : Nat} (h : k < n) : gi (tabL f n) k = ((f k : Nat) : Int) := by
  unfold gi tabL
  rw [List.getD_eq_getElem?_getD, List.getElem?_map, List.getElem?_range h]
  rfl
theorem own_sl1 {w w1 : World} {B : Nat} {T : TypeId} {o : Int} (N : New w w1 B #[.int .i64 o] T) : w1.ownsRow w.heap.size T 1 (.slice (some ⟨B, 0, none⟩) 1 1) [o].length (intsV [o]) :=
  ⟨rfl, .inr ⟨B, 1, _, rfl, N.lo, N.blk, Nat.le_refl _, by unfold maxLen; omega, rfl, rfl⟩⟩
def RetTw (T : TypeId) (l : List UInt8) (I : List Int) (o : Int) (u : ByteArray) (w : World) (e : Ending) (w' : World) : Prop :=
  Gr w w' ∧ ((gnOk l I o u = false ∧ ∃ W H sl, sl.oneCell' = true ∧ e = .returned (.tuple #[.agg (tg W H sl), .bool false])) ∨
    ∃ g sl, parse l = some g ∧ mcIn g I [o] = true ∧ wordB u = true ∧ I.length = 2 ∧ gnOk l I o u = true ∧ e = .returned (.tuple #[.agg (tg g.w g.h sl), .bool true]) ∧ w'.ownsRow w.heap.size T 1 sl g.c.length (cellsV g.c))
set_option maxHeartbeats 1000000 in
set_option maxRecDepth 100000 in
theorem mcTwo_any (s u : ByteArray) (I : List Int) (o : Int) (bI : Nat) (slI : Value) (w : World) (hs : s.size ≤ 1048576) (hI : w.ownsRow bI 3 1 slI I.length (intsV I)) :
    Calls Tryz.prog 24 #[.string s, slI, .int .i64 o, .string u] w (RetTw 5 s.data.toList I o u w) := by
  have gg := Gr.refl w
  obtain ⟨pI, kI, rfl⟩ := own_sliceN hI
  obtain ⟨n, hn⟩ : ∃ n, n = I.length := ⟨_, rfl⟩
  have HG := hidI (fun (w0 : World) (b2 : Nat) (v : Value) (h1 : w0.ownsRow bI 3 1 (.slice pI I.length kI) I.length (intsV I)) (h : w0.ownsRow b2 3 1 v [o].length (intsV [o])) => mcGate_any s u I [o] bI b2 (.slice pI I.length kI) v w0 hs h1 h)
  rw [← hn] at hI HG ⊢
  have HN := hidI hn
  obtain ⟨b, hb⟩ : ∃ b, b = decide (n = 2) := ⟨_, rfl⟩
  have e0 : ((n : Int) == 2) = b := by
    rw [hb, Bool.eq_iff_iff, beq_iff_eq, decide_eq_true_eq]
    omega
  have HB := hidI hb
  have HK := hidI (show gnOk s.data.toList I o u = (gtOk s.data.toList I [o] u && b) from by unfold gnOk; rw [← hn, hb])
  clear hb hn
  go_enter Tryz.func24, Tryz.ntmps24
  go_wp2_with (first | ((refine r_alloc (dst := some 8) 36 _ Tryz.tzero rfl ?_; intro w1 B1 N1; have g1 := N1.gr; have b1 : Blk w1 B1 (tg 0 0 (.slice none 0 0)) 36 := N1.blk; have l1 := N1.lo; have t1 := N1.hi; have z1 := g1.size; have gg := gg.trans g1; clear N1; obtain ⟨b1_0, b1_1, b1_2⟩ := tcells b1); have hI := g1.row hI) | (refine r_slice1 22 3 (.tmp 15) (.int .i64 o) rfl (Tryz.bsi1 _ _) rfl ?_; intro w2 B2 N2; have ho := own_sl1 N2; have g2 := N2.gr; have b1 := g2.blk b1; have hI := g2.row hI; have z2 := g2.size; have gg := gg.trans g2))
  refine (HG.out _ _ _ hI ho).mono ?_
  rintro e w3 ⟨g3, ⟨hno, W0, H0, sl, hone, rfl⟩ | ⟨g, sl, hp, hin, hu, hy, rfl, hown⟩⟩
  · have HR := hidI (show gnOk s.data.toList I o u = false from by rw [HK.out, hno]; rfl)
    have z3 := g3.size
    have b1 := g3.blk b1
    have gg := gg.trans g3
    clear hno
    go_wp2_with (first | (refine r_alloc (dst := some 10) 36 _ Tryz.tzero rfl ?_; intro w4 B4 N4; have g4 := N4.gr; have b4 : Blk w4 B4 (tg 0 0 (.slice none 0 0)) 36 := N4.blk; have l4 := N4.lo; have t4 := N4.hi; have z4 := g4.size; have b1 := g4.blk b1; obtain ⟨b1_0, b1_1, b1_2⟩ := tcells b1; have gg := gg.trans g4; clear N4; obtain ⟨b4_0, b4_1, b4_2⟩ := tcells b4) | (refine r_store_row 36 36 _ _ _ rfl (tg _ _ _) _ rfl b4 Tryz.tsize rfl (tg_one hone) rfl ?_; intro w5 u5 b4'; have z5 := u5.size; have gg := u5.gr gg (by omega); have b1 := u5.blk b1 (by omega); obtain ⟨b1_0, b1_1, b1_2⟩ := tcells b1; clear b4; have b4 := b4'; clear b4'; obtain ⟨b4_0, b4_1, b4_2⟩ := tcells b4) | (refine r_load_row 36 _ _ rfl _ _ _ b4 Tryz.underlying36 rfl Tryz.tinfo rfl ?_) | (refine r_store_row 36 36 _ _ _ rfl (tg _ _ _) _ rfl b1 Tryz.tsize rfl (tg_one hone) rfl ?_; intro w6 u6 b1'; have z6 := u6.size; have gg := u6.gr gg (by omega); clear b1; have b1 := b1'; clear b1'; obtain ⟨b1_0, b1_1, b1_2⟩ := tcells b1))
    refine bodyPost_ret (results_row_bool rfl _ _ _ _ _ _ rfl b1 Tryz.underlying36 rfl Tryz.tinfo) rfl ?_
    exact ⟨gg, .inl ⟨HR.out, _, _, _, hone, rfl⟩⟩
  · have hone := own_one hown
    have z3 := g3.size
    have b1 := g3.blk b1
    have gg := gg.trans g3
    have HKY := hidI (show gnOk s.data.toList I o u = b from by rw [HK.out, hy, Bool.true_and])
    have HP := hidI hp
    have HI := hidI hin
    have HU := hidI hu
    clear hy hp hin hu
    go_wp2_with (first | ((refine r_alloc (dst := some 10) 36 _ Tryz.tzero rfl ?_; intro w4 B4 N4; have g4 := N4.gr; have b4 : Blk w4 B4 (tg 0 0 (.slice none 0 0)) 36 := N4.blk; have l4 := N4.lo; have t4 := N4.hi; have z4 := g4.size; have b1 := g4.blk b1; obtain ⟨b1_0, b1_1, b1_2⟩ := tcells b1; have gg := gg.trans g4; clear N4; obtain ⟨b4_0, b4_1, b4_2⟩ := tcells b4); have hown := g4.row hown) | (have nW := own_ne hown b4 (by decide); (refine r_store_row 36 36 _ _ _ rfl (tg _ _ _) _ rfl b4 Tryz.tsize rfl (tg_one hone) rfl ?_; intro w5 u5 b4'; have z5 := u5.size; have gg := u5.gr gg (by omega); have b1 := u5.blk b1 (by omega); obtain ⟨b1_0, b1_1, b1_2⟩ := tcells b1; clear b4; have b4 := b4'; clear b4'; obtain ⟨b4_0, b4_1, b4_2⟩ := tcells b4); have hown := u5.row hown nW) | (refine r_load_row 36 _ _ rfl _ _ _ b4 Tryz.underlying36 rfl Tryz.tinfo rfl ?_) | (have nW := own_ne hown b1 (by decide); (refine r_store_row 36 36 _ _ _ rfl (tg _ _ _) _ rfl b1 Tryz.tsize rfl (tg_one hone) rfl ?_; intro w6 u6 b1'; have z6 := u6.size; have gg := u6.gr gg (by omega); clear b1; have b1 := b1'; clear b1'; obtain ⟨b1_0, b1_1, b1_2⟩ := tcells b1); have hown := u6.row hown nW))
    refine bodyPost_ret (results_row_bool rfl _ _ _ _ _ _ rfl b1 Tryz.underlying36 rfl Tryz.tinfo) rfl ?_
    cases hbb : b
    · exact ⟨gg, .inl ⟨by rw [HKY.out, hbb], _, _, _, hone, rfl⟩⟩
    · exact ⟨gg, .inr ⟨g, sl, HP.out, HI.out, HU.out, by rw [← HN.out]; have h := HB.out; rw [hbb] at h; exact of_decide_eq_true h.symm, by rw [HKY.out, hbb], rfl, own_up hown (by omega)⟩⟩
set_option maxHeartbeats 1000000 in
set_option maxRecDepth 100000 in
theorem mcNumber_any (g : Grid) (I : List Int) (o : Int) (u : ByteArray) (base bI G0 cap : Nat) (slI : Value) (w : World) (hc : Cel g) (hl1 : 0 < g.c.length) (hu : wordB u = true) (hin : mcIn g I [o] = true) (h2 : I.length = 2)
    (hown : w.ownsRow base 5 1 (.slice (some ⟨G0, 0, none⟩) g.c.length cap) g.c.length (cellsV g.c)) (hI : w.ownsRow bI 3 1 slI I.length (intsV I)) :
    Calls Tryz.prog 25 #[.agg (tg g.w g.h (.slice (some ⟨G0, 0, none⟩) g.c.length cap)), slI, .int .i64 o, .string u] w (Ret (.int .i64 (gnI (fun k => ((gtF g I [o] u k : Nat) : Int)) 4)) w) := by
  have gg := Gr.refl w
  have hone := own_one hown
  have oneI := own_one hI
  have HT := hidI (fun (w0 : World) (b2 : Nat) (v : Value) (h1 : w0.ownsRow base 5 1 (.slice (some ⟨G0, 0, none⟩) g.c.length cap) g.c.length (cellsV g.c)) (h3 : w0.ownsRow bI 3 1 slI I.length (intsV I)) (h : w0.ownsRow b2 3 1 v [o].length (intsV [o])) => show Calls Tryz.prog 17 #[.agg (tg g.w g.h (.slice (some ⟨G0, 0, none⟩) g.c.length cap)), slI, v, .string u] w0 fun e w' => Gr w0 w' ∧ ∃ v, e = .returned v ∧ w'.ownsRow w0.heap.size 3 1 v 4 (intsV (tabL (gtF g I [o] u) 4)) from by
    have h4 := mcTable_any g I [o] u base bI b2 G0 cap slI v w0 hc hl1 hu hin h1 h3 h
    rw [show (2 : Nat) ^ I.length = 4 by rw [h2]] at h4
    exact h4)
  have HSM := hidI (gtF_small g I o u)
  obtain ⟨f, hf⟩ : ∃ f, f = gtF g I [o] u := ⟨_, rfl⟩
  rw [← hf] at HT HSM ⊢
  obtain ⟨sl, hsl⟩ : ∃ sl, sl = Value.slice (some ⟨G0, 0, none⟩) g.c.length cap := ⟨_, rfl⟩
  rw [← hsl] at hown hone HT ⊢
  clear hf hc hl1 hu hin h2 hsl
  go_enter Tryz.func25, Tryz.ntmps25
  go_wp2_with (first | ((refine r_box (dst := some 4) 36 _ (tg (g.w) (g.h) (sl)) rfl rfl ?_; intro w1 B1 N1; have g1 := N1.gr; have b1 : Blk w1 B1 (tg (g.w) (g.h) (sl)) 36 := N1.blk; have l1 := N1.lo; have t1 := N1.hi; have z1 := g1.size; have gg := gg.trans g1; clear N1; obtain ⟨b1_0, b1_1, b1_2⟩ := tcells b1); have hI := g1.row hI; have hown := g1.row hown) | (refine r_load_row 36 _ _ rfl _ _ _ b1 Tryz.underlying36 rfl Tryz.tinfo rfl ?_) | (refine r_slice1 22 3 (.tmp 14) (.int .i64 o) rfl (Tryz.bsi1 _ _) rfl ?_; intro w2 B2 N2; have ho := own_sl1 N2; have g2 := N2.gr; have b1 := g2.blk b1; have hI := g2.row hI; have hown := g2.row hown; have z2 := g2.size; have gg := gg.trans g2))
  refine (HT.out _ _ _ hown hI ho).mono ?_
  rintro e w3 ⟨g3, v3, rfl, own3⟩
  have gg := gg.trans g3
  have z3 := g3.size
  obtain ⟨G, k3, rfl, -, -⟩ := own_shape own3 (by decide)
  have own3 := own_up own3 (show w.heap.size ≤ w2.heap.size by omega)
  go_wp2
  go_loopw [9, 19] (fun nv iv wr => ∃ k : Nat, k ≤ 4 ∧ iv = .int .i64 k ∧ nv = .int .i64 (gnI (fun k => ((f k : Nat) : Int)) k) ∧ wr.ownsRow w.heap.size 3 1 (.slice (some ⟨G, 0, none⟩) 4 k3) 4 (intsV (tabL f 4)) ∧ Gr w wr) (fun _ iv _ => 4 - (intOf iv).toNat)
  case atStart => exact ⟨0, Nat.zero_le _, rfl, rfl, own3, gg⟩
  case round =>
    clear own3 gg
    obtain ⟨k, hk, rfl, rfl, own3, gg⟩ := hrel
    by_cases hlt : k < 4
    · have hcell := own_int own3 k hlt rfl
      rw [tabL_gi hlt] at hcell
      have hb := gnI_le k (fun j _ => HSM.out j)
      have hx := HSM.out k
      have hpow : (2 : Nat) ^ k ≤ 2 ^ 4 := Nat.pow_le_pow_right (by decide) hk
      have HNX := hidI (gnI_succ (fun k => ((f k : Nat) : Int)) k)
      obtain ⟨v, hv⟩ : ∃ v, v = gnI (fun k => ((f k : Nat) : Int)) k := ⟨_, rfl⟩
      rw [← hv] at HNX hb ⊢
      obtain ⟨x, hxe⟩ : ∃ x, x = ((f k : Nat) : Int) := ⟨_, rfl⟩
      rw [← hxe] at HNX hcell hx
      have hv1 : 0 ≤ v ∧ v ≤ 128 := by omega
      clear hb hpow hv hxe
      go_wp2_with (first | (refine r_idx 22 _ _ (.slice (some ⟨G, 0, none⟩) 4 k3) (.int .i64 k) _ rfl rfl (Tryz.nsix G 4 k3 k hlt _) rfl ?_) | (refine r_ldc 3 _ ⟨G, k, none⟩ (.int .i64 x) rfl (Tryz.isAgg3 _) hcell rfl ?_))
      go_roundw
      case rel => exact ⟨k + 1, by omega, by go_num, by rw [HNX.out], own3, gg⟩
      case measure => simp [intOf]; omega
    · obtain rfl : k = 4 := by omega
      clear hlt
      go_wp2
      go_ret
      exact ⟨rfl, gg⟩
set_option maxHeartbeats 1000000 in
set_option maxRecDepth 100000 in
theorem sGateNumber (s u : ByteArray) (I : List Int) (o : Int) (bI : Nat) (slI : Value) (w : World) (hs : s.size ≤ 1048576) (hI : w.ownsRow bI 3 1 slI I.length (intsV I)) :
    Calls Tryz.prog 12 #[.string s, slI, .int .i64 o, .string u] w (Ret (.tuple #[.int .i64 (gnV s.data.toList I o u), .bool (gnOk s.data.toList I o u)]) w) := by
  have gg := Gr.refl w
  have oneI := own_one hI
  go_enter Tryz.func12, Tryz.ntmps12
  go_wp2_with fail
  refine (mcTwo_any s u I o bI slI _ hs hI).mono ?_
  rintro e w1 ⟨g1, ⟨hn, W0, H0, sl, hone, rfl⟩ | ⟨g, sl, hp, hin, hu, h2, hy, rfl, hown⟩⟩
  · have HC := hidI hn
    have HV := hidI (show gnV s.data.toList I o u = 0 from by unfold gnV; rw [hn]; rfl)
    have z1 := g1.size
    have gg := gg.trans g1
    clear hn
    go_wp2_with (first | (refine r_alloc (dst := some 10) 36 _ Tryz.tzero rfl ?_; intro w2 B2 N2; have g2 := N2.gr; have b2 : Blk w2 B2 (tg 0 0 (.slice none 0 0)) 36 := N2.blk; have l2 := N2.lo; have t2 := N2.hi; have z2 := g2.size; have gg := gg.trans g2; clear N2; obtain ⟨b2_0, b2_1, b2_2⟩ := tcells b2) | (refine r_store_row 36 36 _ _ _ rfl (tg _ _ _) _ rfl b2 Tryz.tsize rfl (tg_one hone) rfl ?_; intro w3 u3 b2'; have z3 := u3.size; have gg := u3.gr gg (by omega); clear b2; have b2 := b2'; clear b2'; obtain ⟨b2_0, b2_1, b2_2⟩ := tcells b2))
    go_ret2
    exact ⟨by rw [HV.out, HC.out]; rfl, gg⟩
  · obtain ⟨hc, -, -, hl⟩ := cel_of hp
    have HC := hidI hy
    have HV := hidI (show gnV s.data.toList I o u = gnI (fun k => ((gtF g I [o] u k : Nat) : Int)) 4 from by unfold gnV gnF; rw [hy, if_pos rfl, (rd_parse_some hp).1])
    have hone := own_one hown
    have z1 := g1.size
    have hI := g1.row hI
    have gg := gg.trans g1
    obtain ⟨G0, cap, rfl, -, -⟩ := own_shape hown hl
    have HT := hidI (fun (w0 : World) (h1 : w0.ownsRow w.heap.size 5 1 (.slice (some ⟨G0, 0, none⟩) g.c.length cap) g.c.length (cellsV g.c)) (h3 : w0.ownsRow bI 3 1 slI I.length (intsV I)) => mcNumber_any g I o u w.heap.size bI G0 cap slI w0 hc hl hu hin h2 h1 h3)
    rw [← HV.out] at HT
    clear hy hp hin hu hc hl
    go_wp2_with (first | ((refine r_alloc (dst := some 10) 36 _ Tryz.tzero rfl ?_; intro w2 B2 N2; have g2 := N2.gr; have b2 : Blk w2 B2 (tg 0 0 (.slice none 0 0)) 36 := N2.blk; have l2 := N2.lo; have t2 := N2.hi; have z2 := g2.size; have gg := gg.trans g2; clear N2; obtain ⟨b2_0, b2_1, b2_2⟩ := tcells b2); have hI := g2.row hI; have hown := g2.row hown) | (have nI := own_ne hI b2 (by decide); have nW := own_ne hown b2 (by decide); (refine r_store_row 36 36 _ _ _ rfl (tg _ _ _) _ rfl b2 Tryz.tsize rfl (tg_one hone) rfl ?_; intro w3 u3 b2'; have z3 := u3.size; have gg := u3.gr gg (by omega); clear b2; have b2 := b2'; clear b2'; obtain ⟨b2_0, b2_1, b2_2⟩ := tcells b2); have hown := u3.row hown nW; have hI := u3.row hI nI) | (refine r_load_row 36 _ _ rfl _ _ _ b2 Tryz.underlying36 rfl Tryz.tinfo rfl ?_))
    refine (HT.out _ hown hI).mono ?_
    rintro e w4 ⟨rfl, g4⟩
    have gg := gg.trans g4
    go_wp2
    go_ret2
    exact ⟨by rw [HC.out]; rfl, gg⟩
end Go.Proofs.YtcjmikafomlbiaaGreatDoor
