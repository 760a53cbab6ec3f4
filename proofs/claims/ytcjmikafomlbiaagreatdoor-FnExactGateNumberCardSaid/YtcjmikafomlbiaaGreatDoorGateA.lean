/-
  Machines in the model: the table, whole.
-/
import Derived.Test.YtcjmikafomlbiaaGreatDoorGateV
import Derived.Test.YtcjmikafomlbiaaGreatDoorTiltY
namespace Go.Proofs.YtcjmikafomlbiaaGreatDoor
open Go.RowKit
theorem Tryz.shrM (n s : Nat) (hn : n < 8) (hs : s ≤ 2) (w : World) : (binOp .shr 3 (.int .i64 (n : Int)) (.int .i64 (s : Int))).run Tryz.prog w = .ok (.int .i64 ((n / 2 ^ s : Nat) : Int)) w := by
  rcases (show s = 0 ∨ s = 1 ∨ s = 2 by omega) with rfl | rfl | rfl <;>
    (rcases (show n = 0 ∨ n = 1 ∨ n = 2 ∨ n = 3 ∨ n = 4 ∨ n = 5 ∨ n = 6 ∨ n = 7 by omega) with rfl | rfl | rfl | rfl | rfl | rfl | rfl | rfl <;> kernel_rfl)
theorem gaM (M n : Nat) (h : n < M) : M - (intOf (.int .i64 ((n : Int) + 1))).toNat < M - (intOf (.int .i64 (n : Int))).toNat := by simp [intOf]; omega
theorem cellsV_setG (c : List UInt8) (i : Nat) (b : UInt8) : (cellsV c).set i (byteV b) = cellsV (c.set i b) := by unfold cellsV; rw [List.map_set]
set_option maxHeartbeats 4000000 in
set_option maxRecDepth 100000 in
theorem mcTable_any (g : Grid) (I O : List Int) (u : ByteArray) (base bI bO G0 cap : Nat) (slI slO : Value) (w : World) (hc : Cel g) (hl1 : 0 < g.c.length) (hu : wordB u = true) (hin : mcIn g I O = true)
    (hown : w.ownsRow base 5 1 (.slice (some ⟨G0, 0, none⟩) g.c.length cap) g.c.length (cellsV g.c)) (hI : w.ownsRow bI 3 1 slI I.length (intsV I)) (hO : w.ownsRow bO 3 1 slO O.length (intsV O)) :
    Calls Tryz.prog 17 #[.agg (tg g.w g.h (.slice (some ⟨G0, 0, none⟩) g.c.length cap)), slI, slO, .string u] w fun e w' => Gr w w' ∧ ∃ v, e = .returned v ∧ w'.ownsRow w.heap.size 3 1 v (2 ^ I.length) (intsV (tabL (gtF g I O u) (2 ^ I.length))) := by
  have gg := Gr.refl w
  have n36 := hc.n36
  have hlen := hc.len
  have h36 : g.c.length ≤ 36 := by omega
  unfold mcIn at hin
  simp only [Bool.and_eq_true, Bool.not_eq_true'] at hin
  obtain ⟨⟨⟨a1, a2⟩, -⟩, -⟩ := hin
  obtain ⟨l1, l3⟩ := adB_len a1
  obtain ⟨m1, m3⟩ := adB_len a2
  obtain ⟨GI, cI, rfl, -, -⟩ := own_shape hI (by omega)
  obtain ⟨GO, cO, rfl, -, -⟩ := own_shape hO (by omega)
  have HCI := hidI (fun k (hk : k < I.length) (w' : World) (o : w'.ownsRow bI 3 1 (.slice (some ⟨GI, 0, none⟩) I.length cI) I.length (intsV I)) => show w'.cell? ⟨GI, k, none⟩ = some (.int .i64 (cellOf I k : Nat)) ∧ cellOf I k < g.c.length from by
    have h1 := own_int o k hk rfl
    have h2 := adB_in a1 hk
    unfold cellOf
    exact ⟨by rw [h1]; congr 2; omega, by omega⟩)
  have HCO := hidI (fun k (hk : k < O.length) (w' : World) (o : w'.ownsRow bO 3 1 (.slice (some ⟨GO, 0, none⟩) O.length cO) O.length (intsV O)) => show w'.cell? ⟨GO, k, none⟩ = some (.int .i64 ((gi O k).toNat : Nat)) ∧ (gi O k).toNat < g.c.length from by
    have h1 := own_int o k hk rfl
    have h2 := adB_in a2 hk
    exact ⟨by rw [h1]; congr 2; omega, by omega⟩)
  obtain ⟨f, hf⟩ : ∃ f, f = gtF g I O u := ⟨_, rfl⟩
  have HF := hidI (fun (n : Nat) => show f n = otN (runG (wds u) ⟨g.w, g.h, mtTo g.c (cellOf I) I.length n I.length⟩).c O O.length from by rw [hf]; rfl)
  rw [← hf]
  obtain ⟨N, hN⟩ : ∃ N, N = I.length := ⟨_, rfl⟩
  obtain ⟨K, hK⟩ : ∃ K, K = O.length := ⟨_, rfl⟩
  rw [← hN] at hI HCI HF l1 l3 ⊢
  rw [← hK] at hO HCO HF m1 m3 ⊢
  obtain ⟨M, hM⟩ : ∃ M, M = 2 ^ N := ⟨_, rfl⟩
  have hM8 : M ≤ 8 := by
    have : 2 ^ N ≤ 2 ^ 3 := Nat.pow_le_pow_right (by decide) l3
    omega
  have HSHR := hidI (fun (n k : Nat) (hn : n < 8) (hk : k < N) (w : World) => show (binOp .shr 3 (.int .i64 (n : Int)) (.int .i64 ((N : Int) - 1 - (k : Int)))).run Tryz.prog w = .ok (.int .i64 ((n / 2 ^ (N - 1 - k) : Nat) : Int)) w from by
    rw [show (N : Int) - 1 - (k : Int) = ((N - 1 - k : Nat) : Int) by omega]
    exact Tryz.shrM n _ hn (by omega) w)
  have HCEL := hidI (fun (n : Nat) => mt_cel hc (cellOf I) N n N)
  have HTCP := hidI (fun (w' : World) (o : w'.ownsRow base 5 1 (.slice (some ⟨G0, 0, none⟩) g.c.length cap) g.c.length (cellsV g.c)) => tyCopy_any g.w g.h base g.c G0 cap w' h36 o)
  have HMT := hidI (fun (n k : Nat) => mtTo_length g.c (cellOf I) N n k)
  have HRL := hidI (fun (n : Nat) => show (runG (wds u) ⟨g.w, g.h, mtTo g.c (cellOf I) N n N⟩).c.length = g.c.length ∧ Cel (runG (wds u) ⟨g.w, g.h, mtTo g.c (cellOf I) N n N⟩) from by
    have h1 := (mt_cel hc (cellOf I) N n N).run (wds u) (wds_lt hu)
    obtain ⟨e1, e2⟩ := runG_w (wds u) ⟨g.w, g.h, mtTo g.c (cellOf I) N n N⟩
    exact ⟨by rw [h1.len, e1, e2, hlen], h1⟩)
  obtain ⟨D, hD⟩ : ∃ D, D = g.c.length := ⟨_, rfl⟩
  have HD := hidI hD
  have HAI := hidI (fun (w' : World) (v : Value) (n : Nat) (xs : List Value) (o : w'.ownsRow w.heap.size 3 1 v n xs) => own_apart hI o (Nat.le_refl _))
  have HAO := hidI (fun (w' : World) (v : Value) (n : Nat) (xs : List Value) (o : w'.ownsRow w.heap.size 3 1 v n xs) => own_apart hO o (Nat.le_refl _))
  rw [← hD] at hown HCI HCO HTCP HMT HRL hl1 h36 ⊢
  rw [← hM]
  have hMe := hM
  clear hf hN hK hM a1 a2 hlen n36 hD
  have hw64 : wrap64 ((2 : Int) ^ N) = (M : Int) := by
    rcases (show N = 0 ∨ N = 1 ∨ N = 2 ∨ N = 3 by omega) with h | h | h | h <;> rw [hMe, h] <;> unfold wrap64 <;> omega
  clear hMe
  go_enter Tryz.func17, Tryz.ntmps17
  go_wp2_with (first | (refine r_box 36 _ (tg (g.w) (g.h) (.slice (some ⟨G0, 0, none⟩) D cap)) rfl rfl ?_; intro w1 B1 N1; have g1 := N1.gr; have b1 : Blk w1 B1 (tg (g.w) (g.h) (.slice (some ⟨G0, 0, none⟩) D cap)) 36 := N1.blk; have l1 := N1.lo; have t1 := N1.hi; have z1 := g1.size; have gg := gg.trans g1; clear N1; obtain ⟨b1_0, b1_1, b1_2⟩ := tcells b1))
  have hown := g1.row hown
  have hI := g1.row hI
  have hO := g1.row hO
  have lo1 : w.heap.size ≤ B1 := by omega
  go_loopw [9, 10] (fun ov nv wr => ∃ n : Nat, n ≤ M ∧ nv = .int .i64 n ∧ Blk wr B1 (tg g.w g.h (.slice (some ⟨G0, 0, none⟩) D cap)) 36 ∧ wr.ownsRow base 5 1 (.slice (some ⟨G0, 0, none⟩) D cap) D (cellsV g.c) ∧ wr.ownsRow bI 3 1 (.slice (some ⟨GI, 0, none⟩) N cI) N (intsV I) ∧ wr.ownsRow bO 3 1 (.slice (some ⟨GO, 0, none⟩) K cO) K (intsV O) ∧ wr.ownsRow w.heap.size 3 1 ov n (intsV (tabL f n)) ∧ Gr w wr) (fun _ nv _ => M - (intOf nv).toNat)
  case atStart => exact ⟨0, Nat.zero_le _, rfl, b1, hown, hI, hO, World.ownsRow_nil _ _ _ _, gg⟩
  case round =>
    clear b1 hown hI hO gg
    obtain ⟨n, hn, rfl, b1, ownG, ownI, ownO, own, gg⟩ := hrel
    obtain ⟨po, ko, rfl⟩ := own_sliceN own
    obtain ⟨wo, rfl⟩ : ∃ wo : World, wo = wr := ⟨_, rfl⟩
    have zo := gg.size
    have tb1 := b1.lt
    by_cases hlt : n < M
    · have hn8 : n < 8 := by omega
      have oneI := own_one ownI
      obtain ⟨b1_0, b1_1, b1_2⟩ := tcells b1
      go_wp2_with (first | (refine r_load_row 36 _ _ rfl _ _ _ b1 Tryz.underlying36 rfl Tryz.tinfo rfl ?_))
      refine (HTCP.out wo ownG).mono ?_
      rintro e w8 ⟨g8, sl8, rfl, own12⟩
      rw [← HD.out] at own12
      obtain ⟨G12, cap12, rfl, -, -⟩ := own_shape own12 hl1
      have HAPG := hidI (own_apart ownG own12 (Nat.le_refl _))
      have b1 := g8.blk b1
      have ownG := g8.row ownG
      have ownI := g8.row ownI
      have ownO := g8.row ownO
      have own := g8.row own
      have z8 := g8.size
      have gg := gg.trans g8
      go_wp2_with (first | (refine r_alloc (dst := some 11) 36 _ Tryz.tzero rfl ?_; intro w82 B82 N82; have g82 := N82.gr; have b82 : Blk w82 B82 (tg 0 0 (.slice none 0 0)) 36 := N82.blk; have l82 := N82.lo; have t82 := N82.hi; have z82 := g82.size; have b1 := g82.blk b1; obtain ⟨b1_0, b1_1, b1_2⟩ := tcells b1; have gg := gg.trans g82; clear N82; obtain ⟨b82_0, b82_1, b82_2⟩ := tcells b82) | (refine r_store_row 36 36 _ _ _ rfl (tg _ _ _) _ rfl b82 Tryz.tsize rfl (tg_one rfl) rfl ?_; intro w83 u83 b82'; have z83 := u83.size; have gg := u83.gr gg (by omega); have b1 := u83.blk b1 (by omega); obtain ⟨b1_0, b1_1, b1_2⟩ := tcells b1; clear b82; have b82 := b82'; clear b82'; obtain ⟨b82_0, b82_1, b82_2⟩ := tcells b82))
      have own12 := u83.row (g82.row own12) (own_new own12 l82)
      have ownG := u83.row (g82.row ownG) (own_new ownG (by omega))
      have ownI := u83.row (g82.row ownI) (own_new ownI (by omega))
      have ownO := u83.row (g82.row ownO) (own_new ownO (by omega))
      have own := u83.row (g82.row own) (own_new own (by omega))
      have lo12 : w.heap.size ≤ G12 := by have := (own12.lt G12 rfl).1; omega
      have lo12b : w.heap.size ≤ B82 := by omega
      have n112 : B1 ≠ B82 := by omega
      go_wp2
      go_loopw [28] (fun kv wi => ∃ k : Nat, k ≤ N ∧ kv = .int .i64 k ∧ Blk wi B1 (tg g.w g.h (.slice (some ⟨G0, 0, none⟩) D cap)) 36 ∧ Blk wi B82 (tg g.w g.h (.slice (some ⟨G12, 0, none⟩) D cap12)) 36 ∧ wi.ownsRow wo.heap.size 5 1 (.slice (some ⟨G12, 0, none⟩) D cap12) D (cellsV (mtTo g.c (cellOf I) N n k)) ∧ wi.ownsRow base 5 1 (.slice (some ⟨G0, 0, none⟩) D cap) D (cellsV g.c) ∧ wi.ownsRow bI 3 1 (.slice (some ⟨GI, 0, none⟩) N cI) N (intsV I) ∧ wi.ownsRow bO 3 1 (.slice (some ⟨GO, 0, none⟩) K cO) K (intsV O) ∧ wi.ownsRow w.heap.size 3 1 (.slice po n ko) n (intsV (tabL f n)) ∧ Gr w wi) (fun kv _ => N - (intOf kv).toNat)
      case atStart => exact ⟨0, Nat.zero_le _, rfl, b1, b82, own12, ownG, ownI, ownO, own, gg⟩
      case round =>
        clear b1 b82 own12 ownG ownI ownO own gg
        obtain ⟨k, hk, rfl, b1, b82, own12, ownG, ownI, ownO, own, gg⟩ := hrel
        obtain ⟨b82_0, b82_1, b82_2⟩ := tcells b82
        by_cases hkl : k < N
        · obtain ⟨cy, hyn⟩ := HCI.out k hkl _ ownI
          have HST := hidI (show mtTo g.c (cellOf I) N n (k + 1) = if n / 2 ^ (N - 1 - k) % 2 = 1 then (mtTo g.c (cellOf I) N n k).set (cellOf I k) 111 else mtTo g.c (cellOf I) N n k from rfl)
          obtain ⟨y, hy⟩ : ∃ y, y = cellOf I k := ⟨_, rfl⟩
          rw [← hy] at cy hyn HST
          have hsr := HSHR.out n k hn8 hkl
          obtain ⟨q, hq⟩ : ∃ q, q = n / 2 ^ (N - 1 - k) := ⟨_, rfl⟩
          have hq8 : q ≤ 8 := by rw [hq]; exact Nat.le_trans (Nat.div_le_self _ _) (by omega)
          rw [← hq] at hsr HST
          obtain ⟨c, hcc⟩ : ∃ c, c = mtTo g.c (cellOf I) N n k := ⟨_, rfl⟩
          rw [← hcc] at own12 HST
          clear hy hq hcc
          rcases Nat.mod_two_eq_zero_or_one q with hp | hp
          · have e0 : ((q : Int) % 2 == 1) = false := by rw [beq_eq_false_iff_ne]; omega
            have HNX := hidI (show mtTo g.c (cellOf I) N n (k + 1) = c from by rw [HST.out, if_neg (by omega)])
            clear hp
            go_wp2_with (first | (refine r_idx 22 _ _ (.slice (some ⟨GI, 0, none⟩) N cI) (.int .i64 k) _ rfl rfl (Tryz.nsix GI N cI k hkl _) rfl ?_) | (refine r_binC .shr (.tmp 33) (.tmp 38) (.int .i64 (n : Int)) (.int .i64 ((N : Int) - 1 - (k : Int))) (.int .i64 (q : Int)) rfl rfl (fun _ => rfl) (hsr _) rfl ?_) | (refine r_ldc 3 _ ⟨GI, k, none⟩ (.int .i64 y) rfl (Tryz.isAgg3 _) cy rfl ?_))
            go_roundw
            case rel => exact ⟨k + 1, by omega, by go_num, b1, b82, by rw [HNX.out]; exact own12, ownG, ownI, ownO, own, gg⟩
            case measure => simp [intOf]; omega
          · have e0 : ((q : Int) % 2 == 1) = true := by rw [beq_iff_eq]; omega
            have HS := hidI (show (cellsV c).set y (byteV 111) = cellsV (mtTo g.c (cellOf I) N n (k + 1)) from by rw [HST.out, if_pos hp, cellsV_setG])
            clear hp
            go_wp2_with (first | (refine r_idx 22 _ _ (.slice (some ⟨GI, 0, none⟩) N cI) (.int .i64 k) _ rfl rfl (Tryz.nsix GI N cI k hkl _) rfl ?_) | (refine r_binC .shr (.tmp 33) (.tmp 38) (.int .i64 (n : Int)) (.int .i64 ((N : Int) - 1 - (k : Int))) (.int .i64 (q : Int)) rfl rfl (fun _ => rfl) (hsr _) rfl ?_) | (refine r_ldc 3 _ ⟨GI, k, none⟩ (.int .i64 y) rfl (Tryz.isAgg3 _) cy rfl ?_) | (refine r_fld 36 _ 2 (.pointer (some ⟨B82, 0, none⟩)) (.pointer (some ⟨B82, 2, none⟩)) rfl (Tryz.tf2 B82 _) rfl ?_) | (refine r_ldc 34 _ ⟨B82, 2, none⟩ (.slice (some ⟨G12, 0, none⟩) D cap12) rfl (Tryz.isAgg34 _) b82_2 rfl ?_) | (refine r_idx 34 _ _ (.slice (some ⟨G12, 0, none⟩) D cap12) (.int .i64 y) _ rfl rfl (Tryz.six0 G12 D cap12 y hyn _) rfl ?_) | (refine r_store_own 5 5 _ _ G12 y D cap12 wo.heap.size (cellsV c) rfl (byteV 111) rfl own12 hyn Tryz.sizeOf5 rfl rfl ?_; intro w84 u84 own84; rw [HS.out] at own84))
            have ownG := u84.grb.row ownG HAPG.out
            have ownI := u84.grb.row ownI (own_ne2 ownI own12 (by decide))
            have ownO := u84.grb.row ownO (own_ne2 ownO own12 (by decide))
            have own := u84.grb.row own (own_ne2 own own12 (by decide))
            have b1 := u84.blk b1 (fun e => own_ne own12 b1 (by decide) (by rw [e]; rfl))
            have b82 := u84.blk b82 (fun e => own_ne own12 b82 (by decide) (by rw [e]; rfl))
            have gg := u84.gr gg lo12
            go_roundw
            case rel => exact ⟨k + 1, by omega, by go_num, b1, b82, own84, ownG, ownI, ownO, own, gg⟩
            case measure => simp [intOf]; omega
        · obtain rfl : k = N := by omega
          have HB := hidI (HRL.out n)
          have z12 : wo.heap.size ≤ G12 := (own12.lt G12 rfl).1
          obtain ⟨r, hr⟩ : ∃ r, r = runG (wds u) ⟨g.w, g.h, mtTo g.c (cellOf I) k n k⟩ := ⟨_, rfl⟩
          have HRU := hidI (fun (w0 : World) (hb : wo.heap.size ≤ w0.heap.size) (h : w0.ownsRow wo.heap.size 5 1 (.slice (some ⟨G12, 0, none⟩) D cap12) D (cellsV (mtTo g.c (cellOf I) k n k))) => show Calls Tryz.prog 32 #[.agg (tg g.w g.h (.slice (some ⟨G12, 0, none⟩) D cap12)), .string u] w0 fun e w' => Gr w0 w' ∧ ∃ sl', e = .returned (.agg (tg g.w g.h sl')) ∧ w'.ownsRow wo.heap.size 5 1 sl' D (cellsV r.c) from by
            have h3 := tiRun_any ⟨g.w, g.h, mtTo g.c (cellOf I) k n k⟩ wo.heap.size u (.slice (some ⟨G12, 0, none⟩) D cap12) w0 (HCEL.out n) hu (by rw [HMT.out]; exact hl1) hb (by rw [HMT.out]; exact h)
            rw [← hr, HMT.out] at h3
            exact h3)
          have HFN := hidI (HF.out n)
          rw [← hr] at HB HFN
          have z120 := (own12.lt G12 rfl).2
          clear hkl hr
          go_wp2_with (first | (refine r_load_row 36 _ _ rfl _ _ _ b82 Tryz.underlying36 rfl Tryz.tinfo rfl ?_))
          refine (HRU.out _ (by omega) own12).mono ?_
          rintro e w15 ⟨g15, sl15, rfl, own15⟩
          have z15 := g15.size
          have b1 := g15.blk b1
          have b82 := g15.blk b82
          have ownG := g15.row ownG
          have ownI := g15.row ownI
          have ownO := g15.row ownO
          have own := g15.row own
          have gg := gg.trans g15
          have hone15 := own_one own15
          obtain ⟨G15, cap15, rfl, -, -⟩ := own_shape own15 hl1
          clear own12 z120
          go_wp2_with (first | (have nG := own_ne ownG b82 (by decide); have nI := own_ne ownI b82 (by decide); have nO := own_ne ownO b82 (by decide); have nW := own_ne own b82 (by decide); have nR := own_ne own15 b82 (by decide); (refine r_store_row 36 36 _ _ _ rfl (tg _ _ _) _ rfl b82 Tryz.tsize rfl (tg_one hone15) rfl ?_; intro w86 u86 b82'; have z86 := u86.size; have gg := u86.gr gg (by omega); have b1 := u86.blk b1 (by omega); obtain ⟨b1_0, b1_1, b1_2⟩ := tcells b1; clear b82; have b82 := b82'; clear b82'; obtain ⟨b82_0, b82_1, b82_2⟩ := tcells b82); have ownG := u86.row ownG nG; have ownI := u86.row ownI nI; have ownO := u86.row ownO nO; have own := u86.row own nW; have own15 := u86.row own15 nR))
          have b82 := b82
          go_loopw [14, 52] (fun mv jv wi => ∃ j : Nat, j ≤ K ∧ jv = .int .i64 j ∧ mv = .int .i64 (otN r.c O j : Nat) ∧ Blk wi B1 (tg g.w g.h (.slice (some ⟨G0, 0, none⟩) D cap)) 36 ∧ Blk wi B82 (tg g.w g.h (.slice (some ⟨G15, 0, none⟩) D cap15)) 36 ∧ wi.ownsRow wo.heap.size 5 1 (.slice (some ⟨G15, 0, none⟩) D cap15) D (cellsV r.c) ∧ wi.ownsRow base 5 1 (.slice (some ⟨G0, 0, none⟩) D cap) D (cellsV g.c) ∧ wi.ownsRow bI 3 1 (.slice (some ⟨GI, 0, none⟩) k cI) k (intsV I) ∧ wi.ownsRow bO 3 1 (.slice (some ⟨GO, 0, none⟩) K cO) K (intsV O) ∧ wi.ownsRow w.heap.size 3 1 (.slice po n ko) n (intsV (tabL f n)) ∧ Gr w wi) (fun _ jv _ => K - (intOf jv).toNat)
          case atStart => exact ⟨0, Nat.zero_le _, rfl, rfl, b1, b82, own15, ownG, ownI, ownO, own, gg⟩
          case round =>
            clear b1 b82 own15 ownG ownI ownO own gg
            obtain ⟨j, hj, rfl, rfl, b1, b82, own15, ownG, ownI, ownO, own, gg⟩ := hrel
            obtain ⟨b82_0, b82_1, b82_2⟩ := tcells b82
            by_cases hjl : j < K
            · obtain ⟨cy, hyn⟩ := HCO.out j hjl _ ownO
              have HSU := hidI (otN_succ r.c O j)
              have hpow : (2 : Nat) ^ j ≤ 2 ^ 3 := Nat.pow_le_pow_right (by decide) (by omega)
              have hq8 : otN r.c O j ≤ 8 := by have := otN_lt r.c O j; omega
              obtain ⟨y, hy⟩ : ∃ y, y = (gi O j).toNat := ⟨_, rfl⟩
              rw [← hy] at cy hyn HSU
              have c15 := own_cell own15 y (by rw [HB.out.1]; exact hyn) (HB.out.1).symm
              have hbe : ballB (at0 r.c y) = isBallB (at0 r.c y) := ball_cell (HB.out.2.cells y (by rw [HB.out.1]; exact hyn))
              obtain ⟨q, hq⟩ : ∃ q, q = otN r.c O j := ⟨_, rfl⟩
              rw [← hq] at HSU hq8 ⊢
              rw [hbe] at HSU
              clear hy hq hpow hbe
              cases hb : isBallB (at0 r.c y)
              · have HBB := hidI hb
                have HS0 := hidI (show otN r.c O (j + 1) = 2 * q from by rw [HSU.out, hb]; rfl)
                clear hb
                go_wp2_with (first | (refine r_idx 22 _ _ (.slice (some ⟨GO, 0, none⟩) K cO) (.int .i64 j) _ rfl rfl (Tryz.nsix GO K cO j hjl _) rfl ?_) | (refine r_ldc 3 _ ⟨GO, j, none⟩ (.int .i64 y) rfl (Tryz.isAgg3 _) cy rfl ?_) | (refine r_fld 36 _ 2 (.pointer (some ⟨B82, 0, none⟩)) (.pointer (some ⟨B82, 2, none⟩)) rfl (Tryz.tf2 B82 _) rfl ?_) | (refine r_ldc 34 _ ⟨B82, 2, none⟩ (.slice (some ⟨G15, 0, none⟩) D cap15) rfl (Tryz.isAgg34 _) b82_2 rfl ?_) | (refine r_idx 34 _ _ (.slice (some ⟨G15, 0, none⟩) D cap15) (.int .i64 y) _ rfl rfl (Tryz.six0 G15 D cap15 y hyn _) rfl ?_) | (refine r_ldc 5 _ ⟨G15, y, none⟩ (.int .u8 (at0 r.c y).toNat) rfl (Tryz.isAgg5 _) c15 rfl ?_) | (go_at_call 33; refine (tyBall_any (at0 r.c y) _).mono ?_; rintro e wSame ⟨rfl, rfl⟩; rw [HBB.out]))
                go_roundw
                case rel => exact ⟨j + 1, by omega, by go_num, by rw [HS0.out]; go_num, b1, b82, own15, ownG, ownI, ownO, own, gg⟩
                case measure => simp [intOf]; omega
              · have HBB := hidI hb
                have HS0 := hidI (show otN r.c O (j + 1) = 2 * q + 1 from by rw [HSU.out, hb]; rfl)
                clear hb
                go_wp2_with (first | (refine r_idx 22 _ _ (.slice (some ⟨GO, 0, none⟩) K cO) (.int .i64 j) _ rfl rfl (Tryz.nsix GO K cO j hjl _) rfl ?_) | (refine r_ldc 3 _ ⟨GO, j, none⟩ (.int .i64 y) rfl (Tryz.isAgg3 _) cy rfl ?_) | (refine r_fld 36 _ 2 (.pointer (some ⟨B82, 0, none⟩)) (.pointer (some ⟨B82, 2, none⟩)) rfl (Tryz.tf2 B82 _) rfl ?_) | (refine r_ldc 34 _ ⟨B82, 2, none⟩ (.slice (some ⟨G15, 0, none⟩) D cap15) rfl (Tryz.isAgg34 _) b82_2 rfl ?_) | (refine r_idx 34 _ _ (.slice (some ⟨G15, 0, none⟩) D cap15) (.int .i64 y) _ rfl rfl (Tryz.six0 G15 D cap15 y hyn _) rfl ?_) | (refine r_ldc 5 _ ⟨G15, y, none⟩ (.int .u8 (at0 r.c y).toNat) rfl (Tryz.isAgg5 _) c15 rfl ?_) | (go_at_call 33; refine (tyBall_any (at0 r.c y) _).mono ?_; rintro e wSame ⟨rfl, rfl⟩; rw [HBB.out]))
                go_roundw
                case rel => exact ⟨j + 1, by omega, by go_num, by rw [HS0.out]; go_num, b1, b82, own15, ownG, ownI, ownO, own, gg⟩
                case measure => simp [intOf]; omega
            · obtain rfl : j = K := by omega
              rw [← HFN.out]
              have HAP := hidI (show intsV (tabL f n) ++ [.int .i64 (f n : Nat)] = intsV (tabL f (n + 1)) from by rw [← tabL_succ, ← intsV_append]; rfl)
              clear hjl
              go_wp2_with (first | (refine r_slice1 22 3 (.tmp 68) (.int .i64 (f n : Nat)) rfl (Tryz.bsi1 _ _) rfl ?_; intro w87 B87 N87; have g87 := N87.gr; have b1 := g87.blk b1; have ownG := g87.row ownG; have ownI := g87.row ownI; have ownO := g87.row ownO; have own := g87.row own; have gg := gg.trans g87; have z87 := gg.size) | (refine r_append (.tmp 67) (.tmp 69) 22 3 _ 1 8 w.heap.size Tryz.intsI (.slice po n ko) n (intsV (tabL f n)) rfl own ⟨B87, 0, none⟩ 1 1 [.int .i64 (f n : Nat)] rfl rfl N87.cell1 (by intro u hu; simp at hu; subst hu; rfl) (by omega) (by decide) (by omega) rfl ?_; intro v88 w88 own88 g88))
              rw [HAP.out] at own88
              have b1 := g88.blk b1 (own_ne own b1 (by decide))
              have ownG := g88.row ownG (own_ne2 ownG own (by decide))
              have ownI := g88.row ownI (HAI.out _ _ _ _ own)
              have ownO := g88.row ownO (HAO.out _ _ _ _ own)
              have gg := g88.gr gg (own_gr own (Nat.le_refl _))
              go_roundw
              case rel => exact ⟨n + 1, hlt, by go_num, b1, ownG, ownI, ownO, own88, gg⟩
              case measure => exact gaM M n hlt
    · obtain rfl : n = M := by omega
      clear hlt
      go_wp2
      refine bodyPost_ret (v := .slice po n ko) ?_ rfl ?_
      · exact results_tmp (t := 8) rfl _ _ _
      · exact ⟨gg, _, rfl, own⟩
end Go.Proofs.YtcjmikafomlbiaaGreatDoor
