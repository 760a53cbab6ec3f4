/-
  The words that come back, in the model; and the law.
-/
import Derived.Test.YtbppbbkcampglaaDoorWbkS
import Derived.Maps.AppendAt
namespace Go.Proofs.YtbppbbkcampglaaDoor
open Go.RowKit
section
variable {P : Program} {w : World} {ops : Array Oper} {rest : List Oper} {a : Act} {Q : Exit → Act → World → Prop} {dst : Option Tmp} {ty : TypeId} {pos : String} {aft : Array Edge}
/-- A row made longer, and where it lies then. -/
theorem r_append_at (s x : Operand) (t e : TypeId) (z : Value) (size bytes base : Nat) (I : ElemInfo P t e z size bytes)
    (v : Value) (n : Nat) (xs : List Value) (hs : a.eval s = v) (hown : w.ownsRow base e size v n xs)
    (ad : Addr) (m c : Nat) (news : List Value) (hx : a.eval x = .slice (some ad) m c) (hl : news.length = m * size) (hnews : ∀ j u, news[j]? = some u → w.cell? (ad.add j) = some u) (h1 : ∀ u ∈ news, u.oneCell' = true)
    (h63 : n + m ≤ 1073741824) (hbytes : bytes ≤ 65536) (hbase : base ≤ w.heap.size)
    (h : ∀ v' w', w'.ownsRow base e size v' (n + m) (xs ++ news) → Grb v.ownBlock w w' → (v'.ownBlock = v.ownBlock ∨ v'.ownBlock = some w.heap.size) → wpList P ops Q rest (a.put dst v') w') :
    wpList P ops Q (⟨dst, .call { callee := .builtin .append, args := #[s, x], argTypes := #[t, t] }, ty, pos, aft, none⟩ :: rest) a w := by
  obtain ⟨i, hi, hz, hsize, hby⟩ := info_parts I.info
  refine wpList_append_own_at w rfl s x t rfl base e i z size bytes I.under hi hz hsize hby I.cells I.pos v n xs hs hown ad m c news hx hl hnews h1 ?_ ?_ hbase fun v' w' h2 h3 _ h5 => h v' w' h2 ⟨h3⟩ h5
  · unfold maxLen; omega
  · have : (n + m) * bytes ≤ 1073741824 * 65536 := Nat.mul_le_mul h63 hbytes
    omega
end
/-- All words of less than k directions. -/
def allTo (k : Nat) : List (List UInt8) := (List.range k).flatMap lev
theorem allTo_succ (k : Nat) : allTo (k + 1) = allTo k ++ lev k := by
  unfold allTo
  rw [List.range_succ, List.flatMap_append]
  simp
set_option maxRecDepth 100000 in
theorem allTo_len {k : Nat} (hk : k ≤ 5) : (allTo k).length ≤ 161 := by
  have h : ∀ m ∈ [0, 1, 2, 3, 4, 5], (allTo m).length ≤ 161 := by decide +kernel
  exact h k (by simp; omega)
def bkL (q : List UInt8 → Bool) (k i : Nat) : List (List UInt8) := (allTo k).filter q ++ ((lev k).take i).filter q
theorem bkL_zero (q : List UInt8 → Bool) (k : Nat) : bkL q k 0 = (allTo k).filter q := by unfold bkL; simp
theorem bkL_all (q : List UInt8 → Bool) (k : Nat) : bkL q k (lev k).length = (allTo (k + 1)).filter q := by unfold bkL; rw [List.take_length, allTo_succ, List.filter_append]
theorem bkL_yes {q : List UInt8 → Bool} {k i : Nat} (hi : i < (lev k).length) (h : q (ts (lev k) i) = true) : bkL q k (i + 1) = bkL q k i ++ [ts (lev k) i] := by
  unfold bkL
  rw [take_ts hi, List.filter_append, List.filter_cons_of_pos h]
  simp
theorem bkL_no {q : List UInt8 → Bool} {k i : Nat} (hi : i < (lev k).length) (h : q (ts (lev k) i) = false) : bkL q k (i + 1) = bkL q k i := by
  unfold bkL
  rw [take_ts hi, List.filter_append, List.filter_cons_of_neg (by rw [h]; simp)]
  simp
theorem bkL_len {q : List UInt8 → Bool} {k i : Nat} (hk : k ≤ 4) : (bkL q k i).length ≤ 400 := by
  unfold bkL
  rw [List.length_append]
  have h1 := List.length_filter_le q (allTo k)
  have h2 := List.length_filter_le q ((lev k).take i)
  have h3 := allTo_len (show k ≤ 5 by omega)
  have h4 := lev_len hk
  rw [List.length_take] at h2
  omega
theorem flipD {a b : Option Nat} (h : a = none ∨ a ≠ b) : b = none ∨ b ≠ a := by
  cases hb : b with
  | none => exact .inl rfl
  | some x =>
    refine .inr fun e => ?_
    subst hb
    rcases h with h | h
    · rw [h] at e; cases e
    · exact h e.symm
theorem apart_at {a b b' : Option Nat} {base n : Nat} (h : a = none ∨ a ≠ b) (hl : ∀ x, a = some x → base ≤ x ∧ x < n) (hat : b' = b ∨ b' = some n) : a = none ∨ a ≠ b' := by
  rcases hat with rfl | rfl
  · exact h
  · cases ha : a with
    | none => exact .inl rfl
    | some x =>
      refine .inr fun e => ?_
      obtain rfl := Option.some.inj e
      exact absurd (hl _ ha).2 (Nat.lt_irrefl _)
set_option maxHeartbeats 1600000 in
set_option maxRecDepth 100000 in
theorem sWordsBack (s : ByteArray) (n : Int) (w : World) (hs : s.size ≤ 1048576) : Calls Tryd.prog 9 #[.string s, .int .i64 n] w (RetSs 9 (wkL s.data.toList n) (wkOk s.data.toList n) w) := by
  have gg := Gr.refl w
  go_enter Tryd.func9, Tryd.ntmps9
  go_wp2_with fail
  refine (tyRead_any s _ hs).mono ?_
  rintro e w1 ⟨g1, ⟨hp, rfl⟩ | ⟨g, sl, hp, rfl, hown⟩⟩
  · have HO := hidI (show wkOk s.data.toList n = false from by unfold wkOk; rw [(rd_parse_none hp).2]; rfl)
    have HV := hidI (show wkL s.data.toList n = [] from by unfold wkL; rw [HO.out]; rfl)
    have z1 := g1.size
    have gg := gg.trans g1
    clear hp
    go_wp2_with (first | (refine r_alloc 40 _ Tryd.tzero rfl ?_; intro w2 B2 N2; have g2 := N2.gr; have b2 : Blk w2 B2 (tg 0 0 (.slice none 0 0)) 40 := N2.blk; have l2 := N2.lo; have t2 := N2.hi; have z2 := g2.size; have gg := gg.trans g2; clear N2; obtain ⟨b2_0, b2_1, b2_2⟩ := tcells b2) | (refine r_store_row 40 40 _ _ _ rfl (tg _ _ _) _ rfl b2 Tryd.tsize rfl (tg_one rfl) rfl ?_; intro w3 u3 b2'; have z3 := u3.size; have gg := u3.gr gg (by omega); clear b2; have b2 := b2'; clear b2'; obtain ⟨b2_0, b2_1, b2_2⟩ := tcells b2))
    go_ret2
    exact RetSs.nil HV.out HO.out gg
  · obtain ⟨hg, hk⟩ := rd_parse_some hp
    obtain ⟨hc, -, -, hl⟩ := cel_of hp
    have z1 := g1.size
    have gg := gg.trans g1
    have hone := own_one hown
    by_cases hn : 0 ≤ n ∧ n ≤ 4
    · obtain ⟨m, rfl⟩ : ∃ m : Nat, n = m := ⟨n.toNat, by omega⟩
      have hm4 : m ≤ 4 := by omega
      have HO := hidI (show wkOk s.data.toList m = true from by unfold wkOk; rw [hk, decide_eq_true hn]; rfl)
      have HB := hidI (show btw m 0 4 = true from by unfold btw; rw [decide_eq_true (show (0 : Int) ≤ m by omega), decide_eq_true (show (m : Int) ≤ 4 by omega)]; rfl)
      obtain ⟨q, hq⟩ : ∃ q : List UInt8 → Bool, q = fun u => backB g (wds ⟨u.toArray⟩) := ⟨_, rfl⟩
      have HV := hidI (show wkL s.data.toList m = (allTo (m + 1)).filter q from by unfold wkL; rw [HO.out, if_pos rfl, hg, hq]; rfl)
      have HMB := hidI (fun (u : List UInt8) (hu : wordB ⟨u.toArray⟩ = true) (w0 : World) (hb : w.heap.size ≤ w0.heap.size) (h : w0.ownsRow w.heap.size 5 1 sl g.c.length (cellsV g.c)) => show Calls Tryd.prog 24 #[.agg (tg g.w g.h sl), .string ⟨u.toArray⟩] w0 fun e w' => Gr w0 w' ∧ ∃ sl', sl'.oneCell' = true ∧ e = .returned (.tuple #[.agg (tg g.w g.h sl'), .bool (q u)]) from by
        rw [hq]
        exact mcBack_any g w.heap.size ⟨u.toArray⟩ sl w0 hc hu hl hb h)
      have HMW := hidI (fun (k : Nat) (hk : k ≤ 4) (w : World) => mcWords_any k w hk)
      clear hg hp hk hc hn hq hl
      go_wp2_with (first | (refine r_alloc 40 _ Tryd.tzero rfl ?_; intro w2 B2 N2; have g2 := N2.gr; have b2 : Blk w2 B2 (tg 0 0 (.slice none 0 0)) 40 := N2.blk; have l2 := N2.lo; have t2 := N2.hi; have z2 := g2.size; have gg := gg.trans g2; clear N2; obtain ⟨b2_0, b2_1, b2_2⟩ := tcells b2) | (refine r_store_row 40 40 _ _ _ rfl (tg _ _ _) _ rfl b2 Tryd.tsize rfl (tg_one hone) rfl ?_; intro w3 u3 b2'; have z3 := u3.size; have gg := u3.gr gg (by omega); clear b2; have b2 := b2'; clear b2'; obtain ⟨b2_0, b2_1, b2_2⟩ := tcells b2) | (go_at_call 19; refine (l1In_any _ _ _ _).mono ?_; rintro e wSame ⟨rfl, rfl⟩; rw [HB.out]))
      have own := u3.row (g2.row hown) (own_new hown l2)
      have lo2 : w.heap.size ≤ B2 := by omega
      have zz := gg.size
      have HQ0 := hidI (show 0 = ((allTo 0).filter q).length from rfl)
      have ownO : w3.ownsRow w.heap.size 9 1 (.slice none 0 0) 0 (strV ((allTo 0).filter q)) := World.ownsRow_nil _ _ _ _
      go_loopw [8, 9] (fun ov kv wr => ∃ k t : Nat, k ≤ m + 1 ∧ kv = .int .i64 k ∧ Hid (t = ((allTo k).filter q).length) ∧ wr.ownsRow w.heap.size 9 1 ov t (strV ((allTo k).filter q)) ∧ wr.ownsRow w.heap.size 5 1 sl g.c.length (cellsV g.c) ∧ Blk wr B2 (tg g.w g.h sl) 40 ∧ Gr w wr) (fun _ kv _ => m + 1 - (intOf kv).toNat)
      case atStart => exact ⟨0, 0, Nat.zero_le _, rfl, HQ0, ownO, own, b2, gg⟩
      case round =>
        clear ownO own b2 gg HQ0 hown
        obtain ⟨k, t, hk, rfl, HT, ownO, own, b2, gg⟩ := hrel
        have zr := gg.size
        by_cases hlt : k ≤ m
        · have hk4 : k ≤ 4 := by omega
          have HL0 := hidI (show t = (bkL q k 0).length from by rw [bkL_zero]; exact HT.out)
          have ownO' := (bkL_zero q k).symm ▸ ownO
          have hkm : (k : Int) ≤ (m : Int) := by omega
          obtain ⟨r, hr⟩ : ∃ r, r = (lev k).length := ⟨_, rfl⟩
          have HMK := hidI (fun w => hr ▸ HMW.out k hk4 w)
          have HRL := hidI hr
          have hr9 : r ≤ 108 := by rw [hr]; exact lev_len hk4
          clear hr
          have zr0 := gg.size
          go_wp2_with (first | (go_at_call 23; refine (HMK.out _).mono ?_; rintro e w4 ⟨g4, v4, rfl, own4⟩; have HAP := hidI (flipD (own_apart ownO' own4 (Nat.le_refl _))); have ownO' := g4.row ownO'; have own := g4.row own; have b2 := g4.blk b2; have gg := gg.trans g4; have z4 := g4.size; obtain ⟨p4, c4, rfl⟩ := own_sliceN own4))
          have ownW := own_up own4 zr0
          clear own4
          go_loopw [8, 34] (fun ov iv wi => ∃ i t : Nat, i ≤ r ∧ iv = .int .i64 i ∧ Hid (t = (bkL q k i).length) ∧ wi.ownsRow w.heap.size 9 1 ov t (strV (bkL q k i)) ∧ wi.ownsRow w.heap.size 9 1 (.slice p4 r c4) r (strV (lev k)) ∧ Hid ((Value.slice p4 r c4).ownBlock = none ∨ (Value.slice p4 r c4).ownBlock ≠ ov.ownBlock) ∧ wi.ownsRow w.heap.size 5 1 sl g.c.length (cellsV g.c) ∧ Blk wi B2 (tg g.w g.h sl) 40 ∧ Gr w wi) (fun _ iv _ => r - (intOf iv).toNat)
          case atStart => exact ⟨0, t, Nat.zero_le _, rfl, HL0, ownO', ownW, HAP, own, b2, gg⟩
          case round =>
            clear ownO ownO' own ownW b2 gg HL0 HAP
            obtain ⟨i, t, hi, rfl, HT, ownO, ownW, HAP, own, b2, gg⟩ := hrel
            have zi := gg.size
            have tb2 := b2.lt
            by_cases hlti : i < r
            · have hil : i < (lev k).length := by rw [← HRL.out]; exact hlti
              obtain ⟨G4, c4', he, -, -⟩ := own_shape ownW (by omega)
              obtain ⟨rfl, rfl⟩ : p4 = some ⟨G4, 0, none⟩ ∧ c4 = c4' := by
                simp only [Value.slice.injEq] at he
                exact ⟨he.1, he.2.2⟩
              have hcell := (ownW.cellAt i (by omega)).trans (strV_get (lev k) i hil)
              have HMU := hidI (fun (w0 : World) hb h => HMB.out (ts (lev k) i) (lev_b hk4 (mem_ts hil)) w0 hb h)
              have ht9 : t ≤ 400 := by rw [HT.out]; exact bkL_len hk4
              have HYE := hidI (fun h => bkL_yes (q := q) hil h)
              have HNO := hidI (fun h => bkL_no (q := q) hil h)
              obtain ⟨u, hu⟩ : ∃ u, u = ts (lev k) i := ⟨_, rfl⟩
              rw [← hu] at hcell HMU HYE HNO
              unfold tx at hcell
              obtain ⟨M, hM⟩ : ∃ M, M = bkL q k i := ⟨_, rfl⟩
              rw [← hM] at ownO HT HYE HNO
              clear he hu hM hil
              cases hb : q u
              · have HNX := hidI (HNO.out hb)
                clear HYE HNO
                rw [hb] at HMU
                clear hb
                go_wp2_with (first | (refine r_idx 25 _ _ (.slice (some ⟨G4, 0, none⟩) r c4) (.int .i64 i) _ rfl rfl (Tryd.strix G4 r c4 i hlti _) rfl ?_) | (refine r_ldc 9 _ ⟨G4, i, none⟩ (.string ⟨u.toArray⟩) rfl (Tryd.isAgg9 _) hcell rfl ?_) | (refine r_load_row 40 _ _ rfl _ _ _ b2 Tryd.underlying40 rfl Tryd.tinfo rfl ?_) | (go_at_call 24; refine (HMU.out _ (by omega) own).mono ?_; rintro e w5 ⟨g5, sl5, hone5, rfl⟩; have own := g5.row own; have ownO := g5.row ownO; have ownW := g5.row ownW; have b2 := g5.blk b2; have tb2 := b2.lt; have gg := gg.trans g5; have z5 := g5.size) | ((refine r_alloc 40 _ Tryd.tzero rfl ?_; intro w6 B6 N6; have g6 := N6.gr; have b6 : Blk w6 B6 (tg 0 0 (.slice none 0 0)) 40 := N6.blk; have l6 := N6.lo; have t6 := N6.hi; have z6 := g6.size; have b2 := g6.blk b2; have gg := gg.trans g6; clear N6; obtain ⟨b6_0, b6_1, b6_2⟩ := tcells b6); have own := g6.row own; have ownO := g6.row ownO; have ownW := g6.row ownW) | (have n1 := own_ne own b6 (by decide); have n2 := own_ne ownO b6 (by decide); have n3 := own_ne ownW b6 (by decide); (refine r_store_row 40 40 _ _ _ rfl (tg _ _ _) _ rfl b6 Tryd.tsize rfl (tg_one hone5) rfl ?_; intro w7 u7 b6'; have z7 := u7.size; have gg := u7.gr gg (by omega); have b2 := u7.blk b2 (by omega); clear b6; have b6 := b6'; clear b6'; obtain ⟨b6_0, b6_1, b6_2⟩ := tcells b6); have own := u7.row own n1; have ownO := u7.row ownO n2; have ownW := u7.row ownW n3))
                go_roundw
                case rel => exact ⟨i + 1, t, by omega, by go_num, hidI (by rw [HNX.out]; exact HT.out), (by rw [HNX.out]; exact ownO), ownW, HAP, own, b2, gg⟩
                case measure => simp [intOf]; omega
              · have HNX := hidI (HYE.out hb)
                have HMX := hidI (show strV M ++ [.string ⟨u.toArray⟩] = strV (bkL q k (i + 1)) from by rw [HNX.out, ← strV_append]; rfl)
                have HLX := hidI (show t + 1 = (bkL q k (i + 1)).length from by rw [HNX.out, List.length_append, ← HT.out]; rfl)
                clear HYE HNO
                rw [hb] at HMU
                clear hb HNX
                obtain ⟨pO, cO, rfl⟩ := own_sliceN ownO
                go_wp2_with (first | (refine r_idx 25 _ _ (.slice (some ⟨G4, 0, none⟩) r c4) (.int .i64 i) _ rfl rfl (Tryd.strix G4 r c4 i hlti _) rfl ?_) | (refine r_ldc 9 _ ⟨G4, i, none⟩ (.string ⟨u.toArray⟩) rfl (Tryd.isAgg9 _) hcell rfl ?_) | (refine r_load_row 40 _ _ rfl _ _ _ b2 Tryd.underlying40 rfl Tryd.tinfo rfl ?_) | (go_at_call 24; refine (HMU.out _ (by omega) own).mono ?_; rintro e w5 ⟨g5, sl5, hone5, rfl⟩; have own := g5.row own; have ownO := g5.row ownO; have ownW := g5.row ownW; have b2 := g5.blk b2; have tb2 := b2.lt; have gg := gg.trans g5; have z5 := g5.size) | ((refine r_alloc 40 _ Tryd.tzero rfl ?_; intro w6 B6 N6; have g6 := N6.gr; have b6 : Blk w6 B6 (tg 0 0 (.slice none 0 0)) 40 := N6.blk; have l6 := N6.lo; have t6 := N6.hi; have z6 := g6.size; have b2 := g6.blk b2; have gg := gg.trans g6; clear N6; obtain ⟨b6_0, b6_1, b6_2⟩ := tcells b6); have own := g6.row own; have ownO := g6.row ownO; have ownW := g6.row ownW) | (have n1 := own_ne own b6 (by decide); have n2 := own_ne ownO b6 (by decide); have n3 := own_ne ownW b6 (by decide); (refine r_store_row 40 40 _ _ _ rfl (tg _ _ _) _ rfl b6 Tryd.tsize rfl (tg_one hone5) rfl ?_; intro w7 u7 b6'; have z7 := u7.size; have gg := u7.gr gg (by omega); have b2 := u7.blk b2 (by omega); clear b6; have b6 := b6'; clear b6'; obtain ⟨b6_0, b6_1, b6_2⟩ := tcells b6); have own := u7.row own n1; have ownO := u7.row ownO n2; have ownW := u7.row ownW n3) | (refine r_slice1 25 9 (.tmp 46) (.string ⟨u.toArray⟩) rfl (Tryd.bstrW _ _) rfl ?_; intro w8 B8 N8; have g8 := N8.gr; have own := g8.row own; have ownO := g8.row ownO; have ownW := g8.row ownW; have b2 := g8.blk b2; have gg := gg.trans g8; have z8 := g8.size) | (have n4 := own_ne2 own ownO (by decide); have n5 := own_ne ownO b2 (by decide); have hgr := own_gr ownO (Nat.le_refl w.heap.size); have hlW := ownW.lt; refine r_append_at (.tmp 45) (.tmp 47) 25 9 _ 1 16 w.heap.size Tryd.strIW (.slice pO t cO) t (strV M) rfl ownO ⟨B8, 0, none⟩ 1 1 [.string ⟨u.toArray⟩] rfl rfl N8.cell1 (by intro u hu; simp at hu; subst hu; rfl) (by omega) (by decide) (by omega) ?_; intro v9 w9 own9 g9 hat; have own := g9.row own n4; have ownW := g9.row ownW HAP.out; have b2 := g9.blk b2 n5; have gg := g9.gr gg hgr; have HAP := hidI (apart_at HAP.out hlW hat); rw [HMX.out] at own9))
                go_roundw
                case rel => exact ⟨i + 1, t + 1, by omega, by go_num, HLX, own9, ownW, HAP, own, b2, gg⟩
                case measure => simp [intOf]; omega
            · obtain rfl : i = r := by omega
              have HNX := hidI (show bkL q k i = (allTo (k + 1)).filter q from by rw [HRL.out]; exact bkL_all q k)
              clear hlti
              go_wp2
              go_roundw
              case rel => exact ⟨k + 1, t, by omega, by go_num, hidI (by rw [← HNX.out]; exact HT.out), (by rw [← HNX.out]; exact ownO), own, b2, gg⟩
              case measure => simp [intOf]; omega
        · obtain rfl : k = m + 1 := by omega
          have hkm : ¬ (((m + 1 : Nat) : Int) ≤ (m : Int)) := by omega
          clear hlt
          go_wp2
          go_ret2
          refine ⟨gg, _, by rw [HO.out]; rfl, by rw [HV.out, ← HT.out]; exact ownO⟩
    · have HO := hidI (show wkOk s.data.toList n = false from by unfold wkOk; rw [decide_eq_false hn, Bool.and_false])
      have HV := hidI (show wkL s.data.toList n = [] from by unfold wkL; rw [HO.out]; rfl)
      have HB := hidI (show btw n 0 4 = false from by unfold btw; rw [← Bool.decide_and, decide_eq_false hn])
      clear hg hp hk hc hn
      go_wp2_with (first | (refine r_alloc 40 _ Tryd.tzero rfl ?_; intro w2 B2 N2; have g2 := N2.gr; have b2 : Blk w2 B2 (tg 0 0 (.slice none 0 0)) 40 := N2.blk; have l2 := N2.lo; have t2 := N2.hi; have z2 := g2.size; have gg := gg.trans g2; clear N2; obtain ⟨b2_0, b2_1, b2_2⟩ := tcells b2) | (refine r_store_row 40 40 _ _ _ rfl (tg _ _ _) _ rfl b2 Tryd.tsize rfl (tg_one hone) rfl ?_; intro w3 u3 b2'; have z3 := u3.size; have gg := u3.gr gg (by omega); clear b2; have b2 := b2'; clear b2'; obtain ⟨b2_0, b2_1, b2_2⟩ := tcells b2) | (go_at_call 19; refine (l1In_any _ _ _ _).mono ?_; rintro e wSame ⟨rfl, rfl⟩; rw [HB.out]))
      go_ret2
      exact RetSs.nil HV.out HO.out gg
set_option maxHeartbeats 4000000 in
set_option maxRecDepth 100000 in
theorem lawWordsBack (s : ByteArray) (n : Int) (w : World) (hm : ML w) : Calls Tryd.prog 4 #[.string s, .int .i64 n] w (Ret (.bool true) w) := by
  have gg := Gr.refl w
  by_cases hs : 1048576 < s.size
  · go_enter Tryd.func4, Tryd.ntmps4
    go_wp2
    go_ret
    exact ⟨rfl, gg⟩
  · have hs' : s.size ≤ 1048576 := by omega
    have hle := wkL_le s.data.toList n
    clear hs
    obtain ⟨L, hL⟩ : ∃ L, L = wkL s.data.toList n := ⟨_, rfl⟩
    obtain ⟨ok, hok⟩ : ∃ ok, ok = wkOk s.data.toList n := ⟨_, rfl⟩
    have HL := hidI hL
    have HOK := hidI hok
    rw [← hL] at hle
    clear hL hok
    go_enter Tryd.func4, Tryd.ntmps4
    go_wp2_with fail
    refine (sWordsBack s n _ hs').mono ?_
    rintro e w1 ⟨g1, v1, rfl, own1⟩
    rw [← HL.out] at own1
    have gg := gg.trans g1
    rw [← HOK.out]
    go_wp2_with fail
    refine (iWordsBack s n _ (gg.ml hm) hs').mono ?_
    rintro e w2 ⟨g2, v2, rfl, own2⟩
    rw [← HL.out] at own2
    rw [← HOK.out]
    have gg := gg.trans g2
    have HAP := hidI (own_apart own1 own2 (Nat.le_refl _))
    have own1 := g2.row own1
    go_wp2_with fail
    refine (eqStringS_any v2 v1 L _ _ _ own2 own1 (by omega)).mono ?_
    rintro e w3 ⟨rfl, g3⟩
    have own1 := g3.row own1
    have own2 := g3.row own2
    have gg := gg.trans g3
    go_wp2_with fail
    refine (markStringS_any v2 L _ _ own2 (by omega)).mono ?_
    rintro e w4 ⟨rfl, own2', g4⟩
    have own1 := g4.row own1 HAP.out
    have gg := g4.gr gg (own_gr own2 (by have := g1.size; omega))
    obtain ⟨Mk, hMk⟩ : ∃ Mk, Mk = markST L 1 L.length := ⟨_, rfl⟩
    rw [← hMk] at own2'
    have HML := hidI (show Mk.length = L.length from by rw [hMk, markST_length])
    have HMA := hidI (show ∀ i, i < Mk.length → ts Mk i = mkT (1 + i) from fun i hi => by
      rw [HML.out] at hi
      rw [hMk]
      exact markST_at L 1 L.length i (Nat.le_refl _) hi)
    have own2 := own2'
    rw [← HML.out] at own2
    clear own2' hMk
    have hM8 : Mk.length ≤ 800 := by rw [HML.out]; omega
    obtain ⟨N, hN⟩ : ∃ N : Nat, N = 1 + L.length := ⟨_, rfl⟩
    rw [← hN]
    have HN := hidI (show 1 + Mk.length = N from by rw [HML.out, hN])
    have hn2 : N ≤ 302 := by omega
    clear hN
    go_wp2_with fail
    refine (heldStringS_any v2 Mk _ _ own2 HMA.out hM8).mono ?_
    rintro e w5 ⟨rfl, g5⟩
    rw [HN.out]
    have own1 := g5.row own1
    have own2 := g5.row own2
    have gg := gg.trans g5
    go_wp2_with fail
    refine (iWordsBack s n _ (gg.ml hm) hs').mono ?_
    rintro e w6 ⟨g6, v6, rfl, own6⟩
    rw [← HL.out] at own6
    rw [← HOK.out]
    have gg := gg.trans g6
    have own1 := g6.row own1
    have own2 := g6.row own2
    go_wp2_with fail
    refine (eqStringS_any v6 v1 L _ _ _ own6 own1 (by omega)).mono ?_
    rintro e w7 ⟨rfl, g7⟩
    have own2 := g7.row own2
    have gg := gg.trans g7
    go_wp2_with fail
    refine (heldStringS_any v2 Mk _ _ own2 HMA.out hM8).mono ?_
    rintro e w8 ⟨rfl, g8⟩
    rw [HN.out]
    have gg := gg.trans g8
    go_wp2
    go_ret
    exact ⟨rfl, gg⟩
end Go.Proofs.YtbppbbkcampglaaDoor
