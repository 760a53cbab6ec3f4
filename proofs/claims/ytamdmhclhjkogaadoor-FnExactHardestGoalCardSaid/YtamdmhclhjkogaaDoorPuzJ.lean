/-
  Hardest goals: the model's walk, and the law.
-/
import Derived.Test.YtamdmhclhjkogaaDoorPuzG
import Derived.Deep.Cut
namespace Go.Proofs.YtamdmhclhjkogaaDoor
open Go.RowKit
def hqV : Option (List (Sta Grid) × UInt8 × Nat) → Value
  | none => .tuple #[.int .i64 0, .int .i64 0, .bool false]
  | some (S, b, N) => .tuple #[.int .i64 (hgTo S b N S.length).1, .int .i64 (hgTo S b N S.length).2, .bool (decide ((hgTo S b N S.length).2 ≤ 40))]
def hqS (l : List UInt8) (n : ByteArray) : Option (List (Sta Grid) × UInt8 × Nat) := (rbS l n).map fun S => (S, hd n, (sta S 0).t.c.length)
theorem ret_hq {v u : Value} (h : v = u) : Ending.returned v = .returned u := by rw [h]
theorem e_gtrH {P : Program} {w : World} {a : Act} {dst : Option Tmp} {ty T yt : TypeId} {pos : String} {aft : Array Edge} {gd : Option (Nat × Bool)} {k : IntKind} (x y : Operand) (m n : Int) (v : Bool) (hx : a.eval x = .int k m) (hy : a.eval y = .int k n) (hv : decide (n < m) = v) :
    (execOp a.eval ⟨dst, .binOp .gtr T x y yt, ty, pos, aft, gd⟩).run P w = .ok (.value (.bool v)) w := by
  subst hv
  unfold execOp
  simp [hx, hy, eqGuard, binOp, Op.intCmp]
set_option maxHeartbeats 8000000 in
set_option maxRecDepth 100000 in
theorem puHardest_any (s n : ByteArray) (w : World) (hs : s.size ≤ 1048576) : Calls Tryd.prog 57 #[.string s, .string n] w (Ret (hqV (hqS s.data.toList n)) w) := by
  have gg := Gr.refl w
  have HA := reBall_any s n w hs
  unfold RetM at HA
  cases hR : rbS s.data.toList n with
  | none =>
    rw [hR] at HA
    have HV := hidI (show hqS s.data.toList n = none from by unfold hqS; rw [hR]; rfl)
    clear hR
    go_enter Tryd.func57, Tryd.ntmps57
    go_wp2_with (go_at_call 70; refine HA.mono ?_; rintro e w1 ⟨g1, rfl⟩; have gg := gg.trans g1)
    go_ret3
    exact ⟨ret_hq (by rw [HV.out]; rfl), gg⟩
  | some S =>
    rw [hR] at HA
    obtain ⟨K, hn⟩ := rb_known hR
    have HV0 := show hqS s.data.toList n = some (S, hd n, (sta S 0).t.c.length) from by unfold hqS; rw [hR]; rfl
    obtain ⟨b, hb⟩ : ∃ b, b = hd n := ⟨_, rfl⟩
    obtain ⟨N, hN⟩ : ∃ N, N = (sta S 0).t.c.length := ⟨_, rfl⟩
    rw [← hb, ← hN] at K HV0
    rw [← hb] at hn
    subst hn
    have HV := hidI HV0
    have h0 := K.pos
    have h300 := K.le
    have n1 := K.n1
    have n36 := K.n36
    have HLEN := hidI K.len
    have HCB := hidI K.cb
    have HCBX := hidI K.cbx
    have HGI := hidI K.hgi
    clear hR HV0 hb hN K
    go_enter Tryd.func57, Tryd.ntmps57
    go_wp2_with (go_at_call 70; refine HA.mono ?_; rintro e w4 ⟨g4, v, bk, sl, nx, rfl, M4, -⟩; obtain ⟨gB, cap, rfl, hlo, hcap⟩ := own_shape M4.row h0; have gg4 := gg.trans g4)
    have own0 : w4.ownsRow w4.heap.size 3 1 (.slice none 0 0) ([] : List Int).length (intsV []) := World.ownsRow_nil _ _ _ _
    go_loopw [9, 10, 11, 25] (fun gv mv ov iv wr => ∃ (m : Nat) (O : List Int), m ≤ S.length ∧ iv = .int .i64 m ∧ gv = .int .i64 (hgTo S b N m).1 ∧ mv = .int .i64 (hgTo S b N m).2 ∧ wr.ownsRow w4.heap.size 3 1 ov O.length (intsV O) ∧ Hid (∀ x, x ∈ O ↔ ∃ j, j < m ∧ cbX S b j = x) ∧ O.length ≤ m ∧ Gr w4 wr) (fun _ _ _ iv _ => S.length - (intOf iv).toNat)
    case atStart => exact ⟨0, [], Nat.zero_le _, rfl, rfl, rfl, own0, hidI (fun x => ⟨fun h => (by cases h), fun ⟨j, hj, _⟩ => absurd hj (Nat.not_lt_zero _)⟩), Nat.le_refl _, Gr.refl _⟩
    case round =>
      clear own0
      obtain ⟨m, O, hm, rfl, rfl, rfl, own, HIN, hOl, k4⟩ := hrel
      have gg := gg4.trans k4
      have M := M4.gr k4
      have zr := k4.size
      by_cases hlt : m < S.length
      · skip
        obtain ⟨b0, hb0⟩ : ∃ b0, b0 = bk m := ⟨_, rfl⟩
        have cp := M.ptr hlt
        have hblk := M.blk m hlt
        have hgrd := M.grd m hlt
        obtain ⟨c, hc⟩ : ∃ c, c = (sta S m).t.c := ⟨_, rfl⟩
        have hrg := rec_rangeH hblk
        have hcf : wr.cell? ⟨bk m, 4, none⟩ = some (.int .i64 ((sta S m).far : Int)) := hblk.cell 4
        obtain ⟨W, hW⟩ : ∃ W : Nat, W = (sta S m).t.w := ⟨_, rfl⟩
        obtain ⟨H, hH⟩ : ∃ H : Nat, H = (sta S m).t.h := ⟨_, rfl⟩
        obtain ⟨far, hfar⟩ : ∃ far, far = (sta S m).far := ⟨_, rfl⟩
        have hl0 : 0 < c.length := by rw [hc, HLEN.out m hlt]; omega
        have hl36 : c.length ≤ 36 := by rw [hc, HLEN.out m hlt]; omega
        rw [← hc] at hgrd
        rw [← hb0, ← hW, ← hH] at hrg
        rw [← hb0, ← hfar] at hcf
        rw [← hb0] at cp
        have cp : wr.cell? ⟨gB, m, none⟩ = some (.pointer (some ⟨b0, 0, none⟩)) := cp
        obtain ⟨sk, hsk⟩ : ∃ sk, sk = sl m := ⟨_, rfl⟩
        rw [← hsk] at hgrd hrg
        obtain ⟨G, capg, rfl, -, -⟩ := own_shape hgrd hl0
        obtain ⟨X, hX⟩ : ∃ X, X = cbX S b m := ⟨_, rfl⟩
        have HX := hidI (show X = ixC c b c.length from by rw [hX, hc]; exact (HCBX.out m hlt).symm)
        have HXX := hidI hX
        have HF := hidI hfar
        have HB0 := hidI hb0
        obtain ⟨x, hx⟩ : ∃ x : Nat, X = (x : Int) := ⟨X.toNat, by have := (HCB.out m hlt).1; omega⟩
        have hxN : x < N := by have := (HCB.out m hlt).2; omega
        have hxt : (cbX S b m).toNat = x := by omega
        have HSEEN := hidI (show 0 ≤ gi (lenTo S b N m) x ↔ X ∈ O from by
          rw [(HGI.out m hm).seen x hxN, HIN.out X]
          exact ⟨fun ⟨j, hj, e⟩ => ⟨j, hj, by omega⟩, fun ⟨j, hj, e⟩ => ⟨j, hj, by omega⟩⟩)
        have HSTEP := hidI (show hgTo S b N (m + 1) = if gi (lenTo S b N m) x < 0 then
              if (hgTo S b N m).2 < (far : Int) ∨ ((far : Int) = (hgTo S b N m).2 ∧ X < (hgTo S b N m).1) then (X, (far : Int)) else hgTo S b N m
            else hgTo S b N m from by
          rw [hX, hfar, ← hxt]
          rfl)
        obtain ⟨go, hgo⟩ : ∃ go, go = (hgTo S b N m).1 := ⟨_, rfl⟩
        obtain ⟨mo, hmo⟩ : ∃ mo, mo = (hgTo S b N m).2 := ⟨_, rfl⟩
        have HGM := hidI (show hgTo S b N m = (go, mo) from by rw [hgo, hmo])
        rw [← hgo, ← hmo]
        rw [← hgo, ← hmo] at HSTEP
        clear hc hW hH hblk hX hb0 hsk hfar hx hxt hgo hmo
        go_wp2_with (first | (refine r_idx 74 _ _ (.slice (some ⟨gB, 0, none⟩) S.length cap) (.int .i64 m) _ rfl rfl (Tryd.psix gB S.length cap m hlt _) rfl ?_) | (refine r_ldc 83 _ ⟨gB, m, none⟩ (.pointer (some ⟨b0, 0, none⟩)) rfl (Tryd.isAgg83 _) cp rfl ?_))
        refine q_whole (by kernel_rfl) (by kernel_rfl) ?_
        refine q_move _ (.pointer (some ⟨b0, 0, none⟩)) rfl rfl ?_; simp only [Act.put, List.setIfInBounds_toArray, List.set_cons_succ, List.set_cons_zero]
        refine q_take (.pointer (some ⟨b0, 0, Option.none⟩)) rfl (fun w' hw' => rfl) ?_; simp only [Act.put, List.setIfInBounds_toArray, List.set_cons_succ, List.set_cons_zero]
        refine q_take (.pointer (some ⟨b0, 0, none⟩)) rfl (fun w' hw' => e_val _ _ (Tryd.rf0 _ _)) ?_; simp only [Act.put, List.setIfInBounds_toArray, List.set_cons_succ, List.set_cons_zero]
        refine q_take (.agg (tg W H (.slice (some ⟨G, 0, Option.none⟩) c.length capg))) rfl (fun w' hw' => e_load_mid 58 (.tmp 31) b0 0 (tg W H (.slice (some ⟨G, 0, Option.none⟩) c.length capg)).toList _ rfl (fun j u hj => hw'.cell (hrg j u hj)) Tryd.underlying58 rfl Tryd.tinfo) ?_; simp only [Act.put, List.setIfInBounds_toArray, List.set_cons_succ, List.set_cons_zero]
        refine q_move _ (.string ⟨#[b]⟩) rfl rfl ?_; simp only [Act.put, List.setIfInBounds_toArray, List.set_cons_succ, List.set_cons_zero]
        refine q_take (.int .u8 b.toNat) rfl (fun w' hw' => e_val _ _ (s_idx0 Tryd.underlying9 b _)) ?_; simp only [Act.put, List.setIfInBounds_toArray, List.set_cons_succ, List.set_cons_zero]
        refine q_call 55 [.tmp 32, .tmp 34] _ [.agg (tg W H (.slice (some ⟨G, 0, Option.none⟩) c.length capg)), .int .u8 b.toNat] (.int .i64 X) Tryd.call55 rfl rfl (fun w' hw' => (tiPlace_any W H _ c b G capg w' hl36 (hw'.row hgrd)).mono fun e w'' h => ⟨by rw [HX.out]; exact h.1, hw'.trans h.2⟩) ?_; simp only [Act.put, List.setIfInBounds_toArray, List.set_cons_succ, List.set_cons_zero]
        refine q_assign _ (.int .i64 X) rfl rfl ?_; simp only [Act.put, List.setIfInBounds_toArray, List.set_cons_succ, List.set_cons_zero]
        refine wpQuiet_nil ?_
        intro wq gq
        have k4 := k4.trans gq
        have own := gq.row own
        have hcf := gq.cell hcf
        have zq := gq.size
        cases hin : cbIn O X with
        | true =>
          have HHAS := hidI (show Calls Tryd.prog 91 #[_, .int .i64 X] wq (Ret (.bool true) wq) from hin ▸ cbHas_any _ O X w4.heap.size wq own (by omega))
          have HS2 := hidI (show hgTo S b N (m + 1) = (go, mo) from by
            rw [HSTEP.out, if_neg (show ¬ gi (lenTo S b N m) x < 0 from by have := HSEEN.out.2 (cbIn_iff.1 hin); omega)]
            exact HGM.out)
          have HIN2 := hidI (show ∀ x, x ∈ O ↔ ∃ j, j < m + 1 ∧ cbX S b j = x from fun x => by
            rw [HIN.out]
            constructor
            · rintro ⟨j, hj, e⟩; exact ⟨j, by omega, e⟩
            · rintro ⟨j, hj, e⟩
              rcases Nat.lt_or_ge j m with h | h
              · exact ⟨j, h, e⟩
              · obtain rfl : j = m := by omega
                rw [← HXX.out] at e
                exact e ▸ (HIN.out X).1 (cbIn_iff.1 hin))
          clear hin
          go_wp2_with (go_at_call 91; refine HHAS.out.mono ?_; rintro e w6 ⟨rfl, g6⟩; have own := g6.row own; have k4 := k4.trans g6)
          go_roundw
          case rel => exact ⟨m + 1, O, by omega, by go_num, by rw [HS2.out], by rw [HS2.out], own, HIN2, by omega, k4⟩
          case measure => simp [intOf]; omega
        | false =>
          have HHAS := hidI (show Calls Tryd.prog 91 #[_, .int .i64 X] wq (Ret (.bool false) wq) from hin ▸ cbHas_any _ O X w4.heap.size wq own (by omega))
          have hni : X ∉ O := fun h => by have := cbIn_iff.2 h; rw [hin] at this; cases this
          have HST2 := hidI (show hgTo S b N (m + 1) = if mo < (far : Int) ∨ ((far : Int) = mo ∧ X < go) then (X, (far : Int)) else (go, mo) from by
            rw [HSTEP.out, if_pos (show gi (lenTo S b N m) x < 0 from (Int.lt_or_le (gi (lenTo S b N m) x) 0).elim id fun h => absurd (HSEEN.out.1 h) hni), HGM.out])
          have HIN2 := hidI (show ∀ x, x ∈ O ++ [X] ↔ ∃ j, j < m + 1 ∧ cbX S b j = x from fun x => by
            rw [List.mem_append, List.mem_singleton, HIN.out]
            constructor
            · rintro (⟨j, hj, e⟩ | rfl)
              · exact ⟨j, by omega, e⟩
              · exact ⟨m, by omega, HXX.out.symm⟩
            · rintro ⟨j, hj, e⟩
              rcases Nat.lt_or_ge j m with h | h
              · exact .inl ⟨j, h, e⟩
              · obtain rfl : j = m := by omega
                exact .inr (by rw [← e]; exact HXX.out.symm))
          have HAP := hidI (show intsV O ++ [.int .i64 X] = intsV (O ++ [X]) ∧ O.length + 1 = (O ++ [X]).length from ⟨by unfold intsV; simp, by simp⟩)
          have HWR := HAP
          clear hin hni
          obtain ⟨p5, n5, k5, rfl⟩ := own_slice own
          obtain rfl : n5 = O.length := own_len own
          go_upto_region 12 with (first | (go_at_call 91; refine HHAS.out.mono ?_; rintro e w6 ⟨rfl, g6⟩; have own := g6.row own; have k4 := k4.trans g6; have hcf := g6.cell hcf; have z6 := g6.size) | (refine r_slice1 41 3 (.tmp 40) (.int .i64 X) rfl (Tryd.bsiH _ _) rfl ?_; intro we Be Ne; have ge := Ne.gr; have own := ge.row own; have k4 := k4.trans ge; have hcf := ge.cell hcf; have ze := ge.size) | (refine r_append (.tmp 39) (.tmp 41) 41 3 _ 1 8 w4.heap.size Tryd.intsH (.slice p5 O.length k5) O.length (intsV O) rfl own ⟨Be, 0, none⟩ 1 1 [.int .i64 X] rfl rfl Ne.cell1 (by intro u hu; simp at hu; subst hu; rfl) (by omega) (by decide) (by omega) rfl ?_; intro vf wf ownf gf; have k4 := gf.gr k4 (own_gr own (Nat.le_refl _))))
          have hcf : wf.cell? ⟨b0, 4, none⟩ = some (.int .i64 (far : Int)) := by
            rw [HB0.out, HF.out]
            exact ((M4.gr k4).blk m hlt).cell 4
          rw [HAP.out.1, HAP.out.2] at ownf
          have hOl2 : (O ++ [X]).length ≤ m + 1 := by rw [List.length_append]; simp; omega
          by_cases h1 : mo < (far : Int)
          · have hd1 : decide (mo < (far : Int)) = true := decide_eq_true h1
            have HS2 := hidI (show hgTo S b N (m + 1) = (X, (far : Int)) from by rw [HST2.out, if_pos (.inl h1)])
            go_step
            refine r_val (.pointer (some ⟨b0, 0, none⟩)) rfl rfl ?_
            simp only [Act.put, List.setIfInBounds_toArray, List.set_cons_succ, List.set_cons_zero]
            refine r_nil _ ⟨b0, 0, none⟩ rfl rfl ?_
            simp only [Act.put, List.setIfInBounds_toArray, List.set_cons_succ, List.set_cons_zero]
            refine r_fld 85 _ 2 (.pointer (some ⟨b0, 0, none⟩)) (.pointer (some ⟨b0, 4, none⟩)) rfl (Tryd.rf2 _ _) rfl ?_
            simp only [Act.put, List.setIfInBounds_toArray, List.set_cons_succ, List.set_cons_zero]
            refine r_ldc 3 _ ⟨b0, 4, none⟩ (.int .i64 (far : Int)) rfl (Tryd.isAgg3 _) hcf rfl ?_
            simp only [Act.put, List.setIfInBounds_toArray, List.set_cons_succ, List.set_cons_zero]
            refine r_val (.int .i64 mo) rfl rfl ?_
            simp only [Act.put, List.setIfInBounds_toArray, List.set_cons_succ, List.set_cons_zero]
            refine r_val (.bool true) (e_gtrH _ _ (far : Int) mo true rfl rfl hd1) rfl ?_
            simp only [Act.put, List.setIfInBounds_toArray, List.set_cons_succ, List.set_cons_zero]
            refine r_val (.bool true) rfl rfl ?_
            simp only [Act.put, List.setIfInBounds_toArray, List.set_cons_succ, List.set_cons_zero]
            clear hd1
            go_wp2_with (first | (refine r_fld 85 _ 2 (.pointer (some ⟨b0, 0, none⟩)) (.pointer (some ⟨b0, 4, none⟩)) rfl (Tryd.rf2 _ _) rfl ?_) | (refine r_ldc 3 _ ⟨b0, 4, none⟩ (.int .i64 (far : Int)) rfl (Tryd.isAgg3 _) hcf rfl ?_))
            go_roundw
            case rel => exact ⟨m + 1, O ++ [X], by omega, by go_num, by rw [HS2.out], by rw [HS2.out], ownf, HIN2, hOl2, k4⟩
            case measure => simp [intOf]; omega
          · have hd1 : decide (mo < (far : Int)) = false := decide_eq_false h1
            by_cases h2 : (far : Int) = mo
            · have hd2 : decide ((far : Int) = mo) = true := decide_eq_true h2
              by_cases h3 : X < go
              · have hd3 : decide (X < go) = true := decide_eq_true h3
                have HS2 := hidI (show hgTo S b N (m + 1) = (X, (far : Int)) from by rw [HST2.out, if_pos (.inr ⟨h2, h3⟩)])
                clear h2
                go_step
                refine r_val (.pointer (some ⟨b0, 0, none⟩)) rfl rfl ?_
                simp only [Act.put, List.setIfInBounds_toArray, List.set_cons_succ, List.set_cons_zero]
                refine r_nil _ ⟨b0, 0, none⟩ rfl rfl ?_
                simp only [Act.put, List.setIfInBounds_toArray, List.set_cons_succ, List.set_cons_zero]
                refine r_fld 85 _ 2 (.pointer (some ⟨b0, 0, none⟩)) (.pointer (some ⟨b0, 4, none⟩)) rfl (Tryd.rf2 _ _) rfl ?_
                simp only [Act.put, List.setIfInBounds_toArray, List.set_cons_succ, List.set_cons_zero]
                refine r_ldc 3 _ ⟨b0, 4, none⟩ (.int .i64 (far : Int)) rfl (Tryd.isAgg3 _) hcf rfl ?_
                simp only [Act.put, List.setIfInBounds_toArray, List.set_cons_succ, List.set_cons_zero]
                refine r_val (.int .i64 mo) rfl rfl ?_
                simp only [Act.put, List.setIfInBounds_toArray, List.set_cons_succ, List.set_cons_zero]
                refine r_val (.bool false) (e_gtrH _ _ (far : Int) mo false rfl rfl hd1) rfl ?_
                simp only [Act.put, List.setIfInBounds_toArray, List.set_cons_succ, List.set_cons_zero]
                refine r_val (.bool false) rfl rfl ?_
                simp only [Act.put, List.setIfInBounds_toArray, List.set_cons_succ, List.set_cons_zero]
                refine r_val (.pointer (some ⟨b0, 0, none⟩)) rfl rfl ?_
                simp only [Act.put, List.setIfInBounds_toArray, List.set_cons_succ, List.set_cons_zero]
                refine r_nil _ ⟨b0, 0, none⟩ rfl rfl ?_
                simp only [Act.put, List.setIfInBounds_toArray, List.set_cons_succ, List.set_cons_zero]
                refine r_fld 85 _ 2 (.pointer (some ⟨b0, 0, none⟩)) (.pointer (some ⟨b0, 4, none⟩)) rfl (Tryd.rf2 _ _) rfl ?_
                simp only [Act.put, List.setIfInBounds_toArray, List.set_cons_succ, List.set_cons_zero]
                refine r_ldc 3 _ ⟨b0, 4, none⟩ (.int .i64 (far : Int)) rfl (Tryd.isAgg3 _) hcf rfl ?_
                simp only [Act.put, List.setIfInBounds_toArray, List.set_cons_succ, List.set_cons_zero]
                refine r_val (.int .i64 mo) rfl rfl ?_
                simp only [Act.put, List.setIfInBounds_toArray, List.set_cons_succ, List.set_cons_zero]
                refine r_val (.bool true) (e_eqI _ _ (far : Int) mo true rfl rfl hd2) rfl ?_
                simp only [Act.put, List.setIfInBounds_toArray, List.set_cons_succ, List.set_cons_zero]
                refine r_val (.bool true) rfl rfl ?_
                simp only [Act.put, List.setIfInBounds_toArray, List.set_cons_succ, List.set_cons_zero]
                refine r_val (.int .i64 X) rfl rfl ?_
                simp only [Act.put, List.setIfInBounds_toArray, List.set_cons_succ, List.set_cons_zero]
                refine r_val (.int .i64 go) rfl rfl ?_
                simp only [Act.put, List.setIfInBounds_toArray, List.set_cons_succ, List.set_cons_zero]
                refine r_val (.bool true) (e_lssC _ _ X go true rfl rfl hd3) rfl ?_
                simp only [Act.put, List.setIfInBounds_toArray, List.set_cons_succ, List.set_cons_zero]
                clear hd1
                go_wp2_with (first | (refine r_fld 85 _ 2 (.pointer (some ⟨b0, 0, none⟩)) (.pointer (some ⟨b0, 4, none⟩)) rfl (Tryd.rf2 _ _) rfl ?_) | (refine r_ldc 3 _ ⟨b0, 4, none⟩ (.int .i64 (far : Int)) rfl (Tryd.isAgg3 _) hcf rfl ?_))
                go_roundw
                case rel => exact ⟨m + 1, O ++ [X], by omega, by go_num, by rw [HS2.out], by rw [HS2.out], ownf, HIN2, hOl2, k4⟩
                case measure => simp [intOf]; omega
              · have HS2 := hidI (show hgTo S b N (m + 1) = (go, mo) from by rw [HST2.out, if_neg (fun h => h.elim h1 fun h => h3 h.2)])
                have hd3 : decide (X < go) = false := decide_eq_false h3
                clear h2 h3
                go_step
                refine r_val (.pointer (some ⟨b0, 0, none⟩)) rfl rfl ?_
                simp only [Act.put, List.setIfInBounds_toArray, List.set_cons_succ, List.set_cons_zero]
                refine r_nil _ ⟨b0, 0, none⟩ rfl rfl ?_
                simp only [Act.put, List.setIfInBounds_toArray, List.set_cons_succ, List.set_cons_zero]
                refine r_fld 85 _ 2 (.pointer (some ⟨b0, 0, none⟩)) (.pointer (some ⟨b0, 4, none⟩)) rfl (Tryd.rf2 _ _) rfl ?_
                simp only [Act.put, List.setIfInBounds_toArray, List.set_cons_succ, List.set_cons_zero]
                refine r_ldc 3 _ ⟨b0, 4, none⟩ (.int .i64 (far : Int)) rfl (Tryd.isAgg3 _) hcf rfl ?_
                simp only [Act.put, List.setIfInBounds_toArray, List.set_cons_succ, List.set_cons_zero]
                refine r_val (.int .i64 mo) rfl rfl ?_
                simp only [Act.put, List.setIfInBounds_toArray, List.set_cons_succ, List.set_cons_zero]
                refine r_val (.bool false) (e_gtrH _ _ (far : Int) mo false rfl rfl hd1) rfl ?_
                simp only [Act.put, List.setIfInBounds_toArray, List.set_cons_succ, List.set_cons_zero]
                refine r_val (.bool false) rfl rfl ?_
                simp only [Act.put, List.setIfInBounds_toArray, List.set_cons_succ, List.set_cons_zero]
                refine r_val (.pointer (some ⟨b0, 0, none⟩)) rfl rfl ?_
                simp only [Act.put, List.setIfInBounds_toArray, List.set_cons_succ, List.set_cons_zero]
                refine r_nil _ ⟨b0, 0, none⟩ rfl rfl ?_
                simp only [Act.put, List.setIfInBounds_toArray, List.set_cons_succ, List.set_cons_zero]
                refine r_fld 85 _ 2 (.pointer (some ⟨b0, 0, none⟩)) (.pointer (some ⟨b0, 4, none⟩)) rfl (Tryd.rf2 _ _) rfl ?_
                simp only [Act.put, List.setIfInBounds_toArray, List.set_cons_succ, List.set_cons_zero]
                refine r_ldc 3 _ ⟨b0, 4, none⟩ (.int .i64 (far : Int)) rfl (Tryd.isAgg3 _) hcf rfl ?_
                simp only [Act.put, List.setIfInBounds_toArray, List.set_cons_succ, List.set_cons_zero]
                refine r_val (.int .i64 mo) rfl rfl ?_
                simp only [Act.put, List.setIfInBounds_toArray, List.set_cons_succ, List.set_cons_zero]
                refine r_val (.bool true) (e_eqI _ _ (far : Int) mo true rfl rfl hd2) rfl ?_
                simp only [Act.put, List.setIfInBounds_toArray, List.set_cons_succ, List.set_cons_zero]
                refine r_val (.bool true) rfl rfl ?_
                simp only [Act.put, List.setIfInBounds_toArray, List.set_cons_succ, List.set_cons_zero]
                refine r_val (.int .i64 X) rfl rfl ?_
                simp only [Act.put, List.setIfInBounds_toArray, List.set_cons_succ, List.set_cons_zero]
                refine r_val (.int .i64 go) rfl rfl ?_
                simp only [Act.put, List.setIfInBounds_toArray, List.set_cons_succ, List.set_cons_zero]
                refine r_val (.bool false) (e_lssC _ _ X go false rfl rfl hd3) rfl ?_
                simp only [Act.put, List.setIfInBounds_toArray, List.set_cons_succ, List.set_cons_zero]
                clear hd1
                go_wp2_with (first | (refine r_fld 85 _ 2 (.pointer (some ⟨b0, 0, none⟩)) (.pointer (some ⟨b0, 4, none⟩)) rfl (Tryd.rf2 _ _) rfl ?_) | (refine r_ldc 3 _ ⟨b0, 4, none⟩ (.int .i64 (far : Int)) rfl (Tryd.isAgg3 _) hcf rfl ?_))
                go_roundw
                case rel => exact ⟨m + 1, O ++ [X], by omega, by go_num, by rw [HS2.out], by rw [HS2.out], ownf, HIN2, hOl2, k4⟩
                case measure => simp [intOf]; omega
            · have hd2 : decide ((far : Int) = mo) = false := decide_eq_false h2
              have HS2 := hidI (show hgTo S b N (m + 1) = (go, mo) from by rw [HST2.out, if_neg (fun h => h.elim h1 fun h => h2 h.1)])
              clear h2
              go_step
              refine r_val (.pointer (some ⟨b0, 0, none⟩)) rfl rfl ?_
              simp only [Act.put, List.setIfInBounds_toArray, List.set_cons_succ, List.set_cons_zero]
              refine r_nil _ ⟨b0, 0, none⟩ rfl rfl ?_
              simp only [Act.put, List.setIfInBounds_toArray, List.set_cons_succ, List.set_cons_zero]
              refine r_fld 85 _ 2 (.pointer (some ⟨b0, 0, none⟩)) (.pointer (some ⟨b0, 4, none⟩)) rfl (Tryd.rf2 _ _) rfl ?_
              simp only [Act.put, List.setIfInBounds_toArray, List.set_cons_succ, List.set_cons_zero]
              refine r_ldc 3 _ ⟨b0, 4, none⟩ (.int .i64 (far : Int)) rfl (Tryd.isAgg3 _) hcf rfl ?_
              simp only [Act.put, List.setIfInBounds_toArray, List.set_cons_succ, List.set_cons_zero]
              refine r_val (.int .i64 mo) rfl rfl ?_
              simp only [Act.put, List.setIfInBounds_toArray, List.set_cons_succ, List.set_cons_zero]
              refine r_val (.bool false) (e_gtrH _ _ (far : Int) mo false rfl rfl hd1) rfl ?_
              simp only [Act.put, List.setIfInBounds_toArray, List.set_cons_succ, List.set_cons_zero]
              refine r_val (.bool false) rfl rfl ?_
              simp only [Act.put, List.setIfInBounds_toArray, List.set_cons_succ, List.set_cons_zero]
              refine r_val (.pointer (some ⟨b0, 0, none⟩)) rfl rfl ?_
              simp only [Act.put, List.setIfInBounds_toArray, List.set_cons_succ, List.set_cons_zero]
              refine r_nil _ ⟨b0, 0, none⟩ rfl rfl ?_
              simp only [Act.put, List.setIfInBounds_toArray, List.set_cons_succ, List.set_cons_zero]
              refine r_fld 85 _ 2 (.pointer (some ⟨b0, 0, none⟩)) (.pointer (some ⟨b0, 4, none⟩)) rfl (Tryd.rf2 _ _) rfl ?_
              simp only [Act.put, List.setIfInBounds_toArray, List.set_cons_succ, List.set_cons_zero]
              refine r_ldc 3 _ ⟨b0, 4, none⟩ (.int .i64 (far : Int)) rfl (Tryd.isAgg3 _) hcf rfl ?_
              simp only [Act.put, List.setIfInBounds_toArray, List.set_cons_succ, List.set_cons_zero]
              refine r_val (.int .i64 mo) rfl rfl ?_
              simp only [Act.put, List.setIfInBounds_toArray, List.set_cons_succ, List.set_cons_zero]
              refine r_val (.bool false) (e_eqI _ _ (far : Int) mo false rfl rfl hd2) rfl ?_
              simp only [Act.put, List.setIfInBounds_toArray, List.set_cons_succ, List.set_cons_zero]
              refine r_val (.bool false) rfl rfl ?_
              simp only [Act.put, List.setIfInBounds_toArray, List.set_cons_succ, List.set_cons_zero]
              clear hd1
              go_wp2_with (first | (refine r_fld 85 _ 2 (.pointer (some ⟨b0, 0, none⟩)) (.pointer (some ⟨b0, 4, none⟩)) rfl (Tryd.rf2 _ _) rfl ?_) | (refine r_ldc 3 _ ⟨b0, 4, none⟩ (.int .i64 (far : Int)) rfl (Tryd.isAgg3 _) hcf rfl ?_))
              go_roundw
              case rel => exact ⟨m + 1, O ++ [X], by omega, by go_num, by rw [HS2.out], by rw [HS2.out], ownf, HIN2, hOl2, k4⟩
              case measure => simp [intOf]; omega
      · obtain rfl : m = S.length := by omega
        clear hlt
        by_cases h40 : (hgTo S b N S.length).2 ≤ 40
        · have HD := hidI (decide_eq_true h40)
          go_wp2
          go_ret3
          exact ⟨ret_hq (by rw [HV.out]; show _ = Value.tuple #[_, _, .bool (decide _)]; rw [HD.out]; rfl), gg⟩
        · have HD := hidI (decide_eq_false h40)
          go_wp2
          go_ret3
          exact ⟨ret_hq (by rw [HV.out]; show _ = Value.tuple #[_, _, .bool (decide _)]; rw [HD.out]; rfl), gg⟩
theorem hg_hq (l : List UInt8) (n : ByteArray) : hgP l n = match hqS l n with
    | none => none
    | some (S, b, N) => if (hgTo S b N S.length).2 ≤ 40 then some (hgTo S b N S.length) else none := by
  unfold hgP hqS
  cases rbS l n with
  | none => rfl
  | some S => rfl
set_option maxHeartbeats 1000000 in
set_option maxRecDepth 100000 in
theorem sHardestGoal (s n : ByteArray) (w : World) (hs : s.size ≤ 1048576) : Calls Tryd.prog 28 #[.string s, .string n] w (Ret (hgV (hgP s.data.toList n)) w) := by
  have gg := Gr.refl w
  have HQ := hg_hq s.data.toList n
  have HA := fun w => puHardest_any s n w hs
  cases hR : hqS s.data.toList n with
  | none =>
    rw [hR] at HA HQ
    have HV := hidI (show hgP s.data.toList n = none from HQ)
    have HA := hidI (fun w => show Calls Tryd.prog 57 #[.string s, .string n] w (Ret (.tuple #[.int .i64 0, .int .i64 0, .bool false]) w) from HA w)
    clear hR HQ
    go_enter Tryd.func28, Tryd.ntmps28
    go_wp2_with (go_at_call 57; refine (HA.out _).mono ?_; rintro e w1 ⟨rfl, g1⟩; have z1 := g1.size; have gg := gg.trans g1)
    go_ret3
    exact ⟨ret_hq (by rw [HV.out]; rfl), gg⟩
  | some x =>
    obtain ⟨S, b, N⟩ := x
    rw [hR] at HA HQ
    dsimp only at HQ
    obtain ⟨go, hgo⟩ : ∃ go, go = (hgTo S b N S.length).1 := ⟨_, rfl⟩
    obtain ⟨mo, hmo⟩ : ∃ mo, mo = (hgTo S b N S.length).2 := ⟨_, rfl⟩
    have HP := hidI (show hgTo S b N S.length = (go, mo) from by rw [hgo, hmo])
    by_cases h40 : mo ≤ 40
    · have HV := hidI (show hgP s.data.toList n = some (go, mo) from by rw [HQ, if_pos (by rw [← hmo]; exact h40), HP.out])
      have HA := hidI (fun w => show Calls Tryd.prog 57 #[.string s, .string n] w (Ret (.tuple #[.int .i64 go, .int .i64 mo, .bool true]) w) from by
        have := HA w
        unfold hqV at this
        dsimp only at this
        rw [← hgo, ← hmo, decide_eq_true h40] at this
        exact this)
      clear hR HQ hgo hmo
      go_enter Tryd.func28, Tryd.ntmps28
      go_wp2_with (go_at_call 57; refine (HA.out _).mono ?_; rintro e w1 ⟨rfl, g1⟩; have z1 := g1.size; have gg := gg.trans g1)
      go_ret3
      exact ⟨ret_hq (by rw [HV.out]; rfl), gg⟩
    · have HV := hidI (show hgP s.data.toList n = none from by rw [HQ, if_neg (by rw [← hmo]; exact h40)])
      have HA := hidI (fun w => show Calls Tryd.prog 57 #[.string s, .string n] w (Ret (.tuple #[.int .i64 go, .int .i64 mo, .bool false]) w) from by
        have := HA w
        unfold hqV at this
        dsimp only at this
        rw [← hgo, ← hmo, decide_eq_false h40] at this
        exact this)
      clear hR HQ hgo hmo
      go_enter Tryd.func28, Tryd.ntmps28
      go_wp2_with (go_at_call 57; refine (HA.out _).mono ?_; rintro e w1 ⟨rfl, g1⟩; have z1 := g1.size; have gg := gg.trans g1)
      go_ret3
      exact ⟨ret_hq (by rw [HV.out]; rfl), gg⟩
theorem hgV_tup (o : Option (Int × Int)) : ∃ a b c, hgV o = .tuple #[.int .i64 a, .int .i64 b, .bool c] := by
  cases o with
  | none => exact ⟨_, _, _, rfl⟩
  | some p => exact ⟨_, _, _, rfl⟩
set_option maxHeartbeats 1000000 in
theorem lawHardestGoal (s n : ByteArray) (w : World) (hm : ML w) : Calls Tryd.prog 9 #[.string s, .string n] w (Ret (.bool true) w) := by
  have gg := Gr.refl w
  by_cases hs : 1048576 < s.size
  · go_enter Tryd.func9, Tryd.ntmps9
    go_wp2
    go_ret
    exact ⟨rfl, gg⟩
  · have hs' : s.size ≤ 1048576 := by omega
    clear hs
    by_cases hc : 1048576 < n.size
    · go_enter Tryd.func9, Tryd.ntmps9
      go_wp2
      go_ret
      exact ⟨rfl, gg⟩
    · have hc' : n.size ≤ 1048576 := by omega
      clear hc
      obtain ⟨x, y, z, hv⟩ := hgV_tup (hgP s.data.toList n)
      have HS := hidI (fun w => show Calls Tryd.prog 28 #[.string s, .string n] w (Ret (.tuple #[.int .i64 x, .int .i64 y, .bool z]) w) from hv ▸ sHardestGoal s n w hs')
      have HI := hidI (fun w (hm : ML w) => show Calls Tryd.prog 29 #[.string s, .string n] w (Ret (.tuple #[.int .i64 x, .int .i64 y, .bool z]) w) from hv ▸ iHardestGoal s n w hm hs')
      clear hv
      go_enter Tryd.func9, Tryd.ntmps9
      go_wp2_with (first | (go_at_call 28; refine (HS.out _).mono ?_; rintro e w1 ⟨rfl, g1⟩; have z1 := g1.size; have gg := gg.trans g1) | (go_at_call 29; refine (HI.out _ (gg.ml hm)).mono ?_; rintro e w2 ⟨rfl, g2⟩; have z2 := g2.size; have gg := gg.trans g2))
      go_ret
      exact ⟨rfl, gg⟩
end Go.Proofs.YtamdmhclhjkogaaDoor
