/-
  Hardest goals: the model's walk, and the law.
  Puzzles that are made by numbers: in the program and in the model, and the law.
  Puzzles that are made by numbers: the model's walk, and the law.
-/
import Derived.Test.YtamdmhclhjkogaaGreatDoorPuzG
import Derived.Deep.Cut
import Derived.Test.YtamdmhclhjkogaaGreatDoorPuzK
import Derived.Test.YtamdmhclhjkogaaGreatDoorFnE
namespace Go.Proofs.YtamdmhclhjkogaaGreatDoor
open Go.RowKit
def hqV : Option (List (Sta Grid) × UInt8 × Nat) → Value
  | none => .tuple #[.int .i64 0, .int .i64 0, .bool false]
  | some (S, b, N) => .tuple #[.int .i64 (hgTo S b N S.length).1, .int .i64 (hgTo S b N S.length).2, .bool (decide ((hgTo S b N S.length).2 ≤ 40))]
def hqS (l : List UInt8) (n : ByteArray) : Option (List (Sta Grid) × UInt8 × Nat) := (rbS l n).map fun S => (S, hd n, (sta S 0).t.c.length)
theorem ret_hq {v u : Value} (h : v = u) : Ending.returned v = .returned u := by rw [h]
theorem e_gtrH {P : Program} {w : World} {a : Act} {dst : Option Tmp} {ty T yt : TypeId} {pos : String} {aft : Array Edge} {gd : Option (Nat × Bool)} {k : IntKind} (x y : Operand) (m n : Int) (v : Bool) (hx : a.eval x = .int k m) (hy : a.eval y = .int k n) (hv : decide (n < m) = v) :
    (execOp a.eval ⟨dst, .binOp .gtr T x y yt, ty, pos, aft, gd⟩).run P w = .ok (.value (.bool v)) w := by
  subst hv
  unfold execOp
  simp [hx, hy, eqGuard, binOp, Op.intCmp]
set_option maxHeartbeats 8000000 in
set_option maxRecDepth 100000 in
theorem puHardest_any (s n : ByteArray) (w : World) (hs : s.size ≤ 1048576) : Calls Tryz.prog 14 #[.string s, .string n] w (Ret (hqV (hqS s.data.toList n)) w) := by
  have gg := Gr.refl w
  have HA := reBall_any s n w hs
  unfold RetM at HA
  cases hR : rbS s.data.toList n with
  | none =>
    rw [hR] at HA
    have HV := hidI (show hqS s.data.toList n = none from by unfold hqS; rw [hR]; rfl)
    clear hR
    go_enter Tryz.func14, Tryz.ntmps14
    go_wp2_with (go_at_call 24; refine HA.mono ?_; rintro e w1 ⟨g1, rfl⟩; have gg := gg.trans g1)
    go_ret3
    exact ⟨ret_hq (by rw [HV.out]; rfl), gg⟩
  | some S =>
    rw [hR] at HA
    obtain ⟨K, hn⟩ := rb_known hR
    have HV0 := show hqS s.data.toList n = some (S, hd n, (sta S 0).t.c.length) from by unfold hqS; rw [hR]; rfl
    obtain ⟨b, hb⟩ : ∃ b, b = hd n := ⟨_, rfl⟩
    obtain ⟨N, hN⟩ : ∃ N, N = (sta S 0).t.c.length := ⟨_, rfl⟩
    rw [← hb, ← hN] at K HV0
    rw [← hb] at hn
    subst hn
    have HV := hidI HV0
    have h0 := K.pos
    have h300 := K.le
    have n1 := K.n1
    have n36 := K.n36
    have HLEN := hidI K.len
    have HCB := hidI K.cb
    have HCBX := hidI K.cbx
    have HGI := hidI K.hgi
    clear hR HV0 hb hN K
    go_enter Tryz.func14, Tryz.ntmps14
    go_wp2_with (go_at_call 24; refine HA.mono ?_; rintro e w4 ⟨g4, v, bk, sl, nx, rfl, M4, -⟩; obtain ⟨gB, cap, rfl, hlo, hcap⟩ := own_shape M4.row h0; have gg4 := gg.trans g4)
    have own0 : w4.ownsRow w4.heap.size 3 1 (.slice none 0 0) ([] : List Int).length (intsV []) := World.ownsRow_nil _ _ _ _
    go_loopw [9, 10, 11, 25] (fun gv mv ov iv wr => ∃ (m : Nat) (O : List Int), m ≤ S.length ∧ iv = .int .i64 m ∧ gv = .int .i64 (hgTo S b N m).1 ∧ mv = .int .i64 (hgTo S b N m).2 ∧ wr.ownsRow w4.heap.size 3 1 ov O.length (intsV O) ∧ Hid (∀ x, x ∈ O ↔ ∃ j, j < m ∧ cbX S b j = x) ∧ O.length ≤ m ∧ Gr w4 wr) (fun _ _ _ iv _ => S.length - (intOf iv).toNat)
    case atStart => exact ⟨0, [], Nat.zero_le _, rfl, rfl, rfl, own0, hidI (fun x => ⟨fun h => (by cases h), fun ⟨j, hj, _⟩ => absurd hj (Nat.not_lt_zero _)⟩), Nat.le_refl _, Gr.refl _⟩
    case round =>
      clear own0
      obtain ⟨m, O, hm, rfl, rfl, rfl, own, HIN, hOl, k4⟩ := hrel
      have gg := gg4.trans k4
      have M := M4.gr k4
      have zr := k4.size
      by_cases hlt : m < S.length
      · skip
        obtain ⟨b0, hb0⟩ : ∃ b0, b0 = bk m := ⟨_, rfl⟩
        have cp := M.ptr hlt
        have hblk := M.blk m hlt
        have hgrd := M.grd m hlt
        obtain ⟨c, hc⟩ : ∃ c, c = (sta S m).t.c := ⟨_, rfl⟩
        have hrg := rec_rangeH hblk
        have hcf : wr.cell? ⟨bk m, 4, none⟩ = some (.int .i64 ((sta S m).far : Int)) := hblk.cell 4
        obtain ⟨W, hW⟩ : ∃ W : Nat, W = (sta S m).t.w := ⟨_, rfl⟩
        obtain ⟨H, hH⟩ : ∃ H : Nat, H = (sta S m).t.h := ⟨_, rfl⟩
        obtain ⟨far, hfar⟩ : ∃ far, far = (sta S m).far := ⟨_, rfl⟩
        have hl0 : 0 < c.length := by rw [hc, HLEN.out m hlt]; omega
        have hl36 : c.length ≤ 36 := by rw [hc, HLEN.out m hlt]; omega
        rw [← hc] at hgrd
        rw [← hb0, ← hW, ← hH] at hrg
        rw [← hb0, ← hfar] at hcf
        rw [← hb0] at cp
        have cp : wr.cell? ⟨gB, m, none⟩ = some (.pointer (some ⟨b0, 0, none⟩)) := cp
        obtain ⟨sk, hsk⟩ : ∃ sk, sk = sl m := ⟨_, rfl⟩
        rw [← hsk] at hgrd hrg
        obtain ⟨G, capg, rfl, -, -⟩ := own_shape hgrd hl0
        obtain ⟨X, hX⟩ : ∃ X, X = cbX S b m := ⟨_, rfl⟩
        have HX := hidI (show X = ixC c b c.length from by rw [hX, hc]; exact (HCBX.out m hlt).symm)
        have HXX := hidI hX
        have HF := hidI hfar
        have HB0 := hidI hb0
        obtain ⟨x, hx⟩ : ∃ x : Nat, X = (x : Int) := ⟨X.toNat, by have := (HCB.out m hlt).1; omega⟩
        have hxN : x < N := by have := (HCB.out m hlt).2; omega
        have hxt : (cbX S b m).toNat = x := by omega
        have HSEEN := hidI (show 0 ≤ gi (lenTo S b N m) x ↔ X ∈ O from by
          rw [(HGI.out m hm).seen x hxN, HIN.out X]
          exact ⟨fun ⟨j, hj, e⟩ => ⟨j, hj, by omega⟩, fun ⟨j, hj, e⟩ => ⟨j, hj, by omega⟩⟩)
        have HSTEP := hidI (show hgTo S b N (m + 1) = if gi (lenTo S b N m) x < 0 then
              if (hgTo S b N m).2 < (far : Int) ∨ ((far : Int) = (hgTo S b N m).2 ∧ X < (hgTo S b N m).1) then (X, (far : Int)) else hgTo S b N m
            else hgTo S b N m from by
          rw [hX, hfar, ← hxt]
          rfl)
        obtain ⟨go, hgo⟩ : ∃ go, go = (hgTo S b N m).1 := ⟨_, rfl⟩
        obtain ⟨mo, hmo⟩ : ∃ mo, mo = (hgTo S b N m).2 := ⟨_, rfl⟩
        have HGM := hidI (show hgTo S b N m = (go, mo) from by rw [hgo, hmo])
        rw [← hgo, ← hmo]
        rw [← hgo, ← hmo] at HSTEP
        clear hc hW hH hblk hX hb0 hsk hfar hx hxt hgo hmo
        go_wp2_with (first | (refine r_idx 47 _ _ (.slice (some ⟨gB, 0, none⟩) S.length cap) (.int .i64 m) _ rfl rfl (Tryz.psix gB S.length cap m hlt _) rfl ?_) | (refine r_ldc 60 _ ⟨gB, m, none⟩ (.pointer (some ⟨b0, 0, none⟩)) rfl (Tryz.isAgg60 _) cp rfl ?_))
        refine q_whole (by kernel_rfl) (by kernel_rfl) ?_
        refine q_move _ (.pointer (some ⟨b0, 0, none⟩)) rfl rfl ?_; simp only [Act.put, List.setIfInBounds_toArray, List.set_cons_succ, List.set_cons_zero]
        refine q_take (.pointer (some ⟨b0, 0, Option.none⟩)) rfl (fun w' hw' => rfl) ?_; simp only [Act.put, List.setIfInBounds_toArray, List.set_cons_succ, List.set_cons_zero]
        refine q_take (.pointer (some ⟨b0, 0, none⟩)) rfl (fun w' hw' => e_val _ _ (Tryz.rf0 _ _)) ?_; simp only [Act.put, List.setIfInBounds_toArray, List.set_cons_succ, List.set_cons_zero]
        refine q_take (.agg (tg W H (.slice (some ⟨G, 0, Option.none⟩) c.length capg))) rfl (fun w' hw' => e_load_mid 36 (.tmp 31) b0 0 (tg W H (.slice (some ⟨G, 0, Option.none⟩) c.length capg)).toList _ rfl (fun j u hj => hw'.cell (hrg j u hj)) Tryz.underlying36 rfl Tryz.tinfo) ?_; simp only [Act.put, List.setIfInBounds_toArray, List.set_cons_succ, List.set_cons_zero]
        refine q_move _ (.string ⟨#[b]⟩) rfl rfl ?_; simp only [Act.put, List.setIfInBounds_toArray, List.set_cons_succ, List.set_cons_zero]
        refine q_take (.int .u8 b.toNat) rfl (fun w' hw' => e_val _ _ (s_idx0 Tryz.underlying9 b _)) ?_; simp only [Act.put, List.setIfInBounds_toArray, List.set_cons_succ, List.set_cons_zero]
        refine q_call 25 [.tmp 32, .tmp 34] _ [.agg (tg W H (.slice (some ⟨G, 0, Option.none⟩) c.length capg)), .int .u8 b.toNat] (.int .i64 X) Tryz.call25 rfl rfl (fun w' hw' => (tiPlace_any W H _ c b G capg w' hl36 (hw'.row hgrd)).mono fun e w'' h => ⟨by rw [HX.out]; exact h.1, hw'.trans h.2⟩) ?_; simp only [Act.put, List.setIfInBounds_toArray, List.set_cons_succ, List.set_cons_zero]
        refine q_assign _ (.int .i64 X) rfl rfl ?_; simp only [Act.put, List.setIfInBounds_toArray, List.set_cons_succ, List.set_cons_zero]
        refine wpQuiet_nil ?_
        intro wq gq
        have k4 := k4.trans gq
        have own := gq.row own
        have hcf := gq.cell hcf
        have zq := gq.size
        cases hin : cbIn O X with
        | true =>
          have HHAS := hidI (show Calls Tryz.prog 26 #[_, .int .i64 X] wq (Ret (.bool true) wq) from hin ▸ cbHas_any _ O X w4.heap.size wq own (by omega))
          have HS2 := hidI (show hgTo S b N (m + 1) = (go, mo) from by
            rw [HSTEP.out, if_neg (show ¬ gi (lenTo S b N m) x < 0 from by have := HSEEN.out.2 (cbIn_iff.1 hin); omega)]
            exact HGM.out)
          have HIN2 := hidI (show ∀ x, x ∈ O ↔ ∃ j, j < m + 1 ∧ cbX S b j = x from fun x => by
            rw [HIN.out]
            constructor
            · rintro ⟨j, hj, e⟩; exact ⟨j, by omega, e⟩
            · rintro ⟨j, hj, e⟩
              rcases Nat.lt_or_ge j m with h | h
              · exact ⟨j, h, e⟩
              · obtain rfl : j = m := by omega
                rw [← HXX.out] at e
                exact e ▸ (HIN.out X).1 (cbIn_iff.1 hin))
          clear hin
          go_wp2_with (go_at_call 26; refine HHAS.out.mono ?_; rintro e w6 ⟨rfl, g6⟩; have own := g6.row own; have k4 := k4.trans g6)
          go_roundw
          case rel => exact ⟨m + 1, O, by omega, by go_num, by rw [HS2.out], by rw [HS2.out], own, HIN2, by omega, k4⟩
          case measure => simp [intOf]; omega
        | false =>
          have HHAS := hidI (show Calls Tryz.prog 26 #[_, .int .i64 X] wq (Ret (.bool false) wq) from hin ▸ cbHas_any _ O X w4.heap.size wq own (by omega))
          have hni : X ∉ O := fun h => by have := cbIn_iff.2 h; rw [hin] at this; cases this
          have HST2 := hidI (show hgTo S b N (m + 1) = if mo < (far : Int) ∨ ((far : Int) = mo ∧ X < go) then (X, (far : Int)) else (go, mo) from by
            rw [HSTEP.out, if_pos (show gi (lenTo S b N m) x < 0 from (Int.lt_or_le (gi (lenTo S b N m) x) 0).elim id fun h => absurd (HSEEN.out.1 h) hni), HGM.out])
          have HIN2 := hidI (show ∀ x, x ∈ O ++ [X] ↔ ∃ j, j < m + 1 ∧ cbX S b j = x from fun x => by
            rw [List.mem_append, List.mem_singleton, HIN.out]
            constructor
            · rintro (⟨j, hj, e⟩ | rfl)
              · exact ⟨j, by omega, e⟩
              · exact ⟨m, by omega, HXX.out.symm⟩
            · rintro ⟨j, hj, e⟩
              rcases Nat.lt_or_ge j m with h | h
              · exact .inl ⟨j, h, e⟩
              · obtain rfl : j = m := by omega
                exact .inr (by rw [← e]; exact HXX.out.symm))
          have HAP := hidI (show intsV O ++ [.int .i64 X] = intsV (O ++ [X]) ∧ O.length + 1 = (O ++ [X]).length from ⟨by unfold intsV; simp, by simp⟩)
          have HWR := HAP
          clear hin hni
          obtain ⟨p5, n5, k5, rfl⟩ := own_slice own
          obtain rfl : n5 = O.length := own_len own
          go_upto_region 12 with (first | (go_at_call 26; refine HHAS.out.mono ?_; rintro e w6 ⟨rfl, g6⟩; have own := g6.row own; have k4 := k4.trans g6; have hcf := g6.cell hcf; have z6 := g6.size) | (refine r_slice1 52 3 (.tmp 40) (.int .i64 X) rfl (Tryz.bsiH _ _) rfl ?_; intro we Be Ne; have ge := Ne.gr; have own := ge.row own; have k4 := k4.trans ge; have hcf := ge.cell hcf; have ze := ge.size) | (refine r_append (.tmp 39) (.tmp 41) 52 3 _ 1 8 w4.heap.size Tryz.intsH (.slice p5 O.length k5) O.length (intsV O) rfl own ⟨Be, 0, none⟩ 1 1 [.int .i64 X] rfl rfl Ne.cell1 (by intro u hu; simp at hu; subst hu; rfl) (by omega) (by decide) (by omega) rfl ?_; intro vf wf ownf gf; have k4 := gf.gr k4 (own_gr own (Nat.le_refl _))))
          have hcf : wf.cell? ⟨b0, 4, none⟩ = some (.int .i64 (far : Int)) := by
            rw [HB0.out, HF.out]
            exact ((M4.gr k4).blk m hlt).cell 4
          rw [HAP.out.1, HAP.out.2] at ownf
          have hOl2 : (O ++ [X]).length ≤ m + 1 := by rw [List.length_append]; simp; omega
          by_cases h1 : mo < (far : Int)
          · have hd1 : decide (mo < (far : Int)) = true := decide_eq_true h1
            have HS2 := hidI (show hgTo S b N (m + 1) = (X, (far : Int)) from by rw [HST2.out, if_pos (.inl h1)])
            go_step
            refine r_val (.pointer (some ⟨b0, 0, none⟩)) rfl rfl ?_
            simp only [Act.put, List.setIfInBounds_toArray, List.set_cons_succ, List.set_cons_zero]
            refine r_nil _ ⟨b0, 0, none⟩ rfl rfl ?_
            simp only [Act.put, List.setIfInBounds_toArray, List.set_cons_succ, List.set_cons_zero]
            refine r_fld 63 _ 2 (.pointer (some ⟨b0, 0, none⟩)) (.pointer (some ⟨b0, 4, none⟩)) rfl (Tryz.rf2 _ _) rfl ?_
            simp only [Act.put, List.setIfInBounds_toArray, List.set_cons_succ, List.set_cons_zero]
            refine r_ldc 3 _ ⟨b0, 4, none⟩ (.int .i64 (far : Int)) rfl (Tryz.isAgg3 _) hcf rfl ?_
            simp only [Act.put, List.setIfInBounds_toArray, List.set_cons_succ, List.set_cons_zero]
            refine r_val (.int .i64 mo) rfl rfl ?_
            simp only [Act.put, List.setIfInBounds_toArray, List.set_cons_succ, List.set_cons_zero]
            refine r_val (.bool true) (e_gtrH _ _ (far : Int) mo true rfl rfl hd1) rfl ?_
            simp only [Act.put, List.setIfInBounds_toArray, List.set_cons_succ, List.set_cons_zero]
            refine r_val (.bool true) rfl rfl ?_
            simp only [Act.put, List.setIfInBounds_toArray, List.set_cons_succ, List.set_cons_zero]
            clear hd1
            go_wp2_with (first | (refine r_fld 63 _ 2 (.pointer (some ⟨b0, 0, none⟩)) (.pointer (some ⟨b0, 4, none⟩)) rfl (Tryz.rf2 _ _) rfl ?_) | (refine r_ldc 3 _ ⟨b0, 4, none⟩ (.int .i64 (far : Int)) rfl (Tryz.isAgg3 _) hcf rfl ?_))
            go_roundw
            case rel => exact ⟨m + 1, O ++ [X], by omega, by go_num, by rw [HS2.out], by rw [HS2.out], ownf, HIN2, hOl2, k4⟩
            case measure => simp [intOf]; omega
          · have hd1 : decide (mo < (far : Int)) = false := decide_eq_false h1
            by_cases h2 : (far : Int) = mo
            · have hd2 : decide ((far : Int) = mo) = true := decide_eq_true h2
              by_cases h3 : X < go
              · have hd3 : decide (X < go) = true := decide_eq_true h3
                have HS2 := hidI (show hgTo S b N (m + 1) = (X, (far : Int)) from by rw [HST2.out, if_pos (.inr ⟨h2, h3⟩)])
                clear h2
                go_step
                refine r_val (.pointer (some ⟨b0, 0, none⟩)) rfl rfl ?_
                simp only [Act.put, List.setIfInBounds_toArray, List.set_cons_succ, List.set_cons_zero]
                refine r_nil _ ⟨b0, 0, none⟩ rfl rfl ?_
                simp only [Act.put, List.setIfInBounds_toArray, List.set_cons_succ, List.set_cons_zero]
                refine r_fld 63 _ 2 (.pointer (some ⟨b0, 0, none⟩)) (.pointer (some ⟨b0, 4, none⟩)) rfl (Tryz.rf2 _ _) rfl ?_
                simp only [Act.put, List.setIfInBounds_toArray, List.set_cons_succ, List.set_cons_zero]
                refine r_ldc 3 _ ⟨b0, 4, none⟩ (.int .i64 (far : Int)) rfl (Tryz.isAgg3 _) hcf rfl ?_
                simp only [Act.put, List.setIfInBounds_toArray, List.set_cons_succ, List.set_cons_zero]
                refine r_val (.int .i64 mo) rfl rfl ?_
                simp only [Act.put, List.setIfInBounds_toArray, List.set_cons_succ, List.set_cons_zero]
                refine r_val (.bool false) (e_gtrH _ _ (far : Int) mo false rfl rfl hd1) rfl ?_
                simp only [Act.put, List.setIfInBounds_toArray, List.set_cons_succ, List.set_cons_zero]
                refine r_val (.bool false) rfl rfl ?_
                simp only [Act.put, List.setIfInBounds_toArray, List.set_cons_succ, List.set_cons_zero]
                refine r_val (.pointer (some ⟨b0, 0, none⟩)) rfl rfl ?_
                simp only [Act.put, List.setIfInBounds_toArray, List.set_cons_succ, List.set_cons_zero]
                refine r_nil _ ⟨b0, 0, none⟩ rfl rfl ?_
                simp only [Act.put, List.setIfInBounds_toArray, List.set_cons_succ, List.set_cons_zero]
                refine r_fld 63 _ 2 (.pointer (some ⟨b0, 0, none⟩)) (.pointer (some ⟨b0, 4, none⟩)) rfl (Tryz.rf2 _ _) rfl ?_
                simp only [Act.put, List.setIfInBounds_toArray, List.set_cons_succ, List.set_cons_zero]
                refine r_ldc 3 _ ⟨b0, 4, none⟩ (.int .i64 (far : Int)) rfl (Tryz.isAgg3 _) hcf rfl ?_
                simp only [Act.put, List.setIfInBounds_toArray, List.set_cons_succ, List.set_cons_zero]
                refine r_val (.int .i64 mo) rfl rfl ?_
                simp only [Act.put, List.setIfInBounds_toArray, List.set_cons_succ, List.set_cons_zero]
                refine r_val (.bool true) (e_eqI _ _ (far : Int) mo true rfl rfl hd2) rfl ?_
                simp only [Act.put, List.setIfInBounds_toArray, List.set_cons_succ, List.set_cons_zero]
                refine r_val (.bool true) rfl rfl ?_
                simp only [Act.put, List.setIfInBounds_toArray, List.set_cons_succ, List.set_cons_zero]
                refine r_val (.int .i64 X) rfl rfl ?_
                simp only [Act.put, List.setIfInBounds_toArray, List.set_cons_succ, List.set_cons_zero]
                refine r_val (.int .i64 go) rfl rfl ?_
                simp only [Act.put, List.setIfInBounds_toArray, List.set_cons_succ, List.set_cons_zero]
                refine r_val (.bool true) (e_lssC _ _ X go true rfl rfl hd3) rfl ?_
                simp only [Act.put, List.setIfInBounds_toArray, List.set_cons_succ, List.set_cons_zero]
                clear hd1
                go_wp2_with (first | (refine r_fld 63 _ 2 (.pointer (some ⟨b0, 0, none⟩)) (.pointer (some ⟨b0, 4, none⟩)) rfl (Tryz.rf2 _ _) rfl ?_) | (refine r_ldc 3 _ ⟨b0, 4, none⟩ (.int .i64 (far : Int)) rfl (Tryz.isAgg3 _) hcf rfl ?_))
                go_roundw
                case rel => exact ⟨m + 1, O ++ [X], by omega, by go_num, by rw [HS2.out], by rw [HS2.out], ownf, HIN2, hOl2, k4⟩
                case measure => simp [intOf]; omega
              · have HS2 := hidI (show hgTo S b N (m + 1) = (go, mo) from by rw [HST2.out, if_neg (fun h => h.elim h1 fun h => h3 h.2)])
                have hd3 : decide (X < go) = false := decide_eq_false h3
                clear h2 h3
                go_step
                refine r_val (.pointer (some ⟨b0, 0, none⟩)) rfl rfl ?_
                simp only [Act.put, List.setIfInBounds_toArray, List.set_cons_succ, List.set_cons_zero]
                refine r_nil _ ⟨b0, 0, none⟩ rfl rfl ?_
                simp only [Act.put, List.setIfInBounds_toArray, List.set_cons_succ, List.set_cons_zero]
                refine r_fld 63 _ 2 (.pointer (some ⟨b0, 0, none⟩)) (.pointer (some ⟨b0, 4, none⟩)) rfl (Tryz.rf2 _ _) rfl ?_
                simp only [Act.put, List.setIfInBounds_toArray, List.set_cons_succ, List.set_cons_zero]
                refine r_ldc 3 _ ⟨b0, 4, none⟩ (.int .i64 (far : Int)) rfl (Tryz.isAgg3 _) hcf rfl ?_
                simp only [Act.put, List.setIfInBounds_toArray, List.set_cons_succ, List.set_cons_zero]
                refine r_val (.int .i64 mo) rfl rfl ?_
                simp only [Act.put, List.setIfInBounds_toArray, List.set_cons_succ, List.set_cons_zero]
                refine r_val (.bool false) (e_gtrH _ _ (far : Int) mo false rfl rfl hd1) rfl ?_
                simp only [Act.put, List.setIfInBounds_toArray, List.set_cons_succ, List.set_cons_zero]
                refine r_val (.bool false) rfl rfl ?_
                simp only [Act.put, List.setIfInBounds_toArray, List.set_cons_succ, List.set_cons_zero]
                refine r_val (.pointer (some ⟨b0, 0, none⟩)) rfl rfl ?_
                simp only [Act.put, List.setIfInBounds_toArray, List.set_cons_succ, List.set_cons_zero]
                refine r_nil _ ⟨b0, 0, none⟩ rfl rfl ?_
                simp only [Act.put, List.setIfInBounds_toArray, List.set_cons_succ, List.set_cons_zero]
                refine r_fld 63 _ 2 (.pointer (some ⟨b0, 0, none⟩)) (.pointer (some ⟨b0, 4, none⟩)) rfl (Tryz.rf2 _ _) rfl ?_
                simp only [Act.put, List.setIfInBounds_toArray, List.set_cons_succ, List.set_cons_zero]
                refine r_ldc 3 _ ⟨b0, 4, none⟩ (.int .i64 (far : Int)) rfl (Tryz.isAgg3 _) hcf rfl ?_
                simp only [Act.put, List.setIfInBounds_toArray, List.set_cons_succ, List.set_cons_zero]
                refine r_val (.int .i64 mo) rfl rfl ?_
                simp only [Act.put, List.setIfInBounds_toArray, List.set_cons_succ, List.set_cons_zero]
                refine r_val (.bool true) (e_eqI _ _ (far : Int) mo true rfl rfl hd2) rfl ?_
                simp only [Act.put, List.setIfInBounds_toArray, List.set_cons_succ, List.set_cons_zero]
                refine r_val (.bool true) rfl rfl ?_
                simp only [Act.put, List.setIfInBounds_toArray, List.set_cons_succ, List.set_cons_zero]
                refine r_val (.int .i64 X) rfl rfl ?_
                simp only [Act.put, List.setIfInBounds_toArray, List.set_cons_succ, List.set_cons_zero]
                refine r_val (.int .i64 go) rfl rfl ?_
                simp only [Act.put, List.setIfInBounds_toArray, List.set_cons_succ, List.set_cons_zero]
                refine r_val (.bool false) (e_lssC _ _ X go false rfl rfl hd3) rfl ?_
                simp only [Act.put, List.setIfInBounds_toArray, List.set_cons_succ, List.set_cons_zero]
                clear hd1
                go_wp2_with (first | (refine r_fld 63 _ 2 (.pointer (some ⟨b0, 0, none⟩)) (.pointer (some ⟨b0, 4, none⟩)) rfl (Tryz.rf2 _ _) rfl ?_) | (refine r_ldc 3 _ ⟨b0, 4, none⟩ (.int .i64 (far : Int)) rfl (Tryz.isAgg3 _) hcf rfl ?_))
                go_roundw
                case rel => exact ⟨m + 1, O ++ [X], by omega, by go_num, by rw [HS2.out], by rw [HS2.out], ownf, HIN2, hOl2, k4⟩
                case measure => simp [intOf]; omega
            · have hd2 : decide ((far : Int) = mo) = false := decide_eq_false h2
              have HS2 := hidI (show hgTo S b N (m + 1) = (go, mo) from by rw [HST2.out, if_neg (fun h => h.elim h1 fun h => h2 h.1)])
              clear h2
              go_step
              refine r_val (.pointer (some ⟨b0, 0, none⟩)) rfl rfl ?_
              simp only [Act.put, List.setIfInBounds_toArray, List.set_cons_succ, List.set_cons_zero]
              refine r_nil _ ⟨b0, 0, none⟩ rfl rfl ?_
              simp only [Act.put, List.setIfInBounds_toArray, List.set_cons_succ, List.set_cons_zero]
              refine r_fld 63 _ 2 (.pointer (some ⟨b0, 0, none⟩)) (.pointer (some ⟨b0, 4, none⟩)) rfl (Tryz.rf2 _ _) rfl ?_
              simp only [Act.put, List.setIfInBounds_toArray, List.set_cons_succ, List.set_cons_zero]
              refine r_ldc 3 _ ⟨b0, 4, none⟩ (.int .i64 (far : Int)) rfl (Tryz.isAgg3 _) hcf rfl ?_
              simp only [Act.put, List.setIfInBounds_toArray, List.set_cons_succ, List.set_cons_zero]
              refine r_val (.int .i64 mo) rfl rfl ?_
              simp only [Act.put, List.setIfInBounds_toArray, List.set_cons_succ, List.set_cons_zero]
              refine r_val (.bool false) (e_gtrH _ _ (far : Int) mo false rfl rfl hd1) rfl ?_
              simp only [Act.put, List.setIfInBounds_toArray, List.set_cons_succ, List.set_cons_zero]
              refine r_val (.bool false) rfl rfl ?_
              simp only [Act.put, List.setIfInBounds_toArray, List.set_cons_succ, List.set_cons_zero]
              refine r_val (.pointer (some ⟨b0, 0, none⟩)) rfl rfl ?_
              simp only [Act.put, List.setIfInBounds_toArray, List.set_cons_succ, List.set_cons_zero]
              refine r_nil _ ⟨b0, 0, none⟩ rfl rfl ?_
              simp only [Act.put, List.setIfInBounds_toArray, List.set_cons_succ, List.set_cons_zero]
              refine r_fld 63 _ 2 (.pointer (some ⟨b0, 0, none⟩)) (.pointer (some ⟨b0, 4, none⟩)) rfl (Tryz.rf2 _ _) rfl ?_
              simp only [Act.put, List.setIfInBounds_toArray, List.set_cons_succ, List.set_cons_zero]
              refine r_ldc 3 _ ⟨b0, 4, none⟩ (.int .i64 (far : Int)) rfl (Tryz.isAgg3 _) hcf rfl ?_
              simp only [Act.put, List.setIfInBounds_toArray, List.set_cons_succ, List.set_cons_zero]
              refine r_val (.int .i64 mo) rfl rfl ?_
              simp only [Act.put, List.setIfInBounds_toArray, List.set_cons_succ, List.set_cons_zero]
              refine r_val (.bool false) (e_eqI _ _ (far : Int) mo false rfl rfl hd2) rfl ?_
              simp only [Act.put, List.setIfInBounds_toArray, List.set_cons_succ, List.set_cons_zero]
              refine r_val (.bool false) rfl rfl ?_
              simp only [Act.put, List.setIfInBounds_toArray, List.set_cons_succ, List.set_cons_zero]
              clear hd1
              go_wp2_with (first | (refine r_fld 63 _ 2 (.pointer (some ⟨b0, 0, none⟩)) (.pointer (some ⟨b0, 4, none⟩)) rfl (Tryz.rf2 _ _) rfl ?_) | (refine r_ldc 3 _ ⟨b0, 4, none⟩ (.int .i64 (far : Int)) rfl (Tryz.isAgg3 _) hcf rfl ?_))
              go_roundw
              case rel => exact ⟨m + 1, O ++ [X], by omega, by go_num, by rw [HS2.out], by rw [HS2.out], ownf, HIN2, hOl2, k4⟩
              case measure => simp [intOf]; omega
      · obtain rfl : m = S.length := by omega
        clear hlt
        by_cases h40 : (hgTo S b N S.length).2 ≤ 40
        · have HD := hidI (decide_eq_true h40)
          go_wp2
          go_ret3
          exact ⟨ret_hq (by rw [HV.out]; show _ = Value.tuple #[_, _, .bool (decide _)]; rw [HD.out]; rfl), gg⟩
        · have HD := hidI (decide_eq_false h40)
          go_wp2
          go_ret3
          exact ⟨ret_hq (by rw [HV.out]; show _ = Value.tuple #[_, _, .bool (decide _)]; rw [HD.out]; rfl), gg⟩
end Go.Proofs.YtamdmhclhjkogaaGreatDoor
namespace Go.Proofs.YtamdmhclhjkogaaGreatDoor
open Go.RowKit
def nxN (s : Nat) : Nat := (s * 137 + 187) % 10007
theorem nxN_def (s : Nat) : nxN s = (s * 137 + 187) % 10007 := by unfold nxN; exact Eq.refl _
theorem nxN_lt (s : Nat) : nxN s < 10007 := Nat.mod_lt _ (by decide)
def nxTo (s : Nat) : Nat → Nat
  | 0 => s
  | k + 1 => nxN (nxTo s k)
theorem nxTo_lt {s : Nat} (h : s < 10007) : ∀ k, nxTo s k < 10007
  | 0 => h
  | _ + 1 => nxN_lt _
def mcB (x : Nat) : UInt8 := if x % 5 < 2 then 35 else if x % 11 = 2 then 111 else 46
/-- The first k cells made, others as they were. -/
def mkTo (n s : Nat) (d : UInt8) (k : Nat) : List UInt8 := genC n fun i => if i < k then mcB (nxTo s (i + 1)) else d
theorem mkTo_length (n s : Nat) (d : UInt8) (k : Nat) : (mkTo n s d k).length = n := genC_length _ _
theorem mkTo_at (n s : Nat) (d : UInt8) (k i : Nat) (h : i < n) : at0 (mkTo n s d k) i = if i < k then mcB (nxTo s (i + 1)) else d := by unfold mkTo; rw [genC_at, if_pos h]
theorem at0_setM (c : List UInt8) (i : Nat) (b : UInt8) (j : Nat) (hi : i < c.length) : at0 (c.set i b) j = if i = j then b else at0 c j := at0_set c i b j hi
theorem mkTo_set {n s k : Nat} {d : UInt8} (h : k < n) : (mkTo n s d k).set k (mcB (nxTo s (k + 1))) = mkTo n s d (k + 1) := by
  refine list_ext (by rw [List.length_set, mkTo_length, mkTo_length]) fun i hi => ?_
  rw [List.length_set, mkTo_length] at hi
  rw [at0_setM _ _ _ _ (by rw [mkTo_length]; exact h), mkTo_at _ _ _ _ _ hi, mkTo_at _ _ _ _ _ hi]
  by_cases e : k = i
  · subst e; rw [if_pos rfl, if_pos (by omega)]
  · rw [if_neg e]
    by_cases e2 : i < k
    · rw [if_pos e2, if_pos (by omega)]
    · rw [if_neg e2, if_neg (by omega)]
theorem mkTo_same {n s k : Nat} (h : k < n) (hm : mcB (nxTo s (k + 1)) = 46) : mkTo n s 46 k = mkTo n s 46 (k + 1) := by
  rw [← mkTo_set h, hm]
  refine list_ext (by rw [List.length_set]) fun i hi => ?_
  rw [mkTo_length] at hi
  rw [at0_setM _ _ _ _ (by rw [mkTo_length]; exact h)]
  by_cases e : k = i
  · subst e; rw [if_pos rfl, mkTo_at _ _ _ _ _ hi, if_neg (Nat.lt_irrefl _)]
  · rw [if_neg e]
theorem mkTo_all (n s : Nat) (d : UInt8) : mkTo n s d n = mkTo n s 46 n := by
  refine list_ext (by rw [mkTo_length, mkTo_length]) fun i hi => ?_
  rw [mkTo_length] at hi
  rw [mkTo_at _ _ _ _ _ hi, mkTo_at _ _ _ _ _ hi, if_pos hi, if_pos hi]
/-- The cells of a made puzzle. -/
def mkC (n s : Nat) : List UInt8 := (mkTo n s 46 n).set (nxTo s (n + 1) % n) 97
theorem mkC_length (n s : Nat) : (mkC n s).length = n := by unfold mkC; rw [List.length_set, mkTo_length]
def mkV (W H s : Nat) : Value := match hgP (txtL W (mkC (nn W H) s) H) ⟨#[97]⟩ with
  | none => .tuple #[.agg (pv ByteArray.empty ByteArray.empty 0), .bool false]
  | some p => .tuple #[.agg (pv (txtB W H (mkC (nn W H) s)) ⟨#[97]⟩ p.1), .bool true]
def mkOk (w h s : Int) : Bool := btw w 2 5 && btw h 2 5 && btw s 0 9999
def mkR (w h s : Int) : Value := if mkOk w h s then mkV w.toNat h.toNat s.toNat else .tuple #[.agg (pv ByteArray.empty ByteArray.empty 0), .bool false]
theorem ret_mk {v u : Value} (h : v = u) : Ending.returned v = .returned u := by rw [h]
section
variable {P : Program} {w : World} {ops : Array Oper} {rest : List Oper} {a : Act} {Q : Exit → Act → World → Prop} {dst : Option Tmp} {ty : TypeId} {pos : String} {aft : Array Edge} {gd : Option (Nat × Bool)}
theorem e_remM {T yt : TypeId} (x y : Operand) (m n : Nat) (hx : a.eval x = .int .i64 m) (hy : a.eval y = .int .i64 n) (hn : 0 < n) :
    (execOp a.eval ⟨dst, .binOp .rem T x y yt, ty, pos, aft, gd⟩).run P w = .ok (.value (.int .i64 (m % n : Nat))) w := by
  unfold execOp
  simp only [hx, hy, eqGuard_rem, Sem.run_bind, Sem.run_pure, Result.andThen_ok, run_rem T m n hn]
theorem e_remK {T yt : TypeId} (x y : Operand) (m n : Nat) (N : Int) (hN : N = (n : Int)) (hx : a.eval x = .int .i64 m) (hy : a.eval y = .int .i64 N) (hn : 0 < n) :
    (execOp a.eval ⟨dst, .binOp .rem T x y yt, ty, pos, aft, gd⟩).run P w = .ok (.value (.int .i64 (m % n : Nat))) w := by
  subst hN
  exact e_remM x y m n hx hy hn
theorem r_callM (f : FuncId) (x : Operand) (xs : List Operand) (ts : Array TypeId) (vs lb : List Value) (v : Value) (Post : World → Prop) (hcf : ∀ args w, (callFunc f args).run P w = .ok (.enter f args) w) (hx : a.eval x = .func (.func f) #[] lb.toArray) (hvs : xs.map a.eval = vs)
    (hgd : Region.wanted ⟨dst, .call { callee := .value x, args := xs.toArray, argTypes := ts }, ty, pos, aft, gd⟩ (yielded ops a.tmps) = true)
    (hc : Calls P f (vs ++ lb).toArray w fun e w' => e = .returned v ∧ Post w')
    (h : ∀ w', Post w' → wpList P ops Q rest (a.put dst v) w') : wpList P ops Q (⟨dst, .call { callee := .value x, args := xs.toArray, argTypes := ts }, ty, pos, aft, gd⟩ :: rest) a w :=
  wpList_want hgd fun _ hK => by
    have e : (execOp a.eval ⟨dst, .call { callee := .value x, args := xs.toArray, argTypes := ts }, ty, pos, aft, gd⟩).run P w = .ok (.enter f (vs ++ lb).toArray) w := by
      unfold execOp resolve
      simp only [List.map_toArray, hvs, hx, Deferred.ofValue, Sem.run_bind, Sem.run_pure, Result.andThen_ok, invoke, List.append_toArray]
      exact hcf _ _
    unfold Oper.wp
    rw [e]
    exact hc.mono fun e w'' ⟨he, hp⟩ => by
      subst he
      exact hK _ _ (h _ hp)
end
theorem cellsV_setM (c : List UInt8) (i : Nat) (b : UInt8) : (cellsV c).set i (byteV b) = cellsV (c.set i b) := by unfold cellsV; rw [List.map_set]
theorem mcB_cases (x : Nat) : (x % 5 < 2 ∧ mcB x = 35) ∨ (2 ≤ x % 5 ∧ x % 11 = 2 ∧ mcB x = 111) ∨ (2 ≤ x % 5 ∧ x % 11 ≠ 2 ∧ mcB x = 46) := by
  unfold mcB
  by_cases h1 : x % 5 < 2
  · exact .inl ⟨h1, if_pos h1⟩
  · by_cases h2 : x % 11 = 2
    · exact .inr (.inl ⟨by omega, h2, by rw [if_neg h1, if_pos h2]⟩)
    · exact .inr (.inr ⟨by omega, h2, by rw [if_neg h1, if_neg h2]⟩)
set_option maxHeartbeats 1000000 in
theorem seed_any (s : Int) (w : World) : Calls Tryz.prog 29 #[.int .i64 s] w fun e w' => Gr w w' ∧ ∃ B, e = .returned (.func (.func 47) #[] #[.pointer (some ⟨B, 0, none⟩)]) ∧ Blk w' B #[.int .i64 s] 3 ∧ w.heap.size ≤ B := by
  have gg := Gr.refl w
  go_enter Tryz.func29, Tryz.ntmps29
  go_wp2_with (first | (refine r_alloc (dst := some 3) 3 _ Tryz.zeroValue3 rfl ?_; intro w1 B1 N1; have g1 := N1.gr; have b1 : Blk w1 B1 #[.int .i64 0] 3 := N1.blk; have l1 := N1.lo; have gg := gg.trans g1; clear N1) | (refine r_store_cell 3 3 _ _ B1 0 rfl (.int .i64 s) rfl _ b1 (by decide) Tryz.sizeOf3 rfl rfl ?_; intro w2 u2 b2; have gg := u2.gr gg (by omega)))
  go_ret
  exact ⟨gg, B1, rfl, b2, l1⟩
set_option maxHeartbeats 1000000 in
set_option maxRecDepth 100000 in
theorem next_any (B s : Nat) (w : World) (hs : s < 10007) (hb : Blk w B #[.int .i64 s] 3) : Calls Tryz.prog 47 #[.pointer (some ⟨B, 0, none⟩)] w fun e w' => e = .returned (.int .i64 (nxN s)) ∧ Upd B w w' ∧ Blk w' B #[.int .i64 (nxN s)] 3 := by
  have hc : w.cell? ⟨B, 0, none⟩ = some (.int .i64 s) := hb.cell 0
  obtain ⟨y1, h1⟩ : ∃ y, y = s * 137 := ⟨_, rfl⟩
  obtain ⟨y2, h2⟩ : ∃ y, y = y1 + 187 := ⟨_, rfl⟩
  obtain ⟨y3, h3⟩ : ∃ y, y = nxN s := ⟨_, rfl⟩
  obtain ⟨N, hN⟩ : ∃ N : Nat, N = 10007 := ⟨_, rfl⟩
  have HM := hidI (show (s : Int) * 137 = (y1 : Int) from by omega)
  have HA := hidI (show (y1 : Int) + 187 = (y2 : Int) from by omega)
  have HR := hidI (show y3 = y2 % N from by rw [h3, nxN_def, h2, h1, hN])
  have HN := hidI (show (10007 : Int) = (N : Int) from by omega)
  have hN0 : 0 < N := by omega
  have hb1 : y1 ≤ 2000000 := by omega
  have hb2 : y2 ≤ 3000000 := by omega
  rw [← h3]
  clear h1 h2 h3 hN
  go_enter Tryz.func47, Tryz.ntmps47
  go_upto_region 1 with fail
  go_step
  refine r_ldc 3 _ ⟨B, 0, none⟩ (.int .i64 (s : Int)) rfl (Tryz.isAgg3 _) hc rfl ?_
  simp only [Act.put, List.setIfInBounds_toArray, List.set_cons_succ, List.set_cons_zero]
  refine r_val (.int .i64 (y1 : Int)) (e_mul _ _ (s : Int) 137 y1 rfl rfl HM.out (by omega)) rfl ?_
  simp only [Act.put, List.setIfInBounds_toArray, List.set_cons_succ, List.set_cons_zero]
  refine r_val (.int .i64 (y2 : Int)) (e_add _ _ (y1 : Int) 187 y2 rfl rfl HA.out (by omega)) rfl ?_
  simp only [Act.put, List.setIfInBounds_toArray, List.set_cons_succ, List.set_cons_zero]
  refine r_val (.int .i64 ((y2 % N : Nat) : Int)) (e_remK _ _ y2 N 10007 HN.out rfl rfl hN0) rfl ?_
  rw [← HR.out]
  simp only [Act.put, List.setIfInBounds_toArray, List.set_cons_succ, List.set_cons_zero]
  refine r_store_cell 3 3 _ _ B 0 rfl (.int .i64 (y3 : Int)) rfl _ hb (by show 0 < 1; decide) Tryz.sizeOf3 rfl rfl ?_
  intro w2 u2 b2
  have hc2 : w2.cell? ⟨B, 0, none⟩ = some (.int .i64 (y3 : Int)) := b2.cell 0
  simp only [Act.put]
  go_wp2
  go_ret
  exact ⟨rfl, u2, b2⟩
set_option maxHeartbeats 1000000 in
theorem madeCell_any (x : Nat) (w : World) : Calls Tryz.prog 31 #[.int .i64 x] w fun e w' => e = .returned (.int .u8 (mcB x).toNat) ∧ w = w' := by
  obtain ⟨r5, h5⟩ : ∃ r, r = x % 5 := ⟨_, rfl⟩
  obtain ⟨r11, h11⟩ : ∃ r, r = x % 11 := ⟨_, rfl⟩
  have H5 := hidI h5
  have H11 := hidI h11
  rcases mcB_cases x with ⟨h1, hm⟩ | ⟨h1, h2, hm⟩ | ⟨h1, h2, hm⟩
  · rw [← h5] at h1
    rw [hm]
    clear h5 h11 hm
    have hle : r5 ≤ 1 := by omega
    clear h1
    go_enter Tryz.func31, Tryz.ntmps31
    go_wp2_with (refine r_val (.int .i64 ((x % 5 : Nat) : Int)) (e_remM _ _ x 5 rfl rfl (by decide)) rfl ?_; rw [← H5.out])
    go_ret
    exact ⟨rfl, rfl⟩
  · rw [← h5] at h1
    rw [← h11] at h2
    rw [hm]
    have e1 : ((r11 : Int) == 2) = true := by rw [h2]; rfl
    clear h5 h11 hm h2
    go_enter Tryz.func31, Tryz.ntmps31
    go_wp2_with (first | (refine r_val (.int .i64 ((x % 5 : Nat) : Int)) (e_remM _ _ x 5 rfl rfl (by decide)) rfl ?_; rw [← H5.out]) | (refine r_val (.int .i64 ((x % 11 : Nat) : Int)) (e_remM _ _ x 11 rfl rfl (by decide)) rfl ?_; rw [← H11.out]))
    go_ret
    exact ⟨rfl, rfl⟩
  · rw [← h5] at h1
    rw [← h11] at h2
    rw [hm]
    have e1 : ((r11 : Int) == 2) = false := by rw [beq_eq_false_iff_ne]; omega
    clear h5 h11 hm h2
    go_enter Tryz.func31, Tryz.ntmps31
    go_wp2_with (first | (refine r_val (.int .i64 ((x % 5 : Nat) : Int)) (e_remM _ _ x 5 rfl rfl (by decide)) rfl ?_; rw [← H5.out]) | (refine r_val (.int .i64 ((x % 11 : Nat) : Int)) (e_remM _ _ x 11 rfl rfl (by decide)) rfl ?_; rw [← H11.out]))
    go_ret
    exact ⟨rfl, rfl⟩
set_option maxHeartbeats 1000000 in
theorem isMadeSide_any (x : Int) (w : World) : Calls Tryz.prog 16 #[.int .i64 x] w fun e w' => e = .returned (.bool (btw x 2 5)) ∧ w = w' := by
  by_cases h1 : 2 ≤ x
  · have HV := hidI (show btw x 2 5 = decide (x ≤ 5) from by unfold btw; rw [decide_eq_true h1]; rfl)
    go_enter Tryz.func16, Tryz.ntmps16
    go_wp2
    go_ret
    exact ⟨ret_bool HV.out.symm, rfl⟩
  · have HV := hidI (show btw x 2 5 = false from by unfold btw; rw [decide_eq_false h1]; rfl)
    have h1' : x < 2 := by omega
    clear h1
    go_enter Tryz.func16, Tryz.ntmps16
    go_wp2
    go_ret
    exact ⟨ret_bool HV.out.symm, rfl⟩
set_option maxHeartbeats 4000000 in
set_option maxRecDepth 100000 in
theorem madeGrid_any (W H s : Nat) (w : World) (hW1 : 1 ≤ W) (hH1 : 1 ≤ H) (hW : W ≤ 5) (hH : H ≤ 5) (hs : s < 10007) : Calls Tryz.prog 18 #[.int .i64 W, .int .i64 H, .int .i64 s] w (Ret (.agg (gv W H (mkC (nn W H) s))) w) := by
  have gg := Gr.refl w
  obtain ⟨n, hn⟩ : ∃ n, n = nn W H := ⟨_, rfl⟩
  have h25 : n ≤ 25 := by rw [hn]; exact nn_le hW hH
  have hn1 : 1 ≤ n := by rw [hn]; exact Nat.mul_pos hW1 hH1
  have HCA := hidI (fun (c : List UInt8) w' => show Calls Tryz.prog 30 #[.agg (gv W H c)] w' (Ret (.int .i64 (n : Int)) w') from by rw [hn]; exact countAll_any W H c w' (by omega) (by omega))
  have HST := hidI (show gv W H [] = gv W H (mkTo n s 0 0) from gv_ext fun i _ => by
    by_cases h : i < n
    · rw [mkTo_at _ _ _ _ _ h, if_neg (Nat.not_lt_zero _)]; rfl
    · unfold mkTo; rw [genC_at, if_neg h]; rfl)
  have HLT := hidI (fun k => nxTo_lt hs k)
  rw [← hn]
  clear hn
  go_enter Tryz.func18, Tryz.ntmps18
  go_wp2_with (first | (refine r_alloc (dst := some 6) 45 _ Tryz.gzero rfl ?_; intro w6 B6 N6; have g6 := N6.gr; have b6 : Blk w6 B6 (gv 0 0 []) 45 := N6.blk; have l6 := N6.lo; have t6 := N6.hi; have z6 := g6.size; have gg := gg.trans g6; clear N6; obtain ⟨b6_0, b6_1, b6_2⟩ := gcells b6) | (go_at_call 29; refine (seed_any s _).mono ?_; rintro e w7 ⟨g7, B, rfl, bB, lB⟩; have z7 := g7.size; have b6 := g7.blk b6; have gg := gg.trans g7) | (refine r_build 45 [(0, .tmp 12), (1, .tmp 13)] [(0, .int .i64 (W)), (1, .int .i64 (H))] _ (Tryz.gbuild _ _ _) rfl rfl ?_) | ((refine r_alloc (dst := some 8) 45 _ Tryz.gzero rfl ?_; intro w8 B8 N8; have g8 := N8.gr; have b8 : Blk w8 B8 (gv 0 0 []) 45 := N8.blk; have l8 := N8.lo; have t8 := N8.hi; have z8 := g8.size; have b6 := g8.blk b6; have gg := gg.trans g8; clear N8; obtain ⟨b8_0, b8_1, b8_2⟩ := gcells b8); have bB := g8.blk bB) | (have hneB := blk_ne bB b8 (by decide); (refine r_store_row 45 45 _ _ _ rfl (gv W H []) _ rfl b8 (Tryz.gsize' _ _ _) (by simp only [gv_size]) (gv_one _ _ _) rfl ?_; intro w9 u9 b8'; have z9 := u9.size; have gg := u9.gr gg (by omega); clear b8; have b8 := b8'; clear b8'; obtain ⟨b8_0, b8_1, b8_2⟩ := gcells b8); have b6 := u9.blk b6 (by omega); have bB := u9.blk bB hneB) | (refine r_load_row 45 _ _ rfl _ _ _ b8 Tryz.underlying45 rfl (Tryz.ginfo' _ _ _) rfl ?_) | ((go_at_call 30; refine (HCA.out _ _).mono ?_; rintro e w10 ⟨rfl, g10⟩; have z10 := g10.size; have b6 := g10.blk b6; have b8 := g10.blk b8; have gg := gg.trans g10); have bB := g10.blk bB))
  go_loopw [17] (fun iv wr => ∃ k : Nat, k ≤ n ∧ iv = .int .i64 k ∧ Blk wr B #[.int .i64 (nxTo s k)] 3 ∧ Blk wr B8 (gv W H (mkTo n s 0 k)) 45 ∧ Blk wr B6 (gv 0 0 []) 45 ∧ Gr w wr) (fun iv _ => n - (intOf iv).toNat)
  case atStart => exact ⟨0, Nat.zero_le _, rfl, bB, by rw [← HST.out]; exact b8, b6, gg⟩
  case round =>
    have lB8 : w.heap.size ≤ B8 ∧ w.heap.size ≤ B6 ∧ w.heap.size ≤ B ∧ B6 < B8 := ⟨by omega, by omega, by omega, by have := t6; omega⟩
    clear bB b8 b6 gg
    obtain ⟨k, hk, rfl, bB, b8, b6, gg⟩ := hrel
    have hxl := HLT.out k
    have hne8 : B8 ≠ B := blk_ne b8 bB (by decide)
    have hne6 : B6 ≠ B := blk_ne b6 bB (by decide)
    obtain ⟨x, hx⟩ : ∃ x, x = nxTo s k := ⟨_, rfl⟩
    have HX := hidI hx
    rw [← hx] at bB hxl
    have HNX := hidI (show nxN x = nxTo s (k + 1) from by rw [hx]; rfl)
    clear hx
    by_cases hlt : k < n
    · have HSET := hidI (show (gv W H (mkTo n s 0 k)).setIfInBounds (2 + k) (byteV (mcB (nxN x))) = gv W H (mkTo n s 0 (k + 1)) from by
        rw [gv_set W H _ k _ (by omega) (by rw [mkTo_length]; exact hlt), HNX.out, mkTo_set hlt])
      have hk36 : k < 36 := by omega
      go_wp2_with (first | (refine r_callM 47 (.tmp 21) [] _ [] [.pointer (some ⟨B, 0, none⟩)] (.int .i64 (nxN x : Int)) (fun w' => Upd B wr w' ∧ Blk w' B #[.int .i64 (nxN x)] 3) Tryz.call47 rfl rfl rfl ((next_any B x wr hxl bB).mono fun e w' h => ⟨h.1, h.2⟩) ?_; rintro w1 ⟨u1, bB1⟩; have b8 := u1.blk b8 hne8; have b6 := u1.blk b6 hne6; have gg := u1.gr gg lB8.2.2.1; have z1 := u1.size) | (go_at_call 31; refine (madeCell_any _ _).mono ?_; rintro e wSame ⟨rfl, rfl⟩) | (refine r_fld 45 _ 2 (.pointer (some ⟨B8, 0, none⟩)) (.pointer (some ⟨B8, 2, none⟩)) rfl (Tryz.gf2 B8 _) rfl ?_) | (refine r_idx 43 _ _ (.pointer (some ⟨B8, 2, none⟩)) (.int .i64 k) _ rfl rfl (Tryz.gix B8 k hk36 _) rfl ?_) | (refine r_store_cell 5 45 _ _ B8 (2 + k) rfl (byteV (mcB (nxN x))) rfl _ b8 (by rw [gv_size]; omega) Tryz.sizeOf5 rfl rfl ?_; intro w4 u4 b4; rw [HSET.out] at b4; have bB1 := u4.blk bB1 (fun e => hne8 e.symm); have b6 := u4.blk b6 (by omega); have gg := u4.gr gg lB8.1))
      rw [HNX.out] at bB1
      go_roundw
      case rel => exact ⟨k + 1, by omega, by go_num, bB1, b4, b6, gg⟩
      case measure => simp [intOf]; omega
    · obtain rfl : k = n := by omega
      clear hlt
      obtain ⟨q, hq⟩ : ∃ q, q = nxN x % k := ⟨_, rfl⟩
      have hqk : q < k := by rw [hq]; exact Nat.mod_lt _ (by omega)
      have HQ := hidI hq
      have HSET := hidI (show (gv W H (mkTo k s 0 k)).setIfInBounds (2 + q) (byteV 97) = gv W H (mkC k s) from by
        rw [gv_set W H _ q _ (by omega) (by rw [mkTo_length]; exact hqk), mkTo_all]
        unfold mkC
        rw [← HNX.out, ← hq])
      have hq36 : q < 36 := by omega
      clear hq
      go_upto_region 8 with fail
      refine F_begin (fun w => (Blk w B8 (gv W H (mkTo k s 0 k)) 45)) 8 9 #[false, false, false, false, false, false, false, false, false] rfl (by kernel_rfl) (by kernel_rfl) ?_
      have gd := (Gr.refl wr).drew
      have b8 := gd.blk b8
      have b6 := gd.blk b6
      have bB := gd.blk bB
      have gg := gg.trans gd
      have zd := gd.size
      generalize wr.drew = wd at *
      refine F_free (v := .func (.func 47) #[] #[.pointer (some ⟨B, 0, none⟩)]) 0 #[true, false, false, false, false, false, false, false, false] rfl (by kernel_rfl) (fun _ _ _ h => h) rfl (fun _ => rfl) (b8) ?_; simp only [Act.put, List.setIfInBounds_toArray, List.set_cons_succ, List.set_cons_zero]
      refine F_take (v := .agg (gv W H (mkTo k s 0 k))) 2 #[true, false, true, false, false, false, false, false, false] rfl (by kernel_rfl) (fun _ _ _ h => h) rfl (fun w hF => e_load_row 45 (.tmp 8) _ _ _ _ rfl hF Tryz.underlying45 rfl (Tryz.ginfo' _ _ _)) (b8) ?_; simp only [Act.put, List.setIfInBounds_toArray, List.set_cons_succ, List.set_cons_zero]
      refine F_free (v := .int .u8 97) 5 #[true, false, true, false, false, true, false, false, false] rfl (by kernel_rfl) (fun _ _ _ h => h) rfl (fun _ => e_val _ _ (s_idx0 Tryz.underlying9 97 _)) (b8) ?_; simp only [Act.put, List.setIfInBounds_toArray, List.set_cons_succ, List.set_cons_zero]
      refine F_free (v := .pointer (some ⟨B8, 2, none⟩)) 6 #[true, false, true, false, false, true, true, false, false] rfl (by kernel_rfl) (fun _ _ _ h => h) rfl (fun _ => e_val _ _ (Tryz.gf2 B8 _)) (b8) ?_; simp only [Act.put, List.setIfInBounds_toArray, List.set_cons_succ, List.set_cons_zero]
      refine F_one 1 #[true, true, true, false, false, true, true, false, false] rfl (by kernel_rfl) ?_
      refine r_callM 47 (.tmp 27) [] _ [] [.pointer (some ⟨B, 0, none⟩)] (.int .i64 (nxN x : Int)) (fun w' => Upd B wd w' ∧ Blk w' B #[.int .i64 (nxN x)] 3) Tryz.call47 rfl rfl rfl ((next_any B x wd hxl bB).mono fun e w' h => ⟨h.1, h.2⟩) ?_
      rintro w1 ⟨u1, bB1⟩
      have b8 := u1.blk b8 hne8
      have b6 := u1.blk b6 hne6
      have gg := u1.gr gg lB8.2.2.1
      have z1 := u1.size
      refine ⟨fun _ => b8, ?_⟩
      simp only [Act.put, List.setIfInBounds_toArray, List.set_cons_succ, List.set_cons_zero]
      refine F_one 3 #[true, true, true, true, false, true, true, false, false] rfl (by kernel_rfl) ?_
      refine r_call 30 [.tmp 29] _ [.agg (gv W H (mkTo k s 0 k))] (.int .i64 (k : Int)) (fun w' => Gr w1 w') Tryz.call30 rfl rfl (HCA.out _ w1) ?_
      intro w2 g2
      have b8 := g2.blk b8
      have b6 := g2.blk b6
      have gg := gg.trans g2
      have z2 := g2.size
      refine ⟨fun _ => b8, ?_⟩
      simp only [Act.put, List.setIfInBounds_toArray, List.set_cons_succ, List.set_cons_zero]
      refine F_free (v := .int .i64 (nxN x % k : Nat)) 4 #[true, true, true, true, true, true, true, false, false] rfl (by kernel_rfl) (fun _ _ _ h => h) rfl (fun _ => e_remM _ _ (nxN x) k rfl rfl (by omega)) (b8) ?_; simp only [Act.put, List.setIfInBounds_toArray, List.set_cons_succ, List.set_cons_zero]
      rw [← HQ.out]
      refine F_free (v := .pointer (some ⟨B8, 2 + q, none⟩)) 7 #[true, true, true, true, true, true, true, true, false] rfl (by kernel_rfl) (fun _ _ _ h => h) rfl (fun _ => e_val _ _ (Tryz.gix B8 q hq36 _)) (b8) ?_; simp only [Act.put, List.setIfInBounds_toArray, List.set_cons_succ, List.set_cons_zero]
      refine F_one 8 #[true, true, true, true, true, true, true, true, true] rfl (by kernel_rfl) ?_
      refine r_store_cell 5 45 _ _ B8 (2 + q) rfl (byteV 97) rfl _ b8 (by rw [gv_size]; omega) Tryz.sizeOf5 rfl rfl ?_
      intro w4 u4 b4
      rw [HSET.out] at b4
      have b6 := u4.blk b6 (by omega)
      have gg := u4.gr gg lB8.1
      refine ⟨fun h => (by cases h), ?_⟩
      simp only [Act.put]
      refine F_done (by kernel_rfl) ?_
      go_wp2_with (first | (refine r_load_row 45 _ _ rfl _ _ _ b4 Tryz.underlying45 rfl (Tryz.ginfo' _ _ _) rfl ?_) | (refine r_store_row 45 45 _ _ _ rfl (gv _ _ _) _ rfl b6 (Tryz.gsize' _ _ _) (by simp only [gv_size]) (gv_one _ _ _) rfl ?_; intro w9 u9 b6'; have z9 := u9.size; have gg := u9.gr gg (by omega); clear b6; have b6 := b6'; clear b6'; obtain ⟨b6_0, b6_1, b6_2⟩ := gcells b6))
      refine bodyPost_ret (results_row rfl _ _ _ _ _ _ rfl b6 Tryz.underlying45 rfl (Tryz.ginfo' _ _ _)) rfl ⟨?_, gg⟩
      rfl
def n97 : ByteArray := ⟨#[97]⟩
theorem mkR_bad {w h s : Int} (hb : mkOk w h s = false) : mkR w h s = .tuple #[.agg (pv ByteArray.empty ByteArray.empty 0), .bool false] := by unfold mkR; rw [hb]; rfl
theorem mkR_ok {W H s : Nat} (hb : mkOk W H s = true) : mkR W H s = mkV W H s := by unfold mkR; rw [hb, if_pos rfl, Int.toNat_natCast, Int.toNat_natCast, Int.toNat_natCast]
theorem mk_bad1 {w h s : Int} (h1 : btw w 2 5 = false) : mkOk w h s = false := by unfold mkOk; rw [h1]; rfl
theorem mk_bad2 {w h s : Int} (h1 : btw h 2 5 = false) : mkOk w h s = false := by unfold mkOk; rw [h1]; simp
theorem mk_bad3 {w h s : Int} (h1 : btw s 0 9999 = false) : mkOk w h s = false := by unfold mkOk; rw [h1]; simp
theorem mk_good {w h s : Int} (h1 : btw w 2 5 = true) (h2 : btw h 2 5 = true) (h3 : btw s 0 9999 = true) : mkOk w h s = true ∧ ∃ W H S : Nat, w = W ∧ h = H ∧ s = S ∧ 2 ≤ W ∧ W ≤ 5 ∧ 2 ≤ H ∧ H ≤ 5 ∧ S ≤ 9999 := by
  refine ⟨by unfold mkOk; rw [h1, h2, h3]; rfl, ?_⟩
  unfold btw at h1 h2 h3
  simp only [Bool.and_eq_true, decide_eq_true_eq] at h1 h2 h3
  exact ⟨w.toNat, h.toNat, s.toNat, by omega, by omega, by omega, by omega, by omega, by omega, by omega, by omega⟩
theorem mkV_none {W H s : Nat} (h : hgP (txtL W (mkC (nn W H) s) H) ⟨#[97]⟩ = none) : mkV W H s = .tuple #[.agg (pv ByteArray.empty ByteArray.empty 0), .bool false] := by unfold mkV; rw [h]
theorem mkV_some {W H s : Nat} {p : Int × Int} (h : hgP (txtL W (mkC (nn W H) s) H) ⟨#[97]⟩ = some p) : mkV W H s = .tuple #[.agg (pv (txtB W H (mkC (nn W H) s)) ⟨#[97]⟩ p.1), .bool true] := by unfold mkV; rw [h]
set_option maxHeartbeats 4000000 in
set_option maxRecDepth 100000 in
theorem iMakePuzzle (x y z : Int) (w : World) (hm : ML w) : Calls Tryz.prog 6 #[.int .i64 x, .int .i64 y, .int .i64 z] w (Ret (mkR x y z) w) := by
  have gg := Gr.refl w
  cases h1 : btw x 2 5 with
  | false =>
    have HV := hidI (mkR_bad (mk_bad1 (h := y) (s := z) h1))
    have H1 := hidI h1
    clear h1
    go_enter Tryz.func6, Tryz.ntmps6
    go_upto_region 2 with (first | (refine r_alloc (dst := some 6) 23 _ Tryz.ipzero rfl ?_; intro w6 B6 N6; have g6 := N6.gr; have b6 : Blk w6 B6 (pv ByteArray.empty ByteArray.empty 0) 23 := N6.blk; have l6 := N6.lo; have t6 := N6.hi; have z6 := g6.size; have gg := gg.trans g6; clear N6; obtain ⟨b6_0, b6_1, b6_2⟩ := pcells b6) | (go_at_call 16; refine (isMadeSide_any _ _).mono ?_; rintro e wSame ⟨rfl, rfl⟩; rw [H1.out]))
    go_wp2_with (first | (refine r_build 23 [] [] _ (Tryz.ipbuild0 _) rfl rfl ?_) | (refine r_store_row 23 23 _ _ _ rfl (pv (_) (_) (_)) _ rfl b6 Tryz.ipsize rfl (pv_one _ _ _) rfl ?_; intro w19 u19 b6'; have z19 := u19.size; have gg := u19.gr gg (by omega); clear b6; have b6 := b6'; clear b6'; obtain ⟨b6_0, b6_1, b6_2⟩ := pcells b6))
    refine bodyPost_ret (results_row_bool rfl _ _ _ _ _ _ rfl b6 Tryz.underlying23 rfl Tryz.ipinfo) rfl ?_
    exact ⟨ret_mk HV.out.symm, gg⟩
  | true =>
    have H1 := hidI h1
    cases h2 : btw y 2 5 with
    | false =>
      have HV := hidI (mkR_bad (mk_bad2 (w := x) (s := z) h2))
      have H2 := hidI h2
      clear h1 h2
      go_enter Tryz.func6, Tryz.ntmps6
      go_upto_region 2 with (first | (refine r_alloc (dst := some 6) 23 _ Tryz.ipzero rfl ?_; intro w6 B6 N6; have g6 := N6.gr; have b6 : Blk w6 B6 (pv ByteArray.empty ByteArray.empty 0) 23 := N6.blk; have l6 := N6.lo; have t6 := N6.hi; have z6 := g6.size; have gg := gg.trans g6; clear N6; obtain ⟨b6_0, b6_1, b6_2⟩ := pcells b6) | (go_at_call 16; refine (isMadeSide_any _ _).mono ?_; rintro e wSame ⟨rfl, rfl⟩; first | rw [H1.out] | rw [H2.out]))
      go_wp2_with (first | (refine r_build 23 [] [] _ (Tryz.ipbuild0 _) rfl rfl ?_) | (refine r_store_row 23 23 _ _ _ rfl (pv (_) (_) (_)) _ rfl b6 Tryz.ipsize rfl (pv_one _ _ _) rfl ?_; intro w19 u19 b6'; have z19 := u19.size; have gg := u19.gr gg (by omega); clear b6; have b6 := b6'; clear b6'; obtain ⟨b6_0, b6_1, b6_2⟩ := pcells b6))
      refine bodyPost_ret (results_row_bool rfl _ _ _ _ _ _ rfl b6 Tryz.underlying23 rfl Tryz.ipinfo) rfl ?_
      exact ⟨ret_mk HV.out.symm, gg⟩
    | true =>
      have H2 := hidI h2
      cases h3 : btw z 0 9999 with
      | false =>
        have HV := hidI (mkR_bad (mk_bad3 (w := x) (h := y) h3))
        have hz : z < 0 ∨ (0 ≤ z ∧ 9999 < z) := by
          unfold btw at h3
          rcases Int.lt_or_le z 0 with h | h
          · exact .inl h
          · rw [decide_eq_true h, Bool.true_and, decide_eq_false_iff_not] at h3
            exact .inr ⟨h, by omega⟩
        clear h1 h2 h3
        rcases hz with hz | ⟨hz, hz2⟩
        · go_enter Tryz.func6, Tryz.ntmps6
          go_upto_region 2 with (first | (refine r_alloc (dst := some 6) 23 _ Tryz.ipzero rfl ?_; intro w6 B6 N6; have g6 := N6.gr; have b6 : Blk w6 B6 (pv ByteArray.empty ByteArray.empty 0) 23 := N6.blk; have l6 := N6.lo; have t6 := N6.hi; have z6 := g6.size; have gg := gg.trans g6; clear N6; obtain ⟨b6_0, b6_1, b6_2⟩ := pcells b6) | (go_at_call 16; refine (isMadeSide_any _ _).mono ?_; rintro e wSame ⟨rfl, rfl⟩; first | rw [H1.out] | rw [H2.out]))
          go_wp2_with (first | (refine r_build 23 [] [] _ (Tryz.ipbuild0 _) rfl rfl ?_) | (refine r_store_row 23 23 _ _ _ rfl (pv (_) (_) (_)) _ rfl b6 Tryz.ipsize rfl (pv_one _ _ _) rfl ?_; intro w19 u19 b6'; have z19 := u19.size; have gg := u19.gr gg (by omega); clear b6; have b6 := b6'; clear b6'; obtain ⟨b6_0, b6_1, b6_2⟩ := pcells b6))
          refine bodyPost_ret (results_row_bool rfl _ _ _ _ _ _ rfl b6 Tryz.underlying23 rfl Tryz.ipinfo) rfl ?_
          exact ⟨ret_mk HV.out.symm, gg⟩
        · go_enter Tryz.func6, Tryz.ntmps6
          go_upto_region 2 with (first | (refine r_alloc (dst := some 6) 23 _ Tryz.ipzero rfl ?_; intro w6 B6 N6; have g6 := N6.gr; have b6 : Blk w6 B6 (pv ByteArray.empty ByteArray.empty 0) 23 := N6.blk; have l6 := N6.lo; have t6 := N6.hi; have z6 := g6.size; have gg := gg.trans g6; clear N6; obtain ⟨b6_0, b6_1, b6_2⟩ := pcells b6) | (go_at_call 16; refine (isMadeSide_any _ _).mono ?_; rintro e wSame ⟨rfl, rfl⟩; first | rw [H1.out] | rw [H2.out]))
          go_wp2_with (first | (refine r_build 23 [] [] _ (Tryz.ipbuild0 _) rfl rfl ?_) | (refine r_store_row 23 23 _ _ _ rfl (pv (_) (_) (_)) _ rfl b6 Tryz.ipsize rfl (pv_one _ _ _) rfl ?_; intro w19 u19 b6'; have z19 := u19.size; have gg := u19.gr gg (by omega); clear b6; have b6 := b6'; clear b6'; obtain ⟨b6_0, b6_1, b6_2⟩ := pcells b6))
          refine bodyPost_ret (results_row_bool rfl _ _ _ _ _ _ rfl b6 Tryz.underlying23 rfl Tryz.ipinfo) rfl ?_
          exact ⟨ret_mk HV.out.symm, gg⟩
      | true =>
        obtain ⟨hok, W, H, s, rfl, rfl, rfl, w2, w5, h2', h5, s9⟩ := mk_good h1 h2 h3
        have HR := hidI (mkR_ok hok)
        have HMG := hidI (fun w' => madeGrid_any W H s w' (by omega) (by omega) w5 h5 (by omega))
        have n36 : nn W H ≤ 36 := by have := nn_le w5 h5; omega
        have hlen := mkC_length (nn W H) s
        have hv0 := fun h => mkV_none (W := W) (H := H) (s := s) h
        have hv1 := fun (p : Int × Int) h => mkV_some (W := W) (H := H) (s := s) (p := p) h
        obtain ⟨c, hc⟩ : ∃ c, c = mkC (nn W H) s := ⟨_, rfl⟩
        rw [← hc] at HMG hlen hv0 hv1
        have HTX := hidI (fun w' => show Calls Tryz.prog 17 #[.agg (gv W H c)] w' (Ret (.string (txtB W H c)) w') from trayText_any W H c w' (.inl (by omega)) (by omega) (by omega) n36)
        have hj := join_len W c H (by omega) (by omega)
        have HHG := hidI (fun w' (hm : ML w') => show Calls Tryz.prog 19 #[.string (txtB W H c), .string ⟨#[97]⟩] w' (Ret (hgV (hgP (txtL W c H) ⟨#[97]⟩)) w') from by
          have := iHardestGoal (txtB W H c) ⟨#[97]⟩ w' hm (by
            have e : (txtB W H c).size = (txtL W c H).length := by unfold txtB; exact List.size_toArray
            omega)
          rwa [show (txtB W H c).data.toList = txtL W c H from by unfold txtB; simp] at this)
        obtain ⟨t, ht⟩ : ∃ t, t = txtB W H c := ⟨_, rfl⟩
        rw [← ht] at HTX HHG hv1
        have hz1 : ¬ (s : Int) < 0 := by omega
        have hz2 : ¬ (9999 : Int) < s := by omega
        cases hp : hgP (txtL W c H) ⟨#[97]⟩ with
        | none =>
          have HV := hidI (show mkR W H s = _ from HR.out.trans (hv0 hp))
          have HHG := hidI (fun w' (hm : ML w') => show Calls Tryz.prog 19 #[.string t, .string ⟨#[97]⟩] w' (Ret (.tuple #[.int .i64 0, .int .i64 0, .bool false]) w') from by have := HHG.out w' hm; rw [hp] at this; exact this)
          clear h1 h2 h3 hok hc hlen hv0 hv1 hj ht hp
          go_enter Tryz.func6, Tryz.ntmps6
          go_wp2_with (first | (refine r_alloc (dst := some 6) 23 _ Tryz.ipzero rfl ?_; intro w6 B6 N6; have g6 := N6.gr; have b6 : Blk w6 B6 (pv ByteArray.empty ByteArray.empty 0) 23 := N6.blk; have l6 := N6.lo; have t6 := N6.hi; have z6 := g6.size; have gg := gg.trans g6; clear N6; obtain ⟨b6_0, b6_1, b6_2⟩ := pcells b6) | (go_at_call 16; refine (isMadeSide_any _ _).mono ?_; rintro e wSame ⟨rfl, rfl⟩; first | rw [H1.out] | rw [H2.out]) | (go_at_call 18; refine (HMG.out _).mono ?_; rintro e w7 ⟨rfl, g7⟩; have z7 := g7.size; have b6 := g7.blk b6; have gg := gg.trans g7) | (go_at_call 17; refine (HTX.out _).mono ?_; rintro e w8 ⟨rfl, g8⟩; have z8 := g8.size; have b6 := g8.blk b6; have gg := gg.trans g8) | (go_at_call 19; refine (HHG.out _ (gg.ml hm)).mono ?_; rintro e w9 ⟨rfl, g9⟩; have z9 := g9.size; have b6 := g9.blk b6; have gg := gg.trans g9) | (refine r_build 23 [] [] _ (Tryz.ipbuild0 _) rfl rfl ?_) | (refine r_store_row 23 23 _ _ _ rfl (pv (_) (_) (_)) _ rfl b6 Tryz.ipsize rfl (pv_one _ _ _) rfl ?_; intro w19 u19 b6'; have z19 := u19.size; have gg := u19.gr gg (by omega); clear b6; have b6 := b6'; clear b6'; obtain ⟨b6_0, b6_1, b6_2⟩ := pcells b6))
          refine bodyPost_ret (results_row_bool rfl _ _ _ _ _ _ rfl b6 Tryz.underlying23 rfl Tryz.ipinfo) rfl ?_
          exact ⟨ret_mk HV.out.symm, gg⟩
        | some p =>
          obtain ⟨go, mo⟩ := p
          have HV := hidI (show mkR W H s = _ from HR.out.trans (hv1 _ hp))
          have HHG := hidI (fun w' (hm : ML w') => show Calls Tryz.prog 19 #[.string t, .string ⟨#[97]⟩] w' (Ret (.tuple #[.int .i64 go, .int .i64 mo, .bool true]) w') from by have := HHG.out w' hm; rw [hp] at this; exact this)
          clear h1 h2 h3 hok hc hlen hv0 hv1 hj ht hp
          go_enter Tryz.func6, Tryz.ntmps6
          go_wp2_with (first | (refine r_alloc (dst := some 6) 23 _ Tryz.ipzero rfl ?_; intro w6 B6 N6; have g6 := N6.gr; have b6 : Blk w6 B6 (pv ByteArray.empty ByteArray.empty 0) 23 := N6.blk; have l6 := N6.lo; have t6 := N6.hi; have z6 := g6.size; have gg := gg.trans g6; clear N6; obtain ⟨b6_0, b6_1, b6_2⟩ := pcells b6) | (go_at_call 16; refine (isMadeSide_any _ _).mono ?_; rintro e wSame ⟨rfl, rfl⟩; first | rw [H1.out] | rw [H2.out]) | (go_at_call 18; refine (HMG.out _).mono ?_; rintro e w7 ⟨rfl, g7⟩; have z7 := g7.size; have b6 := g7.blk b6; have gg := gg.trans g7) | (go_at_call 17; refine (HTX.out _).mono ?_; rintro e w8 ⟨rfl, g8⟩; have z8 := g8.size; have b6 := g8.blk b6; have gg := gg.trans g8) | (go_at_call 19; refine (HHG.out _ (gg.ml hm)).mono ?_; rintro e w9 ⟨rfl, g9⟩; have z9 := g9.size; have b6 := g9.blk b6; have gg := gg.trans g9) | (refine r_build 23 [(0, .tmp 43), (1, .const (.string ⟨#[97]⟩)), (2, .tmp 44)] [(0, .string (t)), (1, .string (⟨#[97]⟩)), (2, .int .i64 (go))] _ (Tryz.ipbuild _ _ _ _) rfl rfl ?_) | (refine r_store_row 23 23 _ _ _ rfl (pv (t) (⟨#[97]⟩) (go)) _ rfl b6 Tryz.ipsize rfl (pv_one _ _ _) rfl ?_; intro w19 u19 b6'; have z19 := u19.size; have gg := u19.gr gg (by omega); clear b6; have b6 := b6'; clear b6'; obtain ⟨b6_0, b6_1, b6_2⟩ := pcells b6))
          refine bodyPost_ret (results_row_bool rfl _ _ _ _ _ _ rfl b6 Tryz.underlying23 rfl Tryz.ipinfo) rfl ?_
          exact ⟨ret_mk HV.out.symm, gg⟩
end Go.Proofs.YtamdmhclhjkogaaGreatDoor
namespace Go.Proofs.YtamdmhclhjkogaaGreatDoor
open Go.RowKit
theorem hg_hqM (l : List UInt8) (n : ByteArray) : hgP l n = match hqS l n with
    | none => none
    | some (S, b, N) => if (hgTo S b N S.length).2 ≤ 40 then some (hgTo S b N S.length) else none := by
  unfold hgP hqS
  cases rbS l n with
  | none => rfl
  | some S => rfl
theorem ph_any (s n : ByteArray) (hs : s.size ≤ 1048576) : ∃ (a b : Int) (ok : Bool), (∀ w, Calls Tryz.prog 14 #[.string s, .string n] w (Ret (.tuple #[.int .i64 a, .int .i64 b, .bool ok]) w)) ∧ (ok = true → hgP s.data.toList n = some (a, b)) ∧ (ok = false → hgP s.data.toList n = none) := by
  have HQ := hg_hqM s.data.toList n
  have HA := fun w => puHardest_any s n w hs
  cases hR : hqS s.data.toList n with
  | none =>
    rw [hR] at HA HQ
    exact ⟨0, 0, false, fun w => HA w, fun h => (by cases h), fun _ => HQ⟩
  | some x =>
    obtain ⟨S, b, N⟩ := x
    rw [hR] at HA HQ
    dsimp only at HQ
    refine ⟨_, _, _, fun w => HA w, fun h => ?_, fun h => ?_⟩
    · rw [HQ, if_pos (of_decide_eq_true h)]
    · rw [HQ, if_neg (of_decide_eq_false h)]
set_option maxHeartbeats 4000000 in
set_option maxRecDepth 100000 in
theorem sMakePuzzle (x y z : Int) (w : World) : Calls Tryz.prog 5 #[.int .i64 x, .int .i64 y, .int .i64 z] w (Ret (mkR x y z) w) := by
  have gg := Gr.refl w
  cases h1 : btw x 2 5 with
  | false =>
    have HV := hidI (mkR_bad (mk_bad1 (h := y) (s := z) h1))
    have H1 := hidI h1
    clear h1
    go_enter Tryz.func5, Tryz.ntmps5
    go_upto_region 2 with (first | (refine r_alloc (dst := some 6) 23 _ Tryz.ipzero rfl ?_; intro w6 B6 N6; have g6 := N6.gr; have b6 : Blk w6 B6 (pv ByteArray.empty ByteArray.empty 0) 23 := N6.blk; have l6 := N6.lo; have t6 := N6.hi; have z6 := g6.size; have gg := gg.trans g6; clear N6; obtain ⟨b6_0, b6_1, b6_2⟩ := pcells b6) | (go_at_call 12; refine (l1In_any _ _ _ _).mono ?_; rintro e wSame ⟨rfl, rfl⟩; rw [H1.out]))
    go_wp2_with (first | (refine r_build 23 [] [] _ (Tryz.ipbuild0 _) rfl rfl ?_) | (refine r_store_row 23 23 _ _ _ rfl (pv (_) (_) (_)) _ rfl b6 Tryz.ipsize rfl (pv_one _ _ _) rfl ?_; intro w19 u19 b6'; have z19 := u19.size; have gg := u19.gr gg (by omega); clear b6; have b6 := b6'; clear b6'; obtain ⟨b6_0, b6_1, b6_2⟩ := pcells b6))
    refine bodyPost_ret (results_row_bool rfl _ _ _ _ _ _ rfl b6 Tryz.underlying23 rfl Tryz.ipinfo) rfl ?_
    exact ⟨ret_mk HV.out.symm, gg⟩
  | true =>
    have H1 := hidI h1
    cases h2 : btw y 2 5 with
    | false =>
      have HV := hidI (mkR_bad (mk_bad2 (w := x) (s := z) h2))
      have H2 := hidI h2
      clear h1 h2
      go_enter Tryz.func5, Tryz.ntmps5
      go_upto_region 2 with (first | (refine r_alloc (dst := some 6) 23 _ Tryz.ipzero rfl ?_; intro w6 B6 N6; have g6 := N6.gr; have b6 : Blk w6 B6 (pv ByteArray.empty ByteArray.empty 0) 23 := N6.blk; have l6 := N6.lo; have t6 := N6.hi; have z6 := g6.size; have gg := gg.trans g6; clear N6; obtain ⟨b6_0, b6_1, b6_2⟩ := pcells b6) | (go_at_call 12; refine (l1In_any _ _ _ _).mono ?_; rintro e wSame ⟨rfl, rfl⟩; first | rw [H1.out] | rw [H2.out]))
      go_wp2_with (first | (refine r_build 23 [] [] _ (Tryz.ipbuild0 _) rfl rfl ?_) | (refine r_store_row 23 23 _ _ _ rfl (pv (_) (_) (_)) _ rfl b6 Tryz.ipsize rfl (pv_one _ _ _) rfl ?_; intro w19 u19 b6'; have z19 := u19.size; have gg := u19.gr gg (by omega); clear b6; have b6 := b6'; clear b6'; obtain ⟨b6_0, b6_1, b6_2⟩ := pcells b6))
      refine bodyPost_ret (results_row_bool rfl _ _ _ _ _ _ rfl b6 Tryz.underlying23 rfl Tryz.ipinfo) rfl ?_
      exact ⟨ret_mk HV.out.symm, gg⟩
    | true =>
      have H2 := hidI h2
      cases h3 : btw z 0 9999 with
      | false =>
        have HV := hidI (mkR_bad (mk_bad3 (w := x) (h := y) h3))
        have H3 := hidI h3
        clear h1 h2 h3
        go_enter Tryz.func5, Tryz.ntmps5
        go_upto_region 2 with (first | (refine r_alloc (dst := some 6) 23 _ Tryz.ipzero rfl ?_; intro w6 B6 N6; have g6 := N6.gr; have b6 : Blk w6 B6 (pv ByteArray.empty ByteArray.empty 0) 23 := N6.blk; have l6 := N6.lo; have t6 := N6.hi; have z6 := g6.size; have gg := gg.trans g6; clear N6; obtain ⟨b6_0, b6_1, b6_2⟩ := pcells b6) | (go_at_call 12; refine (l1In_any _ _ _ _).mono ?_; rintro e wSame ⟨rfl, rfl⟩; first | rw [H1.out] | rw [H2.out] | rw [H3.out]))
        go_wp2_with (first | (refine r_build 23 [] [] _ (Tryz.ipbuild0 _) rfl rfl ?_) | (refine r_store_row 23 23 _ _ _ rfl (pv (_) (_) (_)) _ rfl b6 Tryz.ipsize rfl (pv_one _ _ _) rfl ?_; intro w19 u19 b6'; have z19 := u19.size; have gg := u19.gr gg (by omega); clear b6; have b6 := b6'; clear b6'; obtain ⟨b6_0, b6_1, b6_2⟩ := pcells b6))
        refine bodyPost_ret (results_row_bool rfl _ _ _ _ _ _ rfl b6 Tryz.underlying23 rfl Tryz.ipinfo) rfl ?_
        exact ⟨ret_mk HV.out.symm, gg⟩
      | true =>
        have H3 := hidI h3
        obtain ⟨hok, W, H, s, rfl, rfl, rfl, w2, w5, h2', h5, s9⟩ := mk_good h1 h2 h3
        obtain ⟨n, hn⟩ : ∃ n, n = nn W H := ⟨_, rfl⟩
        have n36 : n ≤ 36 := by have := nn_le w5 h5; omega
        have hn1 : 1 ≤ n := by rw [hn]; exact Nat.mul_pos (by omega) (by omega)
        have HTE := hidI (fun w' => tyEmpty_any W H w' (by rw [← hn]; exact n36))
        have HR0 := hidI (mkR_ok hok)
        have hv0 := fun h => mkV_none (W := W) (H := H) (s := s) h
        have hv1 := fun (p : Int × Int) h => mkV_some (W := W) (H := H) (s := s) (p := p) h
        rw [← hn] at HTE hv0 hv1
        have hlen : (mkC n s).length = nn W H := by rw [mkC_length, hn]
        have hlc : (mkC n s).length = n := mkC_length n s
        obtain ⟨c, hc⟩ : ∃ c, c = mkC n s := ⟨_, rfl⟩
        rw [← hc] at hlen hv0 hv1 hlc
        have hj := join_len W c H (by omega) (by omega)
        have HTT := hidI (fun (w' : World) (base : Nat) (sl : Value) (own : w'.ownsRow base 5 1 sl c.length (cellsV c)) => show Calls Tryz.prog 15 #[.agg (tg W H sl)] w' (Ret (.string (txtB W H c)) w') from tyText_n W H _ _ c _ w' (by omega) (by omega) (by omega) (by omega) (by rw [← hn]; exact n36) hlen rfl own)
        obtain ⟨a, b, ok, hph, hp1, hp0⟩ := ph_any (txtB W H c) ⟨#[97]⟩ (by
            have e : (txtB W H c).size = (txtL W c H).length := by unfold txtB; exact List.size_toArray
            omega)
        rw [show (txtB W H c).data.toList = txtL W c H from by unfold txtB; simp] at hp1 hp0
        obtain ⟨t, ht⟩ : ∃ t, t = txtB W H c := ⟨_, rfl⟩
        rw [← ht] at HTT hph hv1
        have HPH := hidI hph
        have HV1 := hidI (fun h => HR0.out.trans (hv1 (a, b) (hp1 h)))
        have HV0 := hidI (fun h => HR0.out.trans (hv0 (hp0 h)))
        have HLT := hidI (fun k => nxTo_lt (s := s) (by omega) k)
        have HLC := hidI hlc
        have HCC := hidI hc
        have HGL := hidI (genC_length n fun _ => (46 : UInt8))
        have HG0 := hidI (show (genC n fun _ => (46 : UInt8)) = mkTo n s 46 0 from by unfold mkTo; rfl)
        clear h1 h2 h3 hok hn hlen hc hj ht hph hv0 hv1 hp1 hp0 hlc
        go_enter Tryz.func5, Tryz.ntmps5
        go_wp2_with (first | (refine r_alloc (dst := some 6) 23 _ Tryz.ipzero rfl ?_; intro w6 B6 N6; have g6 := N6.gr; have b6 : Blk w6 B6 (pv ByteArray.empty ByteArray.empty 0) 23 := N6.blk; have l6 := N6.lo; have t6 := N6.hi; have z6 := g6.size; have gg := gg.trans g6; clear N6; obtain ⟨b6_0, b6_1, b6_2⟩ := pcells b6) | (go_at_call 12; refine (l1In_any _ _ _ _).mono ?_; rintro e wSame ⟨rfl, rfl⟩; first | rw [H1.out] | rw [H2.out] | rw [H3.out]) | (have zb := gg.size; go_at_call 13; refine (HTE.out _).mono ?_; rintro e w7 ⟨g7, sl, rfl, own7⟩; rw [HGL.out] at own7; obtain ⟨G, cap, rfl, lG, -⟩ := own_shape own7 hn1; have hone := own_one own7; have b6 := g7.blk b6; have z7 := g7.size; have gg := gg.trans g7) | (refine r_alloc (dst := some 8) 36 _ Tryz.tzero rfl ?_; intro w8 B8 N8; have g8 := N8.gr; have b8 : Blk w8 B8 (tg 0 0 (.slice none 0 0)) 36 := N8.blk; have l8 := N8.lo; have t8 := N8.hi; have z8 := g8.size; have b6 := g8.blk b6; have gg := gg.trans g8; clear N8; obtain ⟨b8_0, b8_1, b8_2⟩ := tcells b8) | (refine r_store_row 36 36 _ _ _ rfl (tg _ _ _) _ rfl b8 Tryz.tsize rfl (tg_one hone) rfl ?_; intro w9 u9 b8'; have z9 := u9.size; have gg := u9.gr gg (by omega); have b6 := u9.blk b6 (by omega); clear b8; have b8 := b8'; clear b8'; obtain ⟨b8_0, b8_1, b8_2⟩ := tcells b8))
        have own := own_up (u9.row (g8.row own7) (own_new own7 l8)) zb
        rw [HG0.out] at own
        have lB6 : w.heap.size ≤ B6 ∧ w.heap.size ≤ B8 := ⟨by omega, by omega⟩
        go_loopw [9, 35] (fun sv iv wr => ∃ k : Nat, k ≤ n ∧ iv = .int .i64 k ∧ sv = .int .i64 (nxTo s k) ∧ wr.ownsRow w.heap.size 5 1 (.slice (some ⟨G, 0, none⟩) n cap) n (cellsV (mkTo n s 46 k)) ∧ Blk wr B8 (tg W H (.slice (some ⟨G, 0, none⟩) n cap)) 36 ∧ Blk wr B6 (pv ByteArray.empty ByteArray.empty 0) 23 ∧ Gr w wr) (fun _ iv _ => n - (intOf iv).toNat)
        case atStart => exact ⟨0, Nat.zero_le _, rfl, rfl, own, b8, b6, gg⟩
        case round =>
          clear own b8 b6 gg
          obtain ⟨k, hk, rfl, rfl, own, b8, b6, gg⟩ := hrel
          have hxl := HLT.out k
          obtain ⟨x, hx⟩ : ∃ x, x = nxTo s k := ⟨_, rfl⟩
          rw [← hx] at hxl ⊢
          have HNX := hidI (show nxN x = nxTo s (k + 1) from by rw [hx]; rfl)
          clear hx
          have hG8 : B8 ≠ G := fun e => own_ne own b8 (by decide) (by rw [e]; rfl)
          have hG6 : B6 ≠ G := fun e => own_ne own b6 (by decide) (by rw [e]; rfl)
          obtain ⟨b8_0, b8_1, b8_2⟩ := tcells b8
          obtain ⟨y1, h1⟩ : ∃ y, y = x * 137 := ⟨_, rfl⟩
          obtain ⟨y2, h2⟩ : ∃ y, y = y1 + 187 := ⟨_, rfl⟩
          obtain ⟨y3, h3⟩ : ∃ y, y = nxN x := ⟨_, rfl⟩
          obtain ⟨M, hM⟩ : ∃ M : Nat, M = 10007 := ⟨_, rfl⟩
          have HM := hidI (show (x : Int) * 137 = (y1 : Int) from by omega)
          have HA := hidI (show (y1 : Int) + 187 = (y2 : Int) from by omega)
          have HR := hidI (show y3 = y2 % M from by rw [h3, nxN_def, h2, h1, hM])
          have HN := hidI (show (10007 : Int) = (M : Int) from by omega)
          have HY3 := hidI h3
          have hN0 : 0 < M := by omega
          have hb1 : y1 ≤ 2000000 := by omega
          have hb2 : y2 ≤ 3000000 := by omega
          clear h1 h2 h3 hM
          by_cases hlt : k < n
          · have hix := Tryz.six0 G n cap k hlt
            go_upto_region 7 with fail
            go_step
            refine r_val (.int .i64 (x : Int)) rfl rfl ?_
            simp only [Act.put, List.setIfInBounds_toArray, List.set_cons_succ, List.set_cons_zero]
            refine r_val (.int .i64 (y1 : Int)) (e_mul _ _ (x : Int) 137 y1 rfl rfl HM.out (by omega)) rfl ?_
            simp only [Act.put, List.setIfInBounds_toArray, List.set_cons_succ, List.set_cons_zero]
            refine r_val (.int .i64 (y2 : Int)) (e_add _ _ (y1 : Int) 187 y2 rfl rfl HA.out (by omega)) rfl ?_
            simp only [Act.put, List.setIfInBounds_toArray, List.set_cons_succ, List.set_cons_zero]
            refine r_val (.int .i64 ((y2 % M : Nat) : Int)) (e_remK _ _ y2 M 10007 HN.out rfl rfl hN0) rfl ?_
            rw [← HR.out]
            simp only [Act.put, List.setIfInBounds_toArray, List.set_cons_succ, List.set_cons_zero]
            refine r_val (.int .i64 (y3 : Int)) rfl rfl ?_
            simp only [Act.put, List.setIfInBounds_toArray, List.set_cons_succ, List.set_cons_zero]
            go_upto_region 8 with fail
            go_step
            obtain ⟨r5, h5⟩ : ∃ r, r = y3 % 5 := ⟨_, rfl⟩
            obtain ⟨r11, h11⟩ : ∃ r, r = y3 % 11 := ⟨_, rfl⟩
            have H5 := hidI h5
            have H11 := hidI h11
            refine r_val (.int .i64 (y3 : Int)) rfl rfl ?_
            simp only [Act.put, List.setIfInBounds_toArray, List.set_cons_succ, List.set_cons_zero]
            refine r_val (.int .i64 ((y3 % 5 : Nat) : Int)) (e_remM _ _ y3 5 rfl rfl (by decide)) rfl ?_
            rw [← H5.out]
            simp only [Act.put, List.setIfInBounds_toArray, List.set_cons_succ, List.set_cons_zero]
            rcases mcB_cases y3 with ⟨q1, hm⟩ | ⟨q1, q2, hm⟩ | ⟨q1, q2, hm⟩
            · have hd : decide ((r5 : Int) < 2) = true := decide_eq_true (by omega)
              have HSET := hidI (show (mkTo n s 46 k).set k 35 = mkTo n s 46 (k + 1) from by rw [← hm, HY3.out, HNX.out]; exact mkTo_set hlt)
              clear h5 h11 q1 hm
              refine r_val (.bool true) (e_lssC _ _ (r5 : Int) 2 true rfl rfl hd) rfl ?_
              simp only [Act.put, List.setIfInBounds_toArray, List.set_cons_succ, List.set_cons_zero]
              go_wp2_with (refine r_store_own 5 5 _ _ G k n cap w.heap.size _ rfl (byteV 35) rfl own hlt Tryz.sizeOf5 rfl rfl ?_; intro w4 u4 own4; rw [cellsV_setM, HSET.out] at own4)
              have b8 := u4.blk b8 hG8
              have b6 := u4.blk b6 hG6
              have gg := u4.gr gg (own_gr own (Nat.le_refl _) _ rfl)
              go_roundw
              case rel => exact ⟨k + 1, by omega, by go_num, by rw [HY3.out, HNX.out], own4, b8, b6, gg⟩
              case measure => simp [intOf]; omega
            · have hd : decide ((r5 : Int) < 2) = false := decide_eq_false (by omega)
              have e1 : ((r11 : Int) == 2) = true := by rw [h11, q2]; rfl
              have HSET := hidI (show (mkTo n s 46 k).set k 111 = mkTo n s 46 (k + 1) from by rw [← hm, HY3.out, HNX.out]; exact mkTo_set hlt)
              clear h5 h11 q1 q2 hm
              refine r_val (.bool false) (e_lssC _ _ (r5 : Int) 2 false rfl rfl hd) rfl ?_
              simp only [Act.put, List.setIfInBounds_toArray, List.set_cons_succ, List.set_cons_zero]
              go_upto_region 10 with fail
              go_step
              refine r_val (.int .i64 (y3 : Int)) rfl rfl ?_
              simp only [Act.put, List.setIfInBounds_toArray, List.set_cons_succ, List.set_cons_zero]
              refine r_val (.int .i64 ((y3 % 11 : Nat) : Int)) (e_remM _ _ y3 11 rfl rfl (by decide)) rfl ?_
              rw [← H11.out]
              simp only [Act.put, List.setIfInBounds_toArray, List.set_cons_succ, List.set_cons_zero]
              go_wp2_with (refine r_store_own 5 5 _ _ G k n cap w.heap.size _ rfl (byteV 111) rfl own hlt Tryz.sizeOf5 rfl rfl ?_; intro w4 u4 own4; rw [cellsV_setM, HSET.out] at own4)
              have b8 := u4.blk b8 hG8
              have b6 := u4.blk b6 hG6
              have gg := u4.gr gg (own_gr own (Nat.le_refl _) _ rfl)
              go_roundw
              case rel => exact ⟨k + 1, by omega, by go_num, by rw [HY3.out, HNX.out], own4, b8, b6, gg⟩
              case measure => simp [intOf]; omega
            · have hd : decide ((r5 : Int) < 2) = false := decide_eq_false (by omega)
              have e1 : ((r11 : Int) == 2) = false := by rw [beq_eq_false_iff_ne]; omega
              have HSET := hidI (show mkTo n s 46 k = mkTo n s 46 (k + 1) from mkTo_same hlt (by rw [← HNX.out, ← HY3.out]; exact hm))
              clear h5 h11 q1 q2 hm
              refine r_val (.bool false) (e_lssC _ _ (r5 : Int) 2 false rfl rfl hd) rfl ?_
              simp only [Act.put, List.setIfInBounds_toArray, List.set_cons_succ, List.set_cons_zero]
              go_upto_region 10 with fail
              go_step
              refine r_val (.int .i64 (y3 : Int)) rfl rfl ?_
              simp only [Act.put, List.setIfInBounds_toArray, List.set_cons_succ, List.set_cons_zero]
              refine r_val (.int .i64 ((y3 % 11 : Nat) : Int)) (e_remM _ _ y3 11 rfl rfl (by decide)) rfl ?_
              rw [← H11.out]
              simp only [Act.put, List.setIfInBounds_toArray, List.set_cons_succ, List.set_cons_zero]
              go_wp2
              go_roundw
              case rel => exact ⟨k + 1, by omega, by go_num, by rw [HY3.out, HNX.out], by rw [← HSET.out]; exact own, b8, b6, gg⟩
              case measure => simp [intOf]; omega
          · obtain rfl : k = n := by omega
            clear hlt
            obtain ⟨q, hq⟩ : ∃ q, q = y3 % k := ⟨_, rfl⟩
            have hqk : q < k := by rw [hq]; exact Nat.mod_lt _ (by omega)
            have HQ := hidI hq
            have HSET := hidI (show (mkTo k s 46 k).set q 97 = c from by
              rw [HCC.out]
              unfold mkC
              rw [hq, HY3.out, HNX.out])
            clear hq
            go_upto_region 13 with fail
            go_step
            refine r_val (.int .i64 (x : Int)) rfl rfl ?_
            simp only [Act.put, List.setIfInBounds_toArray, List.set_cons_succ, List.set_cons_zero]
            refine r_val (.int .i64 (y1 : Int)) (e_mul _ _ (x : Int) 137 y1 rfl rfl HM.out (by omega)) rfl ?_
            simp only [Act.put, List.setIfInBounds_toArray, List.set_cons_succ, List.set_cons_zero]
            refine r_val (.int .i64 (y2 : Int)) (e_add _ _ (y1 : Int) 187 y2 rfl rfl HA.out (by omega)) rfl ?_
            simp only [Act.put, List.setIfInBounds_toArray, List.set_cons_succ, List.set_cons_zero]
            refine r_val (.int .i64 ((y2 % M : Nat) : Int)) (e_remK _ _ y2 M 10007 HN.out rfl rfl hN0) rfl ?_
            rw [← HR.out]
            simp only [Act.put, List.setIfInBounds_toArray, List.set_cons_succ, List.set_cons_zero]
            refine r_val (.int .i64 (y3 : Int)) rfl rfl ?_
            simp only [Act.put, List.setIfInBounds_toArray, List.set_cons_succ, List.set_cons_zero]
            go_upto_region 14 with fail
            refine F_begin (fun w => (Blk w B8 (tg W H (.slice (some ⟨G, 0, none⟩) k cap)) 36)) 8 9 #[false, false, false, false, false, false, false, false, false] rfl (by kernel_rfl) (by kernel_rfl) ?_
            have gd := (Gr.refl wr).drew
            have b8 := gd.blk b8
            have b6 := gd.blk b6
            have own := gd.row own
            have gg := gg.trans gd
            have zd := gd.size
            generalize wr.drew = wd at *
            refine F_free (v := .pointer (some ⟨B8, 2, none⟩)) 0 #[true, false, false, false, false, false, false, false, false] rfl (by kernel_rfl) (fun _ _ _ h => h) rfl (fun _ => e_val _ _ (Tryz.tf2 B8 _)) (b8) ?_; simp only [Act.put, List.setIfInBounds_toArray, List.set_cons_succ, List.set_cons_zero]
            refine F_take (v := .slice (some ⟨G, 0, none⟩) k cap) 1 #[true, true, false, false, false, false, false, false, false] rfl (by kernel_rfl) (fun _ _ _ h => h) rfl (fun w hF => e_load 34 (.tmp 63) _ _ rfl (Tryz.isAgg34 _) (tcells hF).2.2) (b8) ?_; simp only [Act.put, List.setIfInBounds_toArray, List.set_cons_succ, List.set_cons_zero]
            refine F_free (v := .int .i64 (y3 : Int)) 2 #[true, true, true, false, false, false, false, false, false] rfl (by kernel_rfl) (fun _ _ _ h => h) rfl (fun _ => rfl) (b8) ?_; simp only [Act.put, List.setIfInBounds_toArray, List.set_cons_succ, List.set_cons_zero]
            refine F_free (v := .pointer (some ⟨B8, 2, none⟩)) 3 #[true, true, true, true, false, false, false, false, false] rfl (by kernel_rfl) (fun _ _ _ h => h) rfl (fun _ => e_val _ _ (Tryz.tf2 B8 _)) (b8) ?_; simp only [Act.put, List.setIfInBounds_toArray, List.set_cons_succ, List.set_cons_zero]
            refine F_take (v := .slice (some ⟨G, 0, none⟩) k cap) 4 #[true, true, true, true, true, false, false, false, false] rfl (by kernel_rfl) (fun _ _ _ h => h) rfl (fun w hF => e_load 34 (.tmp 66) _ _ rfl (Tryz.isAgg34 _) (tcells hF).2.2) (b8) ?_; simp only [Act.put, List.setIfInBounds_toArray, List.set_cons_succ, List.set_cons_zero]
            refine F_free (v := .int .i64 (k : Int)) 5 #[true, true, true, true, true, true, false, false, false] rfl (by kernel_rfl) (fun _ _ _ h => h) rfl (fun _ => by first | rfl | (unfold execOp; simp [go_sem, Act.eval])) (b8) ?_; simp only [Act.put, List.setIfInBounds_toArray, List.set_cons_succ, List.set_cons_zero]
            refine F_free (v := .int .i64 (y3 % k : Nat)) 6 #[true, true, true, true, true, true, true, false, false] rfl (by kernel_rfl) (fun _ _ _ h => h) rfl (fun _ => e_remM _ _ y3 k rfl rfl (by omega)) (b8) ?_; simp only [Act.put, List.setIfInBounds_toArray, List.set_cons_succ, List.set_cons_zero]
            rw [← HQ.out]
            refine F_free (v := .pointer (some ⟨G, q, none⟩)) 7 #[true, true, true, true, true, true, true, true, false] rfl (by kernel_rfl) (fun _ _ _ h => h) rfl (fun _ => e_val _ _ (Tryz.six0 G k cap q hqk _)) (b8) ?_; simp only [Act.put, List.setIfInBounds_toArray, List.set_cons_succ, List.set_cons_zero]
            refine F_one 8 #[true, true, true, true, true, true, true, true, true] rfl (by kernel_rfl) ?_
            refine r_store_own 5 5 _ _ G q k cap w.heap.size _ rfl (byteV 97) rfl own hqk Tryz.sizeOf5 rfl rfl ?_
            intro w4 u4 own4
            rw [cellsV_setM, HSET.out] at own4
            have b8 := u4.blk b8 hG8
            have b6 := u4.blk b6 hG6
            have gg := u4.gr gg (own_gr own (Nat.le_refl _) _ rfl)
            have z4 := u4.size
            refine ⟨fun h => (by cases h), ?_⟩
            simp only [Act.put]
            refine F_done (by kernel_rfl) ?_
            have own5 : w4.ownsRow w.heap.size 5 1 (.slice (some ⟨G, 0, none⟩) k cap) c.length (cellsV c) := by rw [HLC.out]; exact own4
            cases ok with
            | false =>
              have HV := hidI (HV0.out rfl)
              go_wp2_with (first | (refine r_load_row 36 _ _ rfl _ _ _ b8 Tryz.underlying36 rfl Tryz.tinfo rfl ?_) | ((go_at_call 15; refine (HTT.out _ _ _ own5).mono ?_; rintro e w15 ⟨rfl, g15⟩; have z15 := g15.size; have b6 := g15.blk b6; have b8 := g15.blk b8; have gg := gg.trans g15); have own5 := g15.row own5) | ((go_at_call 14; refine (HPH.out _).mono ?_; rintro e w16 ⟨rfl, g16⟩; have z16 := g16.size; have b6 := g16.blk b6; have b8 := g16.blk b8; have gg := gg.trans g16); have own5 := g16.row own5) | (refine r_build 23 [] [] _ (Tryz.ipbuild0 _) rfl rfl ?_) | (refine r_store_row 23 23 _ _ _ rfl (pv (_) (_) (_)) _ rfl b6 Tryz.ipsize rfl (pv_one _ _ _) rfl ?_; intro w19 u19 b6'; have z19 := u19.size; have gg := u19.gr gg (by omega); clear b6; have b6 := b6'; clear b6'; obtain ⟨b6_0, b6_1, b6_2⟩ := pcells b6))
              refine bodyPost_ret (results_row_bool rfl _ _ _ _ _ _ rfl b6 Tryz.underlying23 rfl Tryz.ipinfo) rfl ?_
              exact ⟨ret_mk HV.out.symm, gg⟩
            | true =>
              have HV := hidI (HV1.out rfl)
              go_wp2_with (first | (refine r_load_row 36 _ _ rfl _ _ _ b8 Tryz.underlying36 rfl Tryz.tinfo rfl ?_) | ((go_at_call 15; refine (HTT.out _ _ _ own5).mono ?_; rintro e w15 ⟨rfl, g15⟩; have z15 := g15.size; have b6 := g15.blk b6; have b8 := g15.blk b8; have gg := gg.trans g15); have own5 := g15.row own5) | ((go_at_call 14; refine (HPH.out _).mono ?_; rintro e w16 ⟨rfl, g16⟩; have z16 := g16.size; have b6 := g16.blk b6; have b8 := g16.blk b8; have gg := gg.trans g16); have own5 := g16.row own5) | (refine r_build 23 [(0, .tmp 82), (1, .const (.string ⟨#[97]⟩)), (2, .tmp 83)] [(0, .string (t)), (1, .string (⟨#[97]⟩)), (2, .int .i64 (a))] _ (Tryz.ipbuild _ _ _ _) rfl rfl ?_) | (refine r_store_row 23 23 _ _ _ rfl (pv (t) (⟨#[97]⟩) (a)) _ rfl b6 Tryz.ipsize rfl (pv_one _ _ _) rfl ?_; intro w19 u19 b6'; have z19 := u19.size; have gg := u19.gr gg (by omega); clear b6; have b6 := b6'; clear b6'; obtain ⟨b6_0, b6_1, b6_2⟩ := pcells b6))
              refine bodyPost_ret (results_row_bool rfl _ _ _ _ _ _ rfl b6 Tryz.underlying23 rfl Tryz.ipinfo) rfl ?_
              exact ⟨ret_mk HV.out.symm, gg⟩
theorem mkR_tup (x y z : Int) : ∃ s n k b, mkR x y z = .tuple #[.agg (pv s n k), .bool b] := by
  unfold mkR
  split
  · unfold mkV
    split
    · exact ⟨_, _, _, _, rfl⟩
    · exact ⟨_, _, _, _, rfl⟩
  · exact ⟨_, _, _, _, rfl⟩
set_option maxHeartbeats 1000000 in
theorem eqPuzzle_sameM (s n : ByteArray) (z : Int) (w : World) : Calls Tryz.prog 7 #[.agg (pv s n z), .agg (pv s n z)] w (Ret (.bool true) w) := by
  have gg := Gr.refl w
  go_enter Tryz.func7, Tryz.ntmps7
  go_wp2_with (first | (refine r_box (dst := some 2) 23 _ (pv (s) (n) (z)) rfl rfl ?_; intro w2 B2 N2; have g2 := N2.gr; have b2 : Blk w2 B2 (pv (s) (n) (z)) 23 := N2.blk; have l2 := N2.lo; have t2 := N2.hi; have z2 := g2.size; have gg := gg.trans g2; clear N2; obtain ⟨b2_0, b2_1, b2_2⟩ := pcells b2) | (refine r_box (dst := some 3) 23 _ (pv (s) (n) (z)) rfl rfl ?_; intro w3 B3 N3; have g3 := N3.gr; have b3 : Blk w3 B3 (pv (s) (n) (z)) 23 := N3.blk; have l3 := N3.lo; have t3 := N3.hi; have z3 := g3.size; have b2 := g3.blk b2; obtain ⟨b2_0, b2_1, b2_2⟩ := pcells b2; have gg := gg.trans g3; clear N3; obtain ⟨b3_0, b3_1, b3_2⟩ := pcells b3))
  go_ret
  exact ⟨rfl, gg⟩
set_option maxHeartbeats 1000000 in
theorem lawMakePuzzle (x y z : Int) (w : World) (hm : ML w) : Calls Tryz.prog 3 #[.int .i64 x, .int .i64 y, .int .i64 z] w (Ret (.bool true) w) := by
  have gg := Gr.refl w
  obtain ⟨s, n, k, b, hv⟩ := mkR_tup x y z
  have HS := hidI (fun w => show Calls Tryz.prog 5 #[.int .i64 x, .int .i64 y, .int .i64 z] w (Ret (.tuple #[.agg (pv s n k), .bool b]) w) from hv ▸ sMakePuzzle x y z w)
  have HI := hidI (fun w (hm : ML w) => show Calls Tryz.prog 6 #[.int .i64 x, .int .i64 y, .int .i64 z] w (Ret (.tuple #[.agg (pv s n k), .bool b]) w) from hv ▸ iMakePuzzle x y z w hm)
  clear hv
  go_enter Tryz.func3, Tryz.ntmps3
  go_wp2_with (first | (go_at_call 5; refine (HS.out _).mono ?_; rintro e w1 ⟨rfl, g1⟩; have z1 := g1.size; have gg := gg.trans g1) | (refine r_alloc (dst := some 7) 23 _ Tryz.ipzero rfl ?_; intro w7 B7 N7; have g7 := N7.gr; have b7 : Blk w7 B7 (pv ByteArray.empty ByteArray.empty 0) 23 := N7.blk; have l7 := N7.lo; have t7 := N7.hi; have z7 := g7.size; have gg := gg.trans g7; clear N7; obtain ⟨b7_0, b7_1, b7_2⟩ := pcells b7) | (refine r_store_row 23 23 _ _ _ rfl (pv (s) (n) (k)) _ rfl b7 Tryz.ipsize rfl (pv_one _ _ _) rfl ?_; intro w8 u8 b7'; have z8 := u8.size; have gg := u8.gr gg (by omega); clear b7; have b7 := b7'; clear b7'; obtain ⟨b7_0, b7_1, b7_2⟩ := pcells b7) | (go_at_call 6; refine (HI.out _ (gg.ml hm)).mono ?_; rintro e w2 ⟨rfl, g2⟩; have z2 := g2.size; have b7 := g2.blk b7; have gg := gg.trans g2) | (refine r_alloc (dst := some 9) 23 _ Tryz.ipzero rfl ?_; intro w9 B9 N9; have g9 := N9.gr; have b9 : Blk w9 B9 (pv ByteArray.empty ByteArray.empty 0) 23 := N9.blk; have l9 := N9.lo; have t9 := N9.hi; have z9 := g9.size; have b7 := g9.blk b7; have gg := gg.trans g9; clear N9; obtain ⟨b9_0, b9_1, b9_2⟩ := pcells b9) | (refine r_store_row 23 23 _ _ _ rfl (pv (s) (n) (k)) _ rfl b9 Tryz.ipsize rfl (pv_one _ _ _) rfl ?_; intro w10 u10 b9'; have z10 := u10.size; have gg := u10.gr gg (by omega); have b7 := u10.blk b7 (by omega); clear b9; have b9 := b9'; clear b9'; obtain ⟨b9_0, b9_1, b9_2⟩ := pcells b9) | (refine r_load_row 23 _ _ rfl _ _ _ b9 Tryz.underlying23 rfl Tryz.ipinfo rfl ?_) | (refine r_load_row 23 _ _ rfl _ _ _ b7 Tryz.underlying23 rfl Tryz.ipinfo rfl ?_) | (go_at_call 7; refine (eqPuzzle_sameM s n k _).mono ?_; rintro e w11 ⟨rfl, g11⟩; have z11 := g11.size; have gg := gg.trans g11))
  go_ret
  exact ⟨rfl, gg⟩
end Go.Proofs.YtamdmhclhjkogaaGreatDoor
