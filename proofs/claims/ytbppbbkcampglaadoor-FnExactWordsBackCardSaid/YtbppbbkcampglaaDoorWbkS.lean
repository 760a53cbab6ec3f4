/-
  All words of a length, and the words that come back, in the model; and the law.
-/
import Derived.Test.YtbppbbkcampglaaDoorWbkD
import Derived.Test.YtbppbbkcampglaaDoorMachS
namespace Go.Proofs.YtbppbbkcampglaaDoor
open Go.RowKit
set_option maxRecDepth 100000 in
theorem lev_len {n : Nat} (hn : n ≤ 4) : (lev n).length ≤ 108 := by
  have h : ∀ m ∈ [0, 1, 2, 3, 4], (lev m).length ≤ 108 := by decide +kernel
  exact h n (by simp; omega)
set_option maxRecDepth 100000 in
theorem lev_word {n : Nat} (hn : n ≤ 4) : ∀ w ∈ lev n, w.length ≤ 4 ∧ w.all dirB = true := by
  have h : ∀ m ∈ [0, 1, 2, 3, 4], ∀ w ∈ lev m, w.length ≤ 4 ∧ w.all dirB = true := by decide +kernel
  exact h n (by simp; omega)
theorem lev_b {n : Nat} (hn : n ≤ 4) {w : List UInt8} (hw : w ∈ lev n) : wordB ⟨w.toArray⟩ = true := by
  obtain ⟨h1, h2⟩ := lev_word hn w hw
  unfold wordB
  rw [Bool.and_eq_true, decide_eq_true_eq]
  exact ⟨by show w.toArray.size ≤ 40; rw [List.size_toArray]; omega, by simpa using h2⟩
/-- The longer words of the first i. -/
def nxt (L : List (List UInt8)) (i : Nat) : List (List UInt8) := (L.take i).flatMap fun w => extTo w 4
theorem nxt_succ {L : List (List UInt8)} {i : Nat} (h : i < L.length) : nxt L (i + 1) = nxt L i ++ extTo (ts L i) 4 := by
  unfold nxt
  rw [take_ts h, List.flatMap_append]
  simp
theorem nxt_all (L : List (List UInt8)) : nxt L L.length = L.flatMap fun w => extTo w 4 := by unfold nxt; rw [List.take_length]
theorem nxt_len (L : List (List UInt8)) (i : Nat) (hi : i ≤ L.length) : (nxt L i).length ≤ 4 * i := by
  induction i with
  | zero => exact Nat.le_refl _
  | succ i ih =>
    have := ih (by omega)
    have := extTo_le (ts L i) 4
    rw [nxt_succ (by omega), List.length_append]
    omega
theorem lev_succ (k : Nat) : lev (k + 1) = nxt (lev k) (lev k).length := (nxt_all _).symm
theorem own_apartW {w w2 : World} {b1 b2 : Nat} {e1 e2 : TypeId} {s1 s2 : Nat} {v1 v2 : Value} {n1 n2 : Nat} {x1 x2 : List Value} (h1 : w.ownsRow b1 e1 s1 v1 n1 x1) (hb : w.heap.size ≤ b2) (h2 : w2.ownsRow b2 e2 s2 v2 n2 x2) : v1.ownBlock = none ∨ v1.ownBlock ≠ v2.ownBlock := by
  cases hv : v2.ownBlock with
  | none =>
    cases h : v1.ownBlock with
    | none => exact .inl rfl
    | some g => exact .inr (by simp)
  | some g => exact .inr (own_new h1 (Nat.le_trans hb (h2.lt g hv).1))
theorem Tryd.ssubW (k : Nat) (hk : k < 4) (w : World) : (Instr.sliceAt 9 (.string ⟨#[117, 114, 100, 108]⟩) (some (.int .i64 k)) (some (.int .i64 ((k : Int) + 1))) none).run Tryd.prog w = .ok (.string ⟨#[dB k]⟩) w := by
  rcases dB_cases hk with ⟨rfl, e⟩ | ⟨rfl, e⟩ | ⟨rfl, e⟩ | ⟨rfl, e⟩ <;> (rw [e]; kernel_rfl)
theorem Tryd.slastW (s : ByteArray) (h : 0 < s.size) (w : World) : (Instr.sliceAt 9 (.string s) (some (.int .i64 ((s.size : Int) - 1))) none none).run Tryd.prog w = .ok (.string ⟨#[s[s.size - 1]'(by omega)]⟩) w := by
  rw [run_sliceAt_string (P := Tryd.prog) w 9 _ _ _ _ Tryd.underlying9, run_slice_string_l (P := Tryd.prog) w 9 s Tryd.underlying9 .i64 ((s.size : Int) - 1) (by omega) (by omega)]
  have e1 : ((s.size : Int) - 1).toNat = s.size - 1 := by omega
  have := byte_sub s (s.size - 1) (by omega)
  rw [show s.size - 1 + 1 = s.size by omega] at this
  rw [e1, this]
theorem last_of {u : List UInt8} (h : u ≠ []) : ∃ c, u.getLast? = some c ∧ ∀ (s : ByteArray), s = ⟨u.toArray⟩ → ∃ h' : 0 < s.size, s[s.size - 1]'(by omega) = c := by
  refine ⟨u.getLast h, List.getLast?_eq_some_getLast h, ?_⟩
  rintro s rfl
  have hsz : (⟨u.toArray⟩ : ByteArray).size = u.length := by show u.toArray.size = _; simp
  refine ⟨by rw [hsz]; exact List.length_pos_iff.2 h, ?_⟩
  rw [List.getLast_eq_getElem, ByteArray.getElem_eq_getElem_data]
  simp [hsz]
set_option maxHeartbeats 2400000 in
set_option maxRecDepth 100000 in
theorem mcWords_any (n : Nat) (w : World) (hn : n ≤ 4) : Calls Tryd.prog 23 #[.int .i64 n] w fun e w' => Gr w w' ∧ ∃ v, e = .returned v ∧ w'.ownsRow w.heap.size 9 1 v (lev n).length (strV (lev n)) := by
  have gg := Gr.refl w
  have HSV := hidI (fun (w w' : World) (v : Value) (h : w'.ownsRow w.heap.size 9 1 v 1 [.string ⟨#[]⟩]) => show w'.ownsRow w.heap.size 9 1 v (lev 0).length (strV (lev 0)) from h)
  go_enter Tryd.func23, Tryd.ntmps23
  go_wp2_with (refine r_slice1 25 9 (.const (.string ⟨#[]⟩)) (.string ⟨#[]⟩) rfl (Tryd.bstrW _ _) rfl ?_; intro w1 B1 N1; have g1 := N1.gr; have own1 := HSV.out w w1 _ (own_made (m := 1) (base := w.heap.size) (l := [.string ⟨#[]⟩]) N1 (Nat.le_refl _) rfl); have gg := gg.trans g1; clear N1)
  go_loopw [0, 3] (fun nv wv wr => ∃ k m : Nat, k ≤ n ∧ nv = .int .i64 ((n - k : Nat) : Int) ∧ Hid (m = (lev k).length) ∧ wr.ownsRow w.heap.size 9 1 wv m (strV (lev k)) ∧ Gr w wr) (fun nv _ _ => (intOf nv).toNat)
  case atStart => exact ⟨0, 1, Nat.zero_le _, rfl, hidI rfl, own1, gg⟩
  case round =>
    clear own1 gg
    obtain ⟨k, m, hk, rfl, HM, ownL, gg⟩ := hrel
    have hm108 : m ≤ 108 := by rw [HM.out]; exact lev_len (by omega)
    have zr := gg.size
    by_cases hlt : k < n
    · obtain ⟨L, hL⟩ : ∃ L, L = lev k := ⟨_, rfl⟩
      have HL := hidI hL
      have HLW := hidI (fun (x : List UInt8) (hx : x ∈ lev k) => (lev_word (by omega) x hx).1)
      rw [← hL] at ownL HM HLW
      clear hL
      obtain ⟨pL, cL, rfl⟩ := own_sliceN ownL
      have hd1 : decide (0 < n - k) = true := by rw [decide_eq_true_eq]; omega
      obtain ⟨H0, hH0⟩ : ∃ H0, H0 = wr.heap.size := ⟨_, rfl⟩
      have HAP := hidI (fun (w2 : World) (v2 : Value) (n2 : Nat) (x2 : List Value) (h : w2.ownsRow H0 9 1 v2 n2 x2) => own_apartW ownL (Nat.le_of_eq hH0.symm) h)
      have own0 : ∀ wx : World, wx.ownsRow H0 9 1 (.slice none 0 0) 0 (strV (nxt L 0)) := fun wx => World.ownsRow_nil _ _ _ _
      have hz0 : w.heap.size ≤ H0 := by omega
      have hz1 : H0 ≤ wr.heap.size := by omega
      clear hH0
      have HL0 := hidI (show 0 = (nxt L 0).length from rfl)
      go_wp2
      go_loopw [4, 16] (fun nv iv wi => ∃ i q : Nat, i ≤ m ∧ iv = .int .i64 i ∧ Hid (q = (nxt L i).length) ∧ wi.ownsRow H0 9 1 nv q (strV (nxt L i)) ∧ wi.ownsRow w.heap.size 9 1 (.slice pL m cL) m (strV L) ∧ Gr w wi ∧ H0 ≤ wi.heap.size) (fun _ iv _ => m - (intOf iv).toNat)
      case atStart => exact ⟨0, 0, Nat.zero_le _, rfl, HL0, own0 _, ownL, gg, hz1⟩
      case round =>
        clear own0 ownL gg HL0 hz1
        obtain ⟨i, q, hi, rfl, HQ, ownN, ownL, gg, hz1⟩ := hrel
        by_cases hltm : i < m
        · have hi' : i < L.length := by rw [← HM.out]; exact hltm
          obtain ⟨GL, cL', he, -, -⟩ := own_shape ownL (by omega)
          obtain ⟨rfl, rfl⟩ : pL = some ⟨GL, 0, none⟩ ∧ cL = cL' := by
            simp only [Value.slice.injEq] at he
            exact ⟨he.1, he.2.2⟩
          have hcell := (ownL.cellAt i (by omega)).trans (strV_get L i hi')
          have hu4 := HLW.out (ts L i) (mem_ts hi')
          have hql := nxt_len L i (Nat.le_of_lt hi')
          rw [← HQ.out] at hql
          have HNS := hidI (nxt_succ hi')
          obtain ⟨u, hu⟩ : ∃ u, u = ts L i := ⟨_, rfl⟩
          rw [← hu] at hcell hu4 HNS
          unfold tx at hcell
          obtain ⟨s, hs⟩ : ∃ s : ByteArray, s = ⟨u.toArray⟩ := ⟨_, rfl⟩
          have hsz : s.size = u.length := by rw [hs]; show u.toArray.size = _; simp
          have hs4 : s.size ≤ 4 := by omega
          rw [← hs] at hcell
          have HS := hidI hs
          have own1 : ∀ wx : World, ∀ v, wx.ownsRow H0 9 1 v q (strV (nxt L i)) → wx.ownsRow H0 9 1 v q (strV (nxt L i ++ extTo u 0)) := fun wx v h => by rw [extTo_zero, List.append_nil]; exact h
          have HL1 := hidI (show q = (nxt L i ++ extTo u 0).length from by rw [extTo_zero, List.append_nil]; exact HQ.out)
          have HSZ := hidI hsz
          clear he hu hs hi' hsz
          go_wp2_with (first | (refine r_idx 25 _ _ (.slice (some ⟨GL, 0, none⟩) m cL) (.int .i64 i) _ rfl rfl (Tryd.strix GL m cL i hltm _) rfl ?_) | (refine r_ldc 9 _ ⟨GL, i, none⟩ (.string s) rfl (Tryd.isAgg9 _) hcell rfl ?_))
          go_loopw [4, 7] (fun nv dv wj => ∃ d q' : Nat, d ≤ 4 ∧ dv = .int .i64 d ∧ Hid (q' = (nxt L i ++ extTo u d).length) ∧ wj.ownsRow H0 9 1 nv q' (strV (nxt L i ++ extTo u d)) ∧ wj.ownsRow w.heap.size 9 1 (.slice (some ⟨GL, 0, none⟩) m cL) m (strV L) ∧ Gr w wj ∧ H0 ≤ wj.heap.size) (fun _ dv _ => 4 - (intOf dv).toNat)
          case atStart => exact ⟨0, q, Nat.zero_le _, rfl, HL1, own1 _ _ ownN, ownL, gg, hz1⟩
          case round =>
            clear own1 ownN ownL gg hz1 hcell HL1
            obtain ⟨d, q', hd, rfl, HQ2, ownM, ownL, gg, hz1⟩ := hrel
            obtain ⟨pM, cM, rfl⟩ := own_sliceN ownM
            by_cases hlt4 : d < 4
            · have hq' : q' ≤ q + 4 := by
                have := extTo_le u d
                have := HQ2.out
                rw [List.length_append, ← HQ.out] at this
                omega
              have hss := Tryd.ssubW d hlt4
              have HAD := hidI (fun (w : World) => show (Op.stringOp .add s ⟨#[dB d]⟩ : Sem Value).run Tryd.prog w = .ok (.string ⟨(u ++ [dB d]).toArray⟩) w from HS.out ▸ add_one w u (dB d) (by have := HSZ.out; omega))
              have HYE := hidI (fun h => extTo_yes (w := u) (j := d) h)
              have HNO := hidI (fun h => extTo_no (w := u) (j := d) h)
              obtain ⟨E, hE⟩ : ∃ E, E = extTo u (d + 1) := ⟨_, rfl⟩
              rw [← hE] at HYE HNO
              have HE := hidI hE
              obtain ⟨M, hM⟩ : ∃ M, M = nxt L i ++ extTo u d := ⟨_, rfl⟩
              have HM2 := hidI hM
              rw [← hM] at ownM HQ2
              clear hE hM
              generalize dB d = b at *
              rcases Decidable.em (u = []) with hu0 | hu0
              · have e0 : ((s.size : Int) == 0) = true := by
                  have := HSZ.out
                  rw [hu0] at this
                  rw [beq_iff_eq]
                  exact Int.ofNat_inj.2 this
                have HEE := hidI (HYE.out (by rw [hu0]; rfl))
                have HMX := hidI (show strV M ++ [.string ⟨(u ++ [b]).toArray⟩] = strV (nxt L i ++ E) from by
                  rw [HEE.out, ← List.append_assoc, ← HM2.out, ← strV_append]; rfl)
                have HLX := hidI (show q' + 1 = (nxt L i ++ E).length from by rw [HEE.out, ← List.append_assoc, ← HM2.out, List.length_append, ← HQ2.out]; rfl)
                clear hu0 HEE HYE HNO
                go_wp2_with (first | (go_at_call 46; refine (tiDirs_any _).mono ?_; rintro e wSame ⟨rfl, rfl⟩) | (refine r_val (.string ⟨(u ++ [b]).toArray⟩) (e_addW _ _ s ⟨#[b]⟩ _ rfl rfl (HAD.out _)) rfl ?_) | (refine r_slice1 25 9 (.tmp 44) (.string ⟨(u ++ [b]).toArray⟩) rfl (Tryd.bstrW _ _) rfl ?_; intro w7 B7 N7; have g7 := N7.gr; have ownM := g7.row ownM; have ownL := g7.row ownL; have gg := gg.trans g7; have z7 := g7.size) | (have hap := HAP.out _ _ _ _ ownM; have hgr := own_gr ownM hz0; refine r_append (.tmp 41) (.tmp 45) 25 9 _ 1 16 H0 Tryd.strIW (.slice pM q' cM) q' (strV M) rfl ownM ⟨B7, 0, none⟩ 1 1 [.string ⟨(u ++ [b]).toArray⟩] rfl rfl N7.cell1 (by intro u hu; simp at hu; subst hu; rfl) (by omega) (by decide) (by omega) rfl ?_; intro v8 w8 own8 g8; have ownL := g8.row ownL hap; have gg := g8.gr gg hgr; have z8 := g8.size; rw [HMX.out] at own8))
                go_roundw
                case rel => exact ⟨d + 1, q' + 1, by omega, by go_num, HE.out ▸ HLX, HE.out ▸ own8, ownL, gg, by omega⟩
                case measure => simp [intOf]; omega
              · obtain ⟨c, hc, hcs⟩ := last_of hu0
                obtain ⟨hs0, hcs⟩ := hcs s HS.out
                have hla := Tryd.slastW s hs0
                rw [hcs] at hla
                have e0 : ((s.size : Int) == 0) = false := by rw [beq_eq_false_iff_ne]; omega
                by_cases hcb : c = b
                · have hdec : decide ([c] = [b]) = !false := by rw [hcb]; simp
                  have HEE := hidI (HNO.out (by rw [hc, hcb]; simp))
                  clear hcb hc hcs hu0 HYE HNO HAD
                  go_wp2_with (first | (go_at_call 46; refine (tiDirs_any _).mono ?_; rintro e wSame ⟨rfl, rfl⟩) | (refine r_val (.bool false) (e_neT _ _ [c] [b] false rfl rfl hdec) rfl ?_))
                  go_roundw
                  case rel => exact ⟨d + 1, q', by omega, by go_num, hidI (by rw [← HE.out, HEE.out, ← HM2.out]; exact HQ2.out), (by rw [← HE.out, HEE.out, ← HM2.out]; exact ownM), ownL, gg, hz1⟩
                  case measure => simp [intOf]; omega
                · have hdec : decide ([c] = [b]) = !true := by rw [decide_eq_false (fun e => hcb (by simpa using e))]; rfl
                  have HEE := hidI (HYE.out (by rw [hc, beq_eq_false_iff_ne]; exact fun e => hcb (Option.some.inj e)))
                  have HMX := hidI (show strV M ++ [.string ⟨(u ++ [b]).toArray⟩] = strV (nxt L i ++ E) from by
                    rw [HEE.out, ← List.append_assoc, ← HM2.out, ← strV_append]; rfl)
                  have HLX := hidI (show q' + 1 = (nxt L i ++ E).length from by rw [HEE.out, ← List.append_assoc, ← HM2.out, List.length_append, ← HQ2.out]; rfl)
                  clear hcb hc hcs hu0 HEE HYE HNO
                  go_wp2_with (first | (go_at_call 46; refine (tiDirs_any _).mono ?_; rintro e wSame ⟨rfl, rfl⟩) | (refine r_val (.bool true) (e_neT _ _ [c] [b] true rfl rfl hdec) rfl ?_) | (refine r_val (.string ⟨(u ++ [b]).toArray⟩) (e_addW _ _ s ⟨#[b]⟩ _ rfl rfl (HAD.out _)) rfl ?_) | (refine r_slice1 25 9 (.tmp 44) (.string ⟨(u ++ [b]).toArray⟩) rfl (Tryd.bstrW _ _) rfl ?_; intro w7 B7 N7; have g7 := N7.gr; have ownM := g7.row ownM; have ownL := g7.row ownL; have gg := gg.trans g7; have z7 := g7.size) | (have hap := HAP.out _ _ _ _ ownM; have hgr := own_gr ownM hz0; refine r_append (.tmp 41) (.tmp 45) 25 9 _ 1 16 H0 Tryd.strIW (.slice pM q' cM) q' (strV M) rfl ownM ⟨B7, 0, none⟩ 1 1 [.string ⟨(u ++ [b]).toArray⟩] rfl rfl N7.cell1 (by intro u hu; simp at hu; subst hu; rfl) (by omega) (by decide) (by omega) rfl ?_; intro v8 w8 own8 g8; have ownL := g8.row ownL hap; have gg := g8.gr gg hgr; have z8 := g8.size; rw [HMX.out] at own8))
                  go_roundw
                  case rel => exact ⟨d + 1, q' + 1, by omega, by go_num, HE.out ▸ HLX, HE.out ▸ own8, ownL, gg, by omega⟩
                  case measure => simp [intOf]; omega
            · obtain rfl : d = 4 := by omega
              clear hlt4
              go_wp2
              go_roundw
              case rel => exact ⟨i + 1, q', by omega, by go_num, hidI (by rw [HNS.out]; exact HQ2.out), (by rw [HNS.out]; exact ownM), ownL, gg, hz1⟩
              case measure => simp [intOf]; omega
        · obtain rfl : i = m := by omega
          have HLS := hidI (show lev (k + 1) = nxt L i from by rw [lev_succ, ← HL.out, ← HM.out])
          have e1 : ((n - k : Nat) : Int) - 1 = ((n - (k + 1) : Nat) : Int) := by omega
          clear hltm
          go_wp2
          go_roundw
          case rel => exact ⟨k + 1, q, by omega, by go_num, hidI (by rw [HLS.out]; exact HQ.out), own_up (by rw [HLS.out]; exact ownN) hz0, gg⟩
          case measure => simp [intOf]; omega
    · obtain rfl : k = n := by omega
      clear hlt
      have hd0 : ¬ (0 : Int) < ((k - k : Nat) : Int) := by omega
      go_wp2
      go_ret
      exact ⟨gg, _, rfl, HM.out ▸ ownL⟩
end Go.Proofs.YtbppbbkcampglaaDoor
