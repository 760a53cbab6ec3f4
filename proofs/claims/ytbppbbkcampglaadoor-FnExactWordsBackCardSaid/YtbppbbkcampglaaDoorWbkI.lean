/-
  All words of at most n directions: the program's queue.
-/
import Derived.Test.YtbppbbkcampglaaDoorWbkP
import Derived.Test.YtbppbbkcampglaaDoorPeriI
import Derived.Test.YtbppbbkcampglaaDoorMachI
import Derived.Test.YtbppbbkcampglaaDoorShelf
namespace Go.Proofs.YtbppbbkcampglaaDoor
open Go.RowKit
section
variable {P : Program} {w : World} {a : Act} {dst : Option Tmp} {ty : TypeId} {pos : String} {aft : Array Edge} {gd : Option (Nat × Bool)}
theorem e_convW {src dt : TypeId} (x : Operand) (v u : Value) (hx : a.eval x = v) (hr : (convert src dt v).run P w = .ok u w) :
    (execOp a.eval ⟨dst, .convert src dt x, ty, pos, aft, gd⟩).run P w = .ok (.value u) w := by
  unfold execOp
  simp only [hx, Sem.run_bind, hr, Result.andThen_ok, Sem.run_pure]
theorem e_addW {T yt : TypeId} (x y : Operand) (s t u : ByteArray) (hx : a.eval x = .string s) (hy : a.eval y = .string t) (hr : (Op.stringOp .add s t).run P w = .ok (.string u) w) :
    (execOp a.eval ⟨dst, .binOp .add T x y yt, ty, pos, aft, gd⟩).run P w = .ok (.value (.string u)) w := by
  unfold execOp
  simp only [hx, hy, eqGuard_add, Sem.run_bind, Sem.run_pure, Result.andThen_ok]
  show ((Op.stringOp .add s t).run P w).andThen _ = _
  rw [hr]
  rfl
end
theorem add_one {P : Program} (w : World) (u : List UInt8) (b : UInt8) (h : u.length ≤ 1000) : (Op.stringOp .add (⟨u.toArray⟩ : ByteArray) ⟨#[b]⟩ : Sem Value).run P w = .ok (.string ⟨(u ++ [b]).toArray⟩) w := by
  have := run_string_add_sum (P := P) w (⟨u.toArray⟩ : ByteArray) ⟨#[b]⟩ (by show u.toArray.size + 1 ≤ _; simp; omega)
  rw [this]
  have e : (⟨u.toArray⟩ : ByteArray) ++ ⟨#[b]⟩ = ⟨(u ++ [b]).toArray⟩ := by
    apply ByteArray.ext
    rw [ByteArray.data_append]
    simp
  rw [e]
theorem Tryd.bstrW (s : ByteArray) (w : World) : (Instr.buildSlice 25 1 #[(0, .string s)]).run Tryd.prog w = .ok (.slice (some ⟨w.heap.size, 0, none⟩) 1 1) (w.alloc (.cells #[.string s] 9)) := by kernel_rfl
theorem Tryd.strIW : ElemInfo Tryd.prog 25 9 (.string ⟨#[]⟩) 1 16 := ⟨Tryd.underlying25, by kernel_rfl, rfl, by decide⟩
theorem Tryd.convD (d : Nat) (hd : d < 4) (w : World) : (convert 5 9 (.int .u8 (dB d).toNat)).run Tryd.prog w = .ok (.string ⟨#[dB d]⟩) w := by
  rcases dB_cases hd with ⟨rfl, e⟩ | ⟨rfl, e⟩ | ⟨rfl, e⟩ | ⟨rfl, e⟩ <;> rw [e]
  · show (convert 5 9 (.int .u8 117)).run Tryd.prog w = .ok (.string ⟨#[117]⟩) w
    kernel_rfl
  · show (convert 5 9 (.int .u8 114)).run Tryd.prog w = .ok (.string ⟨#[114]⟩) w
    kernel_rfl
  · show (convert 5 9 (.int .u8 100)).run Tryd.prog w = .ok (.string ⟨#[100]⟩) w
    kernel_rfl
  · show (convert 5 9 (.int .u8 108)).run Tryd.prog w = .ok (.string ⟨#[108]⟩) w
    kernel_rfl
set_option maxHeartbeats 800000 in
set_option maxRecDepth 100000 in
theorem wordsTo_any (n : Nat) (w : World) (hn : n ≤ 4) : Calls Tryd.prog 30 #[.int .i64 n] w fun e w' => Gr w w' ∧ ∃ v, e = .returned v ∧ w'.ownsRow w.heap.size 9 1 v (allW n).length (strV (allW n)) := by
  have gg := Gr.refl w
  have HQ0 := hidI (QI.start hn)
  have HSV := hidI (fun (w w' : World) (v : Value) (h : w'.ownsRow w.heap.size 9 1 v 1 [.string ⟨#[]⟩]) => show w'.ownsRow w.heap.size 9 1 v [([] : List UInt8)].length (strV [[]]) from h)
  go_enter Tryd.func30, Tryd.ntmps30
  go_wp2_with (refine r_slice1 25 9 (.const (.string ⟨#[]⟩)) (.string ⟨#[]⟩) rfl (Tryd.bstrW _ _) rfl ?_; intro w1 B1 N1; have g1 := N1.gr; have own1 := HSV.out w w1 _ (own_made (m := 1) (base := w.heap.size) (l := [.string ⟨#[]⟩]) N1 (Nat.le_refl _) rfl); have gg := gg.trans g1; clear N1)
  go_loopw [3, 4] (fun wv fv wr => ∃ (f : Nat) (Q : List (List UInt8)), fv = .int .i64 f ∧ Hid (QI n f Q) ∧ wr.ownsRow w.heap.size 9 1 wv Q.length (strV Q) ∧ Gr w wr) (fun _ fv _ => 200 - (intOf fv).toNat)
  case atStart => exact ⟨0, [[]], rfl, HQ0, own1, gg⟩
  case round =>
    clear own1 gg
    obtain ⟨f, Q, rfl, HQ, own, gg⟩ := hrel
    have hlt := HQ.out.lt
    have h161 := HQ.out.len hn
    have hw4 := HQ.out.word hn hlt
    obtain ⟨G, cap, rfl, -, -⟩ := own_shape own (by omega)
    have hcell := (own.cellAt f (by omega)).trans (strV_get Q f hlt)
    have HTS := hidI (fun M => ts_app Q M hlt)
    obtain ⟨u, hu⟩ : ∃ u, u = ts Q f := ⟨_, rfl⟩
    have HU := hidI hu
    rw [← hu] at hcell hw4
    have hsz : (⟨u.toArray⟩ : ByteArray).size = u.length := by show u.toArray.size = _; simp
    have zr0 := gg.size
    by_cases hl : u.length < n
    · have hdec : ((⟨u.toArray⟩ : ByteArray).size : Int) < (n : Int) := by omega
      clear hu
      unfold tx at hcell
      obtain ⟨s, hs⟩ : ∃ s : ByteArray, s = ⟨u.toArray⟩ := ⟨_, rfl⟩
      rw [← hs] at hcell hdec hsz
      have HS := hidI hs
      have hs40 : s.size ≤ 4 := by omega
      clear hs hsz
      go_wp2_with (first | (refine r_idx 25 _ _ (.slice (some ⟨G, 0, none⟩) Q.length cap) (.int .i64 f) _ rfl rfl (Tryd.strix G Q.length cap f hlt _) rfl ?_) | (refine r_ldc 9 _ ⟨G, f, none⟩ (.string s) rfl (Tryd.isAgg9 _) hcell rfl ?_) | (refine r_slice4 38 5 _ _ _ _ (Tryd.bs4 _) rfl ?_) | (refine r_mark 38 5 (.tmp 17) cs4 4 4 _ rfl rfl Tryd.underlying38 Tryd.underlying5 rfl ?_; intro w5 B4 g5 l5 t5 b4))
      have own := g5.row own
      have gg := gg.trans g5
      have lo5 : w.heap.size ≤ B4 := by omega
      have own0 : w5.ownsRow w.heap.size 9 1 (.slice (some ⟨G, 0, none⟩) Q.length cap) Q.length (strV (Q ++ extTo u 0)) := by rw [extTo_zero, List.append_nil]; exact own
      have HL0 := hidI (show Q.length = (Q ++ extTo u 0).length from by rw [extTo_zero, List.append_nil])
      have HNX := hidI (HU.out ▸ HQ.out.next hn (by rw [← HU.out]; exact hl))
      clear hcell
      go_loopw [3, 20] (fun wv iv wi => ∃ j m : Nat, j ≤ 4 ∧ iv = .int .i64 j ∧ Hid (m = (Q ++ extTo u j).length) ∧ wi.ownsRow w.heap.size 9 1 wv m (strV (Q ++ extTo u j)) ∧ wi.heap[B4]? = some (.cells cs4 5 (4, 5)) ∧ Gr w wi) (fun _ iv _ => 4 - (intOf iv).toNat)
      case atStart => exact ⟨0, Q.length, Nat.zero_le _, rfl, HL0, own0, b4, gg⟩
      case round =>
        clear own own0 b4 gg g5 l5 t5
        obtain ⟨j, m, hj, rfl, HL, own, b4, gg⟩ := hrel
        by_cases hlt4 : j < 4
        · have hel := extTo_le u j
          have hll : m = Q.length + (extTo u j).length := HL.out.trans List.length_append
          obtain ⟨G2, cap2, rfl, -, -⟩ := own_shape own (by omega)
          have hfl : f < (Q ++ extTo u j).length := by rw [← HL.out]; omega
          have hcell := (own.cellAt f (by omega)).trans (strV_get (Q ++ extTo u j) f hfl)
          rw [HTS.out, ← HU.out] at hcell
          unfold tx at hcell
          rw [← HS.out] at hcell
          have hc4 := blk4 b4 hlt4
          have hix := Tryd.ixb B4 4 4 j hlt4
          have hlB := Gr.lt b4
          have zr := gg.size
          have HCV := hidI (Tryd.convD j hlt4)
          have HSF := hidI (show Lib.hasSuffix s.data.toList [dB j] = (u.getLast? == some (dB j)) from by rw [HS.out]; exact suffix_one u (dB j))
          have HAD := hidI (fun (w : World) => show (Op.stringOp .add s ⟨#[dB j]⟩ : Sem Value).run Tryd.prog w = .ok (.string ⟨(u ++ [dB j]).toArray⟩) w from HS.out ▸ add_one w u (dB j) (by omega))
          have HYE := hidI (fun h => extTo_yes (w := u) (j := j) h)
          have HNO := hidI (fun h => extTo_no (w := u) (j := j) h)
          obtain ⟨E, hE⟩ : ∃ E, E = extTo u (j + 1) := ⟨_, rfl⟩
          rw [← hE] at HYE HNO
          have HE := hidI hE
          obtain ⟨M, hM⟩ : ∃ M, M = Q ++ extTo u j := ⟨_, rfl⟩
          have HM := hidI hM
          rw [← hM] at own
          have HLM := hidI (show m = M.length from by rw [hM]; exact HL.out)
          have hfM : f < m := by omega
          have hM9 : m ≤ 170 := by omega
          clear hE hM hll hel HL hfl
          generalize dB j = b at *
          have HHS := hidI (fun (w : World) => show Calls Tryd.prog 56 #[.string s, .string ⟨#[b]⟩] w (Ret (.bool (u.getLast? == some b)) w) from (Tryd.strings_HasSuffix s ⟨#[b]⟩ w (by omega)).mono fun e w' ⟨h1, h2⟩ => ⟨by rw [h1]; exact ret_bool HSF.out, by rw [h2]; exact Gr.refl w⟩)
          cases hb : (u.getLast? == some b)
          · rw [hb] at HHS
            have HEE := hidI (HYE.out hb)
            clear hb HYE HNO HSF
            have HMX := hidI (show strV M ++ [.string ⟨(u ++ [b]).toArray⟩] = strV (Q ++ E) from by
              rw [HEE.out, ← List.append_assoc, ← HM.out, ← strV_append]; rfl)
            have HLX := hidI (show m + 1 = (Q ++ E).length from by rw [HEE.out, ← List.append_assoc, ← HM.out, List.length_append, ← HLM.out]; rfl)
            clear HEE
            go_wp2_with (first | (refine r_idx 25 _ _ (.slice (some ⟨G2, 0, none⟩) m cap2) (.int .i64 f) _ rfl rfl (Tryd.strix G2 m cap2 f hfM _) rfl ?_) | (refine r_ldc 9 _ ⟨G2, f, none⟩ (.string s) rfl (Tryd.isAgg9 _) hcell rfl ?_) | (refine r_val (.string ⟨#[b]⟩) (e_convW _ (.int .u8 b.toNat) _ rfl (HCV.out _)) rfl ?_) | (go_at_call 56; refine (HHS.out _).mono ?_; rintro e w6 ⟨rfl, g6⟩; have own := g6.row own; have b4 := g6.keep b4; have gg := gg.trans g6; have hcell := g6.cell hcell; have z6 := g6.size) | (refine r_val (.string ⟨(u ++ [b]).toArray⟩) (e_addW _ _ s ⟨#[b]⟩ _ rfl rfl (HAD.out _)) rfl ?_) | (refine r_slice1 25 9 (.tmp 39) (.string ⟨(u ++ [b]).toArray⟩) rfl (Tryd.bstrW _ _) rfl ?_; intro w7 B7 N7; have g7 := N7.gr; have own := g7.row own; have b4 := g7.keep b4; have gg := gg.trans g7; have z7 := g7.size) | (have hne := own_neF own b4 (by decide); have hgr := own_gr own (Nat.le_refl w.heap.size); refine r_append (.tmp 32) (.tmp 40) 25 9 _ 1 16 w.heap.size Tryd.strIW (.slice (some ⟨G2, 0, none⟩) m cap2) m (strV M) rfl own ⟨B7, 0, none⟩ 1 1 [.string ⟨(u ++ [b]).toArray⟩] rfl rfl N7.cell1 (by intro u hu; simp at hu; subst hu; rfl) (by omega) (by decide) (by omega) rfl ?_; intro v8 w8 own8 g8; have b4 := g8.keep b4 hne; have gg := g8.gr gg hgr; rw [HMX.out] at own8; obtain ⟨p8, k8, rfl⟩ := own_sliceN own8))
            go_roundw
            case rel => exact ⟨j + 1, m + 1, by omega, by go_num, HE.out ▸ HLX, HE.out ▸ own8, b4, gg⟩
            case measure => simp [intOf]; omega
          · rw [hb] at HHS
            have HEE := hidI (HNO.out hb)
            clear hb HYE HNO HSF
            go_wp2_with (first | (refine r_idx 25 _ _ (.slice (some ⟨G2, 0, none⟩) m cap2) (.int .i64 f) _ rfl rfl (Tryd.strix G2 m cap2 f hfM _) rfl ?_) | (refine r_ldc 9 _ ⟨G2, f, none⟩ (.string s) rfl (Tryd.isAgg9 _) hcell rfl ?_) | (refine r_val (.string ⟨#[b]⟩) (e_convW _ (.int .u8 b.toNat) _ rfl (HCV.out _)) rfl ?_) | (go_at_call 56; refine (HHS.out _).mono ?_; rintro e w6 ⟨rfl, g6⟩; have own := g6.row own; have b4 := g6.keep b4; have gg := gg.trans g6; have hcell := g6.cell hcell; have z6 := g6.size))
            go_roundw
            case rel => exact ⟨j + 1, m, by omega, by go_num, hidI (by rw [← HE.out, HEE.out, ← HM.out]; exact HLM.out), (by rw [← HE.out, HEE.out, ← HM.out]; exact own), b4, gg⟩
            case measure => simp [intOf]; omega
        · obtain rfl : j = 4 := by omega
          have hf9 : f < 200 := by omega
          have own := (show _ from HL.out ▸ own)
          clear hlt4
          go_wp2
          go_roundw
          case rel => exact ⟨f + 1, Q ++ extTo u 4, by go_num, HNX, own, gg⟩
          case measure => simp [intOf]; omega
    · have hdec : ¬ ((⟨u.toArray⟩ : ByteArray).size : Int) < (n : Int) := by omega
      have HQD := hidI (HQ.out.done hn (by rw [← hu]; exact hl))
      clear hu
      unfold tx at hcell
      obtain ⟨s, hs⟩ : ∃ s : ByteArray, s = ⟨u.toArray⟩ := ⟨_, rfl⟩
      rw [← hs] at hcell hdec hsz
      have HS := hidI hs
      have hs40 : s.size ≤ 4 := by omega
      clear hs hsz
      clear hl
      go_wp2_with (first | (refine r_idx 25 _ _ (.slice (some ⟨G, 0, none⟩) Q.length cap) (.int .i64 f) _ rfl rfl (Tryd.strix G Q.length cap f hlt _) rfl ?_) | (refine r_ldc 9 _ ⟨G, f, none⟩ (.string s) rfl (Tryd.isAgg9 _) hcell rfl ?_))
      go_ret
      exact ⟨gg, _, rfl, HQD.out ▸ own⟩
end Go.Proofs.YtbppbbkcampglaaDoor
