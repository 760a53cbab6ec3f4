/-
  Forms: free ways in the program, by closures, and the functions that tell, add and take cells.
-/
import Derived.Test.YtdebiobhmpoiiaaDoorFormI
import Derived.Test.YtdebiobhmpoiiaaDoorCallC
namespace Go.Proofs.YtdebiobhmpoiiaaDoor
open Go.RowKit
section
variable {P : Program} {w : World} {ops : Array Oper} {rest : List Oper} {a : Act} {Q : Exit → Act → World → Prop} {dst : Option Tmp} {ty : TypeId} {pos : String} {aft : Array Edge} {gd : Option (Nat × Bool)}
theorem e_neqS {T yt : TypeId} (x y : Operand) (s t : ByteArray) (hx : a.eval x = .string s) (hy : a.eval y = .string t) (b : Bool) (hb : (!decide (s = t)) = b) :
    (execOp a.eval ⟨dst, .binOp .neq T x y yt, ty, pos, aft, gd⟩).run P w = .ok (.value (.bool b)) w := by
  subst hb
  unfold execOp
  simp [hx, hy, eqGuard, binOp_string_neq, ← eql_bool]
theorem r_neqS {T yt : TypeId} (x y : Operand) (s t : ByteArray) (b : Bool) (hx : a.eval x = .string s) (hy : a.eval y = .string t) (hb : (!decide (s = t)) = b)
    (hgd : Region.wanted ⟨dst, .binOp .neq T x y yt, ty, pos, aft, gd⟩ (yielded ops a.tmps) = true) (h : wpList P ops Q rest (a.put dst (.bool b)) w) : wpList P ops Q (⟨dst, .binOp .neq T x y yt, ty, pos, aft, gd⟩ :: rest) a w :=
  r_val (.bool b) (e_neqS x y s t hx hy b hb) hgd h
end
theorem mkS_nil {l : List UInt8} : mkS l = ⟨#[]⟩ ↔ l = [] := by
  constructor
  · intro h
    have := congrArg ByteArray.size h
    rw [mkS_size] at this
    exact List.eq_nil_of_length_eq_zero this
  · rintro rfl; rfl
def wyM (W H d : Nat) (nv bv : Value) : Nat := match bv with | .bool true => md W H (opd d) (intOf nv).toNat + 1 | _ => 0
/-- The program's closure: what it has captured. -/
structure WayF (W H : Nat) (c : List UInt8) (d Bf Bg : Nat) (w : World) : Prop where
  f : ∃ f, Steps f W H c (opd d) ∧ Blk w Bf #[.func (.func f) #[] #[]] 179
  g : Blk w Bg (gv W H c) 72
theorem WayF.gr {W H : Nat} {c : List UInt8} {d Bf Bg : Nat} {w w' : World} (h : WayF W H c d Bf Bg w) (g : Gr w w') : WayF W H c d Bf Bg w' := by
  obtain ⟨⟨f, s, b⟩, bg⟩ := h
  exact ⟨⟨f, s, g.blk b⟩, g.blk bg⟩
theorem Tryd.fzero (w : World) : (zeroValue 179).run Tryd.prog w = .ok .nilFunc w := by kernel_rfl
theorem Tryd.fsize (w : World) : (sizeOf 179).run Tryd.prog w = .ok 1 w := by kernel_rfl
theorem Tryd.fagg (w : World) : (isAgg 179).run Tryd.prog w = .ok false w := by kernel_rfl
set_option maxHeartbeats 2000000 in
set_option maxRecDepth 100000 in
theorem wayIn_any (W H d : Nat) (c : List UInt8) (w : World) (hd : d < 4) (h36 : nn W H ≤ 36) : Calls Tryd.prog 120 #[.agg (gv W H c), .int .u8 (dB d).toNat] w fun e w' => ∃ v, e = .returned v ∧ Gr w w' ∧ ∃ Bf Bg, v = .func (.func 144) #[] #[.pointer (some ⟨Bf, 0, none⟩), .pointer (some ⟨Bg, 0, none⟩)] ∧ WayF W H c d Bf Bg w' := by
  have gg := Gr.refl w
  have HROT := hidI (dB_rot hd)
  have HDIR := hidI (dB_dir hd)
  have ho := opd_lt d
  go_enter Tryd.func120, Tryd.ntmps120
  go_wp2_with (first | (refine r_box 72 _ (gv W H c) rfl rfl ?_; intro w1 B1 N1; have g1 := N1.gr; have b1 : Blk w1 B1 (gv W H c) 72 := N1.blk; have l1 := N1.lo; have t1 := N1.hi; have z1 := g1.size; have gg := gg.trans g1; clear N1; obtain ⟨b1_0, b1_1, b1_2⟩ := gcells b1) | (go_at_call 143; refine (turnedDir_any (dB d) 2 _ HDIR.out (by decide)).mono ?_; rintro e wSame ⟨rfl, rfl⟩))
  rw [HROT.out]
  go_wp2_with fail
  refine (nextIn_any W H (opd d) c _ ho h36).mono ?_
  rintro e w2 ⟨⟨fb, rfl, SB⟩, rfl⟩
  have SBH := hidI SB
  clear SB
  go_wp2_with (first | (refine r_alloc 179 .nilFunc Tryd.fzero rfl ?_; intro w4 B4 N4; have g4 := N4.gr; have b4 : Blk w4 B4 #[.nilFunc] 179 := N4.blk; have l4 := N4.lo; have z4 := g4.size; have b1 := g4.blk b1; have t1 := b1.lt; have gg := gg.trans g4; clear N4) | (refine r_store_cell 179 179 (.tmp 5) (.tmp 8) B4 0 rfl (.func (.func fb) #[] #[]) rfl _ b4 (by decide) Tryd.fsize rfl rfl ?_; intro w5 u5 b4'; have z5 := u5.size; have b1 := u5.blk b1 (by omega); have gg := u5.gr gg (by omega)))
  go_ret
  exact ⟨_, rfl, gg, B4, B1, rfl, ⟨fb, SBH.out, b4'⟩, b1⟩
set_option maxHeartbeats 2000000 in
set_option maxRecDepth 100000 in
theorem wayF_any (W H d i Bf Bg : Nat) (c : List UInt8) (w : World) (hi : i < nn W H) (h36 : nn W H ≤ 36) (hf : WayF W H c d Bf Bg w) : Calls Tryd.prog 144 #[.int .i64 i, .pointer (some ⟨Bf, 0, none⟩), .pointer (some ⟨Bg, 0, none⟩)] w (Ret (.bool (frB W H c d i)) w) := by
  have gg := Gr.refl w
  obtain ⟨⟨f, SF, bf⟩, bg⟩ := hf
  have HS := hidI SF
  obtain ⟨R, hR⟩ : ∃ R, R = frB W H c d i := ⟨_, rfl⟩
  rw [← hR]
  have HR := hidI hR
  clear SF hR
  go_enter Tryd.func144, Tryd.ntmps144
  go_wp2
  go_loopw [0, 5] (fun nv bv wr => Blk wr Bf #[.func (.func f) #[] #[]] 179 ∧ Blk wr Bg (gv W H c) 72 ∧ Gr w wr ∧ ((bv = .bool false ∧ nv = .int .i64 0 ∧ Hid (R = true)) ∨ ∃ k : Nat, bv = .bool true ∧ nv = .int .i64 k ∧ k < nn W H ∧ Hid (R = frB W H c d k))) (fun nv bv _ => wyM W H d nv bv)
  case atStart => exact ⟨bf, bg, gg, .inr ⟨i, rfl, rfl, hi, HR⟩⟩
  case round =>
    clear bf bg gg
    obtain ⟨bf, bg, gg, ⟨rfl, rfl, HRT⟩ | ⟨k, rfl, rfl, hk, HRK⟩⟩ := hrel
    · go_wp2
      go_ret
      exact ⟨ret_bool HRT.out.symm, gg⟩
    · have hix := fun w => Tryd.gix Bg k (by omega) w
      obtain ⟨bg_0, bg_1, bg_2⟩ := gcells bg
      have hck := bg_2 k (by omega)
      have cf : wr.cell? ⟨Bf, 0, none⟩ = some (.func (.func f) #[] #[]) := bf.cell 0
      by_cases hc : at0 c k = 46
      · have e1 : (((at0 c k).toNat : Int) == 46) = true := beq_byte hc
        have e2 : (((at0 c k).toNat : Int) != 46) = false := by rw [bne, e1]; rfl
        cases hn : nx W H c (opd d) k with
        | none =>
          have HT := hidI (show R = true from by rw [HRK.out]; exact fr_none hc hn)
          have HST := hidI (fun w => show Calls Tryd.prog f #[.agg (gv W H c), .int .i64 k] w (Ret (.tuple #[.int .i64 0, .bool false]) w) from by have h := HS.out.run k w hk; rw [hn] at h; exact h)
          clear hc hn
          go_wp2_with (first | (refine r_load_row 72 _ _ rfl _ _ _ bg Tryd.underlying72 rfl (Tryd.ginfo' _ _ _) rfl ?_) | (refine r_ldc 179 (.tmp 1) ⟨Bf, 0, none⟩ (.func (.func f) #[] #[]) rfl (Tryd.fagg _) cf rfl ?_) | (refine r_callv f (.tmp 8) [.tmp 9, .tmp 10] _ [.agg (gv W H c), .int .i64 k] (.tuple #[.int .i64 0, .bool false]) (fun w' => Gr _ w') HS.out.enter rfl rfl rfl (HST.out _) ?_; intro w5 g5; have bg := g5.blk bg; have bf := g5.blk bf; have gg := gg.trans g5))
          go_roundw
          case rel => exact ⟨bf, bg, gg, .inl ⟨rfl, rfl, HT⟩⟩
          case measure => simp [wyM]
        | some j =>
          have HT := hidI (show R = frB W H c d j from by rw [HRK.out]; exact fr_some hc hn)
          have hmd := nx_md (opd_lt d) hn
          have hj := (nx_some hn).2.2.1
          have HST := hidI (fun w => show Calls Tryd.prog f #[.agg (gv W H c), .int .i64 k] w (Ret (.tuple #[.int .i64 (j : Nat), .bool true]) w) from by have h := HS.out.run k w hk; rw [hn] at h; exact h)
          have HMD := hidI hmd
          clear hc hn hmd
          go_wp2_with (first | (refine r_load_row 72 _ _ rfl _ _ _ bg Tryd.underlying72 rfl (Tryd.ginfo' _ _ _) rfl ?_) | (refine r_ldc 179 (.tmp 1) ⟨Bf, 0, none⟩ (.func (.func f) #[] #[]) rfl (Tryd.fagg _) cf rfl ?_) | (refine r_callv f (.tmp 8) [.tmp 9, .tmp 10] _ [.agg (gv W H c), .int .i64 k] (.tuple #[.int .i64 (j : Nat), .bool true]) (fun w' => Gr _ w') HS.out.enter rfl rfl rfl (HST.out _) ?_; intro w5 g5; have bg := g5.blk bg; have bf := g5.blk bf; have gg := gg.trans g5))
          go_roundw
          case rel => exact ⟨bf, bg, gg, .inr ⟨j, rfl, rfl, hj, HT⟩⟩
          case measure => have := HMD.out; simp [wyM, intOf]; omega
      · have e1 : (((at0 c k).toNat : Int) == 46) = false := bne_byte hc
        have e2 : (((at0 c k).toNat : Int) != 46) = true := by rw [bne, e1]; rfl
        have HT := hidI (show R = false from by rw [HRK.out]; exact fr_stop hc)
        clear hc
        go_wp2
        go_ret
        exact ⟨ret_bool HT.out.symm, gg⟩
set_option maxHeartbeats 4000000 in
set_option maxRecDepth 100000 in
theorem freeWays_any (W H i : Nat) (c : List UInt8) (w : World) (hi : i < nn W H) (h36 : nn W H ≤ 36) : Calls Tryd.prog 83 #[.agg (gv W H c), .int .i64 i] w (Ret (.string (mkS (wyL W H c i 4))) w) := by
  have gg := Gr.refl w
  go_enter Tryd.func83, Tryd.ntmps83
  go_wp2_with (first | (refine r_box 72 _ (gv W H c) rfl rfl ?_; intro w1 B1 N1; have g1 := N1.gr; have b1 : Blk w1 B1 (gv W H c) 72 := N1.blk; have l1 := N1.lo; have t1 := N1.hi; have z1 := g1.size; have gg := gg.trans g1; clear N1; obtain ⟨b1_0, b1_1, b1_2⟩ := gcells b1) | (refine r_slice4 53 5 _ _ _ _ (Tryd.bs4 _) rfl ?_) | (refine r_mark 53 5 (.tmp 8) cs4 4 4 _ rfl rfl Tryd.underlying53 Tryd.underlying5 rfl ?_; intro w4 B4 g4 l4 t4 b4; have z4 := g4.size; have gg := gg.trans g4; have b1 := g4.blk b1))
  have own0 : w4.ownsRow w4.heap.size 5 1 (.slice none 0 0) (wyL W H c i 0).length (cellsV (wyL W H c i 0)) := World.ownsRow_nil _ _ _ _
  go_loopw [5, 11] (fun wv iv wr => ∃ k : Nat, k ≤ 4 ∧ iv = .int .i64 k ∧ Blk wr B1 (gv W H c) 72 ∧ wr.heap[B4]? = some (.cells cs4 5 (4, 5)) ∧ wr.ownsRow w4.heap.size 5 1 wv (wyL W H c i k).length (cellsV (wyL W H c i k)) ∧ Gr w wr ∧ w4.heap.size ≤ wr.heap.size) (fun _ iv _ => 4 - (intOf iv).toNat)
  case atStart => exact ⟨0, Nat.zero_le _, rfl, b1, b4, own0, gg, Nat.le_refl _⟩
  case round =>
    clear own0 b1 b4 gg
    obtain ⟨k, hk, rfl, b1, b4, own, gg, zs⟩ := hrel
    have hln := wyL_length W H c i k
    by_cases hlt : k < 4
    · have hc4 := blk4 b4 hlt
      have hix := Tryd.ixb B4 4 4 k hlt
      have HWI := hidI (fun w => wayIn_any W H k c w hlt h36)
      cases hfr : frB W H c k i with
      | false =>
        have HWF := hidI (fun w Bf Bg (h : WayF W H c k Bf Bg w) => show Calls Tryd.prog 144 #[.int .i64 i, .pointer (some ⟨Bf, 0, none⟩), .pointer (some ⟨Bg, 0, none⟩)] w fun e w' => e = .returned (.bool false) ∧ Gr w w' from hfr ▸ wayF_any W H k i Bf Bg c w hi h36 h)
        have HST := hidI (show wyL W H c i (k + 1) = wyL W H c i k from by rw [wyL, if_neg (by rw [hfr]; decide)])
        clear hfr
        go_wp2_with (first | (refine r_load_row 72 _ _ rfl _ _ _ b1 Tryd.underlying72 rfl (Tryd.ginfo' _ _ _) rfl ?_) | (go_at_call 120; refine (HWI.out _).mono ?_; rintro e w5 ⟨_, rfl, g5, Bf, Bg, rfl, WF⟩; have b1 := g5.blk b1; have b4 := g5.keep b4; have own := g5.row own; have gg := gg.trans g5; have z5 := g5.size) | (refine r_callc 144 (.tmp 17) [.tmp 18] _ [.int .i64 i] [.pointer (some ⟨Bf, 0, none⟩), .pointer (some ⟨Bg, 0, none⟩)] (.bool false) (fun w' => Gr w5 w') Tryd.call144 rfl rfl rfl (HWF.out w5 Bf Bg WF) ?_; intro w6 g6; have b1 := g6.blk b1; have b4 := g6.keep b4; have own := g6.row own; have gg := gg.trans g6; have z6 := g6.size))
        go_roundw
        case rel => exact ⟨k + 1, by omega, by go_num, b1, b4, by rw [HST.out]; exact own, gg, by omega⟩
        case measure => simp [intOf]; omega
      | true =>
        have HWF := hidI (fun w Bf Bg (h : WayF W H c k Bf Bg w) => show Calls Tryd.prog 144 #[.int .i64 i, .pointer (some ⟨Bf, 0, none⟩), .pointer (some ⟨Bg, 0, none⟩)] w fun e w' => e = .returned (.bool true) ∧ Gr w w' from hfr ▸ wayF_any W H k i Bf Bg c w hi h36 h)
        have HST := hidI (show wyL W H c i (k + 1) = wyL W H c i k ++ [dB k] from by rw [wyL, if_pos hfr])
        clear hfr
        go_wp2_with (first | (refine r_load_row 72 _ _ rfl _ _ _ b1 Tryd.underlying72 rfl (Tryd.ginfo' _ _ _) rfl ?_) | (go_at_call 120; refine (HWI.out _).mono ?_; rintro e w5 ⟨_, rfl, g5, Bf, Bg, rfl, WF⟩; have b1 := g5.blk b1; have b4 := g5.keep b4; have own := g5.row own; have gg := gg.trans g5; have z5 := g5.size) | (refine r_callc 144 (.tmp 17) [.tmp 18] _ [.int .i64 i] [.pointer (some ⟨Bf, 0, none⟩), .pointer (some ⟨Bg, 0, none⟩)] (.bool true) (fun w' => Gr w5 w') Tryd.call144 rfl rfl rfl (HWF.out w5 Bf Bg WF) ?_; intro w6 g6; have b1 := g6.blk b1; have b4 := g6.keep b4; have own := g6.row own; have gg := gg.trans g6; have z6 := g6.size) | (refine r_slice1 53 5 (.tmp 21) (.int .u8 (dB k).toNat) rfl (Tryd.bs1 _ _) rfl ?_; intro w8 B8 N8; have g8 := N8.gr; have b1 := g8.blk b1; have b4 := g8.keep b4; have own := g8.row own; have gg := gg.trans g8; have z8 := g8.size) | (refine r_append (.tmp 20) (.tmp 22) 53 5 _ 1 1 w4.heap.size Tryd.bytesI _ _ (cellsV (wyL W H c i k)) rfl own ⟨B8, 0, none⟩ 1 1 [.int .u8 (dB k).toNat] rfl rfl N8.cell1 (by intro u hu; simp at hu; subst hu; rfl) (by omega) (by decide) (by omega) rfl ?_; intro v9 w9 own9 g9))
        have own10 : w9.ownsRow w4.heap.size 5 1 v9 (wyL W H c i (k + 1)).length (cellsV (wyL W H c i (k + 1))) := by
          rw [HST.out, List.length_append, ← cellsV_append]
          exact own9
        go_roundw
        case rel => exact ⟨k + 1, by omega, by go_num, g9.blk b1 (own_ne own b1 (by decide)), g9.keep b4 (fun h => by have := (own.lt _ h).1; omega), own10, g9.gr gg (own_gr own (by omega)), by have := g9.size; omega⟩
        case measure => simp [intOf]; omega
    · obtain rfl : k = 4 := by omega
      clear hlt
      obtain ⟨l, hl⟩ : ∃ l, l = wyL W H c i 4 := ⟨_, rfl⟩
      have HL := hidI hl
      rw [← hl] at own hln
      clear hl
      rcases Nat.eq_zero_or_pos l.length with h0 | h0
      · obtain rfl : l = [] := List.length_eq_zero_iff.1 h0
        obtain ⟨p, n, q, rfl⟩ := own_slice own
        obtain rfl : n = 0 := own_len own
        go_wp2_with (refine r_conv 53 9 _ _ (.string (mkS [])) rfl (Tryd.conv0 _ _ _) rfl ?_)
        go_ret
        exact ⟨by rw [← HL.out]; rfl, gg⟩
      · obtain ⟨G, q, rfl, -, -⟩ := own_shape own h0
        have HB := hidI (own_bytes own)
        go_wp2_with (refine r_conv 53 9 _ _ (.string (mkS l)) rfl (Tryd.conv G 0 _ _ _ HB.out l.length (mkS_size l)) rfl ?_)
        go_ret
        exact ⟨by rw [← HL.out]; rfl, gg⟩
def nearF (W H i : Nat) : List (Fin 36) := (nearL W H i).map fun j => ⟨j % 36, Nat.mod_lt _ (by decide)⟩
theorem besPred (W H B : Nat) (c : List UInt8) (w : World) (hb : Blk w B (gv W H c) 72) : PredAt Tryd.prog 165 #[.pointer (some ⟨B, 0, none⟩)] (fun x : Fin 36 => Value.int .i64 (x.val : Nat)) (fun x => ballB (at0 c x.val)) w := fun W' x hB => by
  have b1 : Blk W' B (gv W H c) 72 := (Below.block hB B hb.lt).trans hb
  obtain ⟨k, hk⟩ := x
  have hix := fun w => Tryd.gix B k hk w
  have hc := (gcells b1).2.2 k hk
  show Calls Tryd.prog 165 #[.int .i64 k, .pointer (some ⟨B, 0, none⟩)] W' _
  go_enter Tryd.func165, Tryd.ntmps165
  go_wp2_with (go_at_call 140; refine (isBall_any _ _).mono ?_; rintro e wSame ⟨rfl, rfl⟩)
  go_ret
  exact ⟨rfl, 0, rfl⟩
set_option maxHeartbeats 2000000 in
set_option maxRecDepth 100000 in
theorem isBeside_any (W H i : Nat) (c : List UInt8) (w : World) (hw1 : 1 ≤ W) (hw7 : W ≤ 7) (hh7 : H ≤ 7) (hi : i < nn W H) (h36 : nn W H ≤ 36) (hl : c.length = nn W H) (hc : ∀ j, j < c.length → isCellB (at0 c j) = true) : Calls Tryd.prog 141 #[.agg (gv W H c), .int .i64 i] w (Ret (.bool (besB W H c i)) w) := by
  have gg := Gr.refl w
  have HBE := hidI (bes_impl hl hc hi)
  obtain ⟨L, hL⟩ : ∃ L, L = (nearL W H i).length := ⟨_, rfl⟩
  have hL4 : L ≤ 4 := by rw [hL]; exact nearL_le _ _ _
  have HN := hidI (fun (w : World) => show Calls Tryd.prog 164 #[.agg (gv W H c), .int .i64 i] w fun e w' => Gr w w' ∧ ∃ p m, e = .returned (.slice p L m) ∧ w'.ownsRow w.heap.size 3 1 (.slice p L m) L (intsV (natsI (nearL W H i))) from
    (neighboursOf_any W H i c w hw1 hw7 hh7 hi h36).mono fun e w' ⟨g, v, he, ho⟩ => by
      rw [natsI_length, ← hL] at ho
      obtain ⟨p, m, k, rfl⟩ := own_slice ho
      obtain rfl : m = L := own_len ho
      exact ⟨g, p, k, he, ho⟩)
  have HCF := hidI (fun (w : World) p cap B (hb : Blk w B (gv W H c) 72) (ho : w.ownsRow 0 3 1 (.slice p L cap) L (intsV (natsI (nearL W H i)))) => show Calls Tryd.prog 45 #[.slice p L cap, .func (.func 165) #[] #[.pointer (some ⟨B, 0, none⟩)]] w (Ret (.bool (besB W H c i)) w) from by
    rw [← HBE.out]
    rcases Nat.eq_zero_or_pos L with h0 | h0
    · have e : nearL W H i = [] := List.eq_nil_of_length_eq_zero (by rw [← hL]; exact h0)
      rw [h0, e]
      exact (Tryd.slices_ContainsFunc_empty (α := Fin 36) p cap _ w).mono fun e w' ⟨h1, h2⟩ => ⟨h1, by rw [h2]; exact Gr.refl w⟩
    · obtain ⟨G, c', e, -, -⟩ := own_shape ho h0
      cases e
      have hzl : (nearF W H i).length = L := by unfold nearF; rw [List.length_map, hL]
      have hzj : ∀ j, j < L → ((nearF W H i)[j]!).val = (nearL W H i).getD j 0 := fun j hj => by
        have h1 : j < (nearL W H i).length := by rw [← hL]; exact hj
        rw [getElem!_pos (nearF W H i) j (by rw [hzl]; exact hj)]
        unfold nearF
        rw [List.getElem_map]
        have h2 : (nearL W H i)[j] < 36 := Nat.lt_of_lt_of_le (nearL_lt hi _ (List.getElem_mem h1)) h36
        show (nearL W H i)[j] % 36 = _
        rw [Nat.mod_eq_of_lt h2]
        simp [List.getD, h1]
      have h := Tryd.slices_ContainsFunc (fun x : Fin 36 => Value.int .i64 (x.val : Nat)) (fun x => ballB (at0 c x.val)) 165 #[.pointer (some ⟨B, 0, none⟩)] Tryd.call165 G 0 L cap (nearF W H i) w (besPred W H B c w hb) (by rw [hzl]; exact Nat.le_refl _) (by omega) (fun j hj => by
        rw [hzl] at hj
        have h1 : j < (nearL W H i).length := by rw [← hL]; exact hj
        rw [Nat.zero_add, own_int ho j hj (by rw [natsI_length, hL]), hzj j hj]
        unfold gi natsI
        simp [List.getD, h1])
      refine h.mono fun e w' ⟨h1, q, h2⟩ => ⟨?_, by rw [h2]; exact (Gr.refl w).drewN q⟩
      rw [h1]
      refine ret_bool ?_
      rw [List.take_of_length_le (by rw [hzl]; exact Nat.le_refl _)]
      unfold nearF
      rw [List.any_map, Bool.eq_iff_iff, List.any_eq_true, List.any_eq_true]
      have e1 : ∀ j ∈ nearL W H i, j % 36 = j := fun j hj => Nat.mod_eq_of_lt (Nat.lt_of_lt_of_le (nearL_lt hi j hj) h36)
      constructor
      · rintro ⟨j, hj, hb⟩
        exact ⟨j, hj, by have := e1 j hj; simp only [Function.comp] at hb; rw [this] at hb; exact hb⟩
      · rintro ⟨j, hj, hb⟩
        exact ⟨j, hj, by have := e1 j hj; simp only [Function.comp]; rw [this]; exact hb⟩)
  clear hL HBE hc
  go_enter Tryd.func141, Tryd.ntmps141
  go_wp2_with (first | (refine r_box 72 _ (gv W H c) rfl rfl ?_; intro w1 B1 N1; have g1 := N1.gr; have b1 : Blk w1 B1 (gv W H c) 72 := N1.blk; have l1 := N1.lo; have t1 := N1.hi; have z1 := g1.size; have gg := gg.trans g1; clear N1; obtain ⟨b1_0, b1_1, b1_2⟩ := gcells b1) | (refine r_load_row 72 _ _ rfl _ _ _ b1 Tryd.underlying72 rfl (Tryd.ginfo' _ _ _) rfl ?_) | (go_at_call 164; refine (HN.out _).mono ?_; rintro e w2 ⟨g2, p, m, rfl, own2⟩; have b1 := g2.blk b1; have gg := gg.trans g2) | (go_at_call 45; refine (HCF.out _ _ _ _ b1 (own_up own2 (Nat.zero_le _))).mono ?_; rintro e w3 ⟨rfl, g3⟩; have gg := gg.trans g3))
  go_ret
  exact ⟨rfl, gg⟩
set_option maxHeartbeats 2000000 in
set_option maxRecDepth 100000 in
theorem canBeAdded_any (W H i : Nat) (c : List UInt8) (w : World) (hw1 : 1 ≤ W) (hw7 : W ≤ 7) (hh7 : H ≤ 7) (hi : i < nn W H) (h36 : nn W H ≤ 36) (hl : c.length = nn W H) (hc : ∀ j, j < c.length → isCellB (at0 c j) = true) : Calls Tryd.prog 119 #[.agg (gv W H c), .int .i64 i] w (Ret (.bool (canB W H c i)) w) := by
  have gg := Gr.refl w
  have HB := hidI (fun w => isBeside_any W H i c w hw1 hw7 hh7 hi h36 hl hc)
  have HF := hidI (fun w => freeWays_any W H i c w hi h36)
  have HV := hidI (show canB W H c i = (besB W H c i && decide (wyL W H c i 4 ≠ [])) from rfl)
  have HN := hidI (show (!decide (mkS (wyL W H c i 4) = ⟨#[]⟩)) = decide (wyL W H c i 4 ≠ []) from by
    rw [Bool.eq_iff_iff]
    simp [mkS_nil])
  obtain ⟨D, hD⟩ : ∃ D, D = decide (wyL W H c i 4 ≠ []) := ⟨_, rfl⟩
  rw [← hD] at HV HN
  cases hb : besB W H c i with
  | false =>
    rw [hb] at HB HV
    clear hb hD hl hc
    go_enter Tryd.func119, Tryd.ntmps119
    go_wp2_with (first | (refine r_box 72 _ (gv W H c) rfl rfl ?_; intro w1 B1 N1; have g1 := N1.gr; have b1 : Blk w1 B1 (gv W H c) 72 := N1.blk; have l1 := N1.lo; have t1 := N1.hi; have z1 := g1.size; have gg := gg.trans g1; clear N1; obtain ⟨b1_0, b1_1, b1_2⟩ := gcells b1) | (refine r_load_row 72 _ _ rfl _ _ _ b1 Tryd.underlying72 rfl (Tryd.ginfo' _ _ _) rfl ?_) | (go_at_call 141; refine (HB.out _).mono ?_; rintro e w2 ⟨rfl, g2⟩; have z2 := g2.size; have b1 := g2.blk b1; obtain ⟨b1_0, b1_1, b1_2⟩ := gcells b1; have gg := gg.trans g2))
    go_ret
    exact ⟨ret_bool HV.out.symm, gg⟩
  | true =>
    rw [hb] at HB HV
    clear hb hD hl hc
    cases D with
    | false =>
      go_enter Tryd.func119, Tryd.ntmps119
      go_wp2_with (first | (refine r_box 72 _ (gv W H c) rfl rfl ?_; intro w1 B1 N1; have g1 := N1.gr; have b1 : Blk w1 B1 (gv W H c) 72 := N1.blk; have l1 := N1.lo; have t1 := N1.hi; have z1 := g1.size; have gg := gg.trans g1; clear N1; obtain ⟨b1_0, b1_1, b1_2⟩ := gcells b1) | (refine r_load_row 72 _ _ rfl _ _ _ b1 Tryd.underlying72 rfl (Tryd.ginfo' _ _ _) rfl ?_) | (go_at_call 141; refine (HB.out _).mono ?_; rintro e w2 ⟨rfl, g2⟩; have z2 := g2.size; have b1 := g2.blk b1; obtain ⟨b1_0, b1_1, b1_2⟩ := gcells b1; have gg := gg.trans g2) | (go_at_call 83; refine (HF.out _).mono ?_; rintro e w3 ⟨rfl, g3⟩; have z3 := g3.size; have b1 := g3.blk b1; obtain ⟨b1_0, b1_1, b1_2⟩ := gcells b1; have gg := gg.trans g3) | (refine r_neqS _ _ (mkS (wyL W H c i 4)) ⟨#[]⟩ false rfl rfl HN.out rfl ?_))
      go_ret
      exact ⟨ret_bool HV.out.symm, gg⟩
    | true =>
      go_enter Tryd.func119, Tryd.ntmps119
      go_wp2_with (first | (refine r_box 72 _ (gv W H c) rfl rfl ?_; intro w1 B1 N1; have g1 := N1.gr; have b1 : Blk w1 B1 (gv W H c) 72 := N1.blk; have l1 := N1.lo; have t1 := N1.hi; have z1 := g1.size; have gg := gg.trans g1; clear N1; obtain ⟨b1_0, b1_1, b1_2⟩ := gcells b1) | (refine r_load_row 72 _ _ rfl _ _ _ b1 Tryd.underlying72 rfl (Tryd.ginfo' _ _ _) rfl ?_) | (go_at_call 141; refine (HB.out _).mono ?_; rintro e w2 ⟨rfl, g2⟩; have z2 := g2.size; have b1 := g2.blk b1; obtain ⟨b1_0, b1_1, b1_2⟩ := gcells b1; have gg := gg.trans g2) | (go_at_call 83; refine (HF.out _).mono ?_; rintro e w3 ⟨rfl, g3⟩; have z3 := g3.size; have b1 := g3.blk b1; obtain ⟨b1_0, b1_1, b1_2⟩ := gcells b1; have gg := gg.trans g3) | (refine r_neqS _ _ (mkS (wyL W H c i 4)) ⟨#[]⟩ true rfl rfl HN.out rfl ?_))
      go_ret
      exact ⟨ret_bool HV.out.symm, gg⟩
end Go.Proofs.YtdebiobhmpoiiaaDoor
