/-
  The directions in which a tray is still: in the program and in the model, and the law.
-/
import Derived.Test.YtppjlcmfmbpkjaaDoorTiltY
import Derived.Test.YtppjlcmfmbpkjaaDoorBWd
import Derived.Laws.BytesString
import Derived.Lib.SlBytesConst
namespace Go.Proofs.YtppjlcmfmbpkjaaDoor
open Go.RowKit
/-- The first k directions in which a tray is still. -/
def stL (g : Grid) : Nat → List UInt8
  | 0 => []
  | k + 1 => if sameB g (tiltG k g) = true then stL g k ++ [dB k] else stL g k
theorem stL_length (g : Grid) (k : Nat) : (stL g k).length ≤ k := by
  induction k with
  | zero => exact Nat.le_refl _
  | succ k ih => unfold stL; split <;> (try rw [List.length_append, List.length_singleton]) <;> omega
def stB (l : List UInt8) : ByteArray := if rdOk l then mkS (stL (rdG l) 4) else ⟨#[]⟩
theorem own_bytes {w : World} {base G cap : Nat} {e : TypeId} {c : List UInt8} (h : w.ownsRow base e 1 (.slice (some ⟨G, 0, none⟩) c.length cap) c.length (cellsV c)) : Lib.Bytes w G 0 (mkS c) := by
  intro i hi
  have hl : i < c.length := by
    have : (mkS c).size = c.length := by show c.toArray.size = _; simp
    omega
  have := own_cell h i hl rfl
  rw [Nat.zero_add, this, mkS_at c i hi]
theorem Tryd.bs4 (w : World) : (Instr.buildSlice 44 4 #[(0, .int .u8 117), (1, .int .u8 114), (2, .int .u8 100), (3, .int .u8 108)]).run Tryd.prog w = .ok (.slice (some ⟨w.heap.size, 0, none⟩) 4 4) (w.alloc (.cells #[.int .u8 117, .int .u8 114, .int .u8 100, .int .u8 108] 5)) := by kernel_rfl
section
variable {P : Program} {w : World} {ops : Array Oper} {rest : List Oper} {a : Act} {Q : Exit → Act → World → Prop} {dst : Option Tmp} {ty : TypeId} {pos : String} {aft : Array Edge} {gd : Option (Nat × Bool)}
/-- A literal of four constants. -/
theorem r_slice4 (t e : TypeId) (c0 c1 c2 c3 : Value)
    (hr : (Instr.buildSlice t 4 #[(0, c0), (1, c1), (2, c2), (3, c3)]).run P w = .ok (.slice (some ⟨w.heap.size, 0, none⟩) 4 4) (w.alloc (.cells #[c0, c1, c2, c3] e)))
    (hgd : Region.wanted ⟨dst, .buildSlice t 4 #[(0, .const c0), (1, .const c1), (2, .const c2), (3, .const c3)], ty, pos, aft, gd⟩ (yielded ops a.tmps) = true)
    (h : wpList P ops Q rest (a.put dst (.slice (some ⟨w.heap.size, 0, none⟩) 4 4)) (w.alloc (.cells #[c0, c1, c2, c3] e))) :
    wpList P ops Q (⟨dst, .buildSlice t 4 #[(0, .const c0), (1, .const c1), (2, .const c2), (3, .const c3)], ty, pos, aft, gd⟩ :: rest) a w :=
  wpList_want hgd fun _ hK => by
    have e0 : (execOp a.eval ⟨dst, .buildSlice t 4 #[(0, .const c0), (1, .const c1), (2, .const c2), (3, .const c3)], ty, pos, aft, gd⟩).run P w = .ok (.value (.slice (some ⟨w.heap.size, 0, none⟩) 4 4)) (w.alloc (.cells #[c0, c1, c2, c3] e)) := by
      unfold execOp
      simp only [List.map_toArray, List.map_cons, List.map_nil, Act.eval, Sem.run_bind, hr, Result.andThen_ok, Sem.run_pure]
    unfold Oper.wp
    rw [e0]
    exact hK _ _ h
/-- A literal's bytes, marked. -/
theorem r_mark (t e : TypeId) (x : Operand) (C : Array Value) (n c : Nat) (w0 : World) (hw : w = w0.alloc (.cells C e)) (hx : a.eval x = .slice (some ⟨w0.heap.size, 0, none⟩) n c) (ht : P.underlying t = some (.slice e)) (he : P.underlying e = some (.int .u8))
    (hgd : Region.wanted ⟨dst, .convert t t x, ty, pos, aft, gd⟩ (yielded ops a.tmps) = true)
    (h : ∀ w1 B, Gr w0 w1 → w0.heap.size ≤ B → B < w1.heap.size → w1.heap[B]? = some (.cells C e (C.size, C.size + 1)) → wpList P ops Q rest (a.put dst (.slice (some ⟨B, 0, none⟩) n c)) w1) :
    wpList P ops Q (⟨dst, .convert t t x, ty, pos, aft, gd⟩ :: rest) a w :=
  wpList_want hgd fun _ hK => by
    subst hw
    unfold Oper.wp execOp
    simp only [hx, Sem.run_bind, Lib.run_convert_bytes_const w0 t e C n c ht he, Result.andThen_ok, Sem.run_pure, Oper.upon]
    exact hK _ _ (h _ _ ((Gr.refl _).alloc _) (Nat.le_refl _) (by show _ < (w0.heap.push _).size; simp) (heap_alloc_new w0 _))
end
theorem Tryd.ixb (B n cap x : Nat) (hx : x < n) (w : World) : (Instr.indexAt 44 (.slice (some ⟨B, 0, none⟩) n cap) (.int .i64 x)).run Tryd.prog w = .ok (.pointer (some ⟨B, x, none⟩)) w := by
  have hu : Tryd.prog.underlying 44 = some (.slice (Tryd.prog.elem 44)) := by kernel_rfl
  have he : Tryd.prog.elem 44 = 5 := by kernel_rfl
  rw [run_indexAt_slice w 44 ⟨B, 0, none⟩ n cap .i64 x hu, if_pos (by omega), he]
  simp [Tryd.sizeOf5, Result.andThen, Addr.add]
  exact fun h => h.symm
abbrev cs4 : Array Value := #[.int .u8 117, .int .u8 114, .int .u8 100, .int .u8 108]
theorem blk4 {w : World} {B : Nat} {e : TypeId} {fr : Nat × Nat} (h : w.heap[B]? = some (.cells cs4 e fr)) {k : Nat} (hk : k < 4) : w.cell? ⟨B, k, none⟩ = some (.int .u8 (dB k).toNat) := by
  rw [cell_of_row w B k cs4 e fr h]
  rcases dB_cases hk with ⟨rfl, e⟩ | ⟨rfl, e⟩ | ⟨rfl, e⟩ | ⟨rfl, e⟩ <;> (rw [e]; rfl)
theorem Tryd.conv0 (p : Option Addr) (q : Nat) (w : World) : (convert 44 9 (.slice p 0 q)).run Tryd.prog w = .ok (.string ⟨#[]⟩) w := by
  rw [run_convert_bytes_string w 44 9 5 p 0 q Tryd.underlying44 Tryd.underlying5 Tryd.underlying9]
  cases p <;> (simp [Conv.bytesToString]; rfl)
set_option maxHeartbeats 4000000 in
set_option maxRecDepth 100000 in
theorem iStillWays (s : ByteArray) (w : World) (hm : ML w) (hs : s.size ≤ 1048576) : Calls Tryd.prog 21 #[.string s] w (Ret (.tuple #[.string (stB s.data.toList), .bool (rdOk s.data.toList)]) w) := by
  have gg := Gr.refl w
  rcases rd_cases s.data.toList with ⟨hg, hp, hk⟩ | ⟨g, hp, hg, hk⟩
  · have HK := hidI hk
    have HV := hidI (show stB s.data.toList = ⟨#[]⟩ from by unfold stB; rw [hk]; rfl)
    clear hg hp hk
    go_enter Tryd.func21, Tryd.ntmps21
    go_wp2_with (first | (go_at_call 54; refine (readTray_any s _ (gg.ml hm) hs).mono ?_; rintro e w1 ⟨rfl, g1⟩; rw [HK.out]; have z1 := g1.size; have gg := gg.trans g1) | (refine r_alloc 53 _ Tryd.gzero rfl ?_; intro w2 B2 N2; have g2 := N2.gr; have b2 : Blk w2 B2 (gv 0 0 []) 53 := N2.blk; have l2 := N2.lo; have t2 := N2.hi; have z2 := g2.size; have gg := gg.trans g2; clear N2; obtain ⟨b2_0, b2_1, b2_2⟩ := gcells b2) | (refine r_store_row 53 53 _ _ _ rfl (gv _ _ _) _ rfl b2 (Tryd.gsize' _ _ _) (by simp only [gv_size]) (gv_one _ _ _) rfl ?_; intro w3 u3 b2'; have z3 := u3.size; have gg := u3.gr gg (by omega); clear b2; have b2 := b2'; clear b2'; obtain ⟨b2_0, b2_1, b2_2⟩ := gcells b2))
    go_ret2
    exact ⟨fin_sb HV.out.symm HK.out.symm, gg⟩
  · have HK := hidI hk
    have HG := hidI hg
    have HV := hidI (show stB s.data.toList = mkS (stL g 4) from by unfold stB; rw [hk, hg]; rfl)
    obtain ⟨hc, -, -, -⟩ := cel_of hp
    have HC := hidI hc
    clear hg hp hk hc
    go_enter Tryd.func21, Tryd.ntmps21
    go_wp2_with (first | (go_at_call 54; refine (readTray_any s _ (gg.ml hm) hs).mono ?_; rintro e w1 ⟨rfl, g1⟩; rw [HK.out, HG.out, gvG]; have z1 := g1.size; have gg := gg.trans g1) | (refine r_alloc 53 _ Tryd.gzero rfl ?_; intro w2 B2 N2; have g2 := N2.gr; have b2 : Blk w2 B2 (gv 0 0 []) 53 := N2.blk; have l2 := N2.lo; have t2 := N2.hi; have z2 := g2.size; have gg := gg.trans g2; clear N2; obtain ⟨b2_0, b2_1, b2_2⟩ := gcells b2) | (refine r_store_row 53 53 _ _ _ rfl (gv g.w g.h g.c) _ rfl b2 (Tryd.gsize' _ _ _) (by simp only [gv_size]) (gv_one _ _ _) rfl ?_; intro w3 u3 b2'; have z3 := u3.size; have gg := u3.gr gg (by omega); clear b2; have b2 := b2'; clear b2'; obtain ⟨b2_0, b2_1, b2_2⟩ := gcells b2) | (refine r_slice4 44 5 _ _ _ _ (Tryd.bs4 _) rfl ?_) | (refine r_mark 44 5 (.tmp 16) cs4 4 4 _ rfl rfl Tryd.underlying44 Tryd.underlying5 rfl ?_; intro w4 B4 g4 l4 t4 b4; have z4 := g4.size; have gg := gg.trans g4; have b2 := g4.blk b2))
    have own0 : w4.ownsRow w4.heap.size 5 1 (.slice none 0 0) (stL g 0).length (cellsV (stL g 0)) := World.ownsRow_nil _ _ _ _
    go_loopw [6, 19] (fun wv iv wr => ∃ k : Nat, k ≤ 4 ∧ iv = .int .i64 k ∧ Blk wr B2 (gv g.w g.h g.c) 53 ∧ wr.heap[B4]? = some (.cells cs4 5 (4, 5)) ∧ wr.ownsRow w4.heap.size 5 1 wv (stL g k).length (cellsV (stL g k)) ∧ Gr w wr ∧ w4.heap.size ≤ wr.heap.size) (fun _ iv _ => 4 - (intOf iv).toNat)
    case atStart => exact ⟨0, Nat.zero_le _, rfl, b2, b4, own0, gg, Nat.le_refl _⟩
    case round =>
      obtain ⟨k, hk, rfl, b2, b4, own, gg, zs⟩ := hrel
      have hln := stL_length g k
      by_cases hlt : k < 4
      · have hc4 := blk4 b4 hlt
        have hix := Tryd.ixb B4 4 4 k hlt
        have HIS := hidI (fun w => isStill_any g k w HC.out hlt)
        cases hsb : sameB g (tiltG k g)
        · rw [hsb] at HIS
          have HST := hidI (show stL g (k + 1) = stL g k from by rw [stL, if_neg (by rw [hsb]; decide)])
          clear hsb
          go_wp2_with (first | (refine r_load_row 53 _ _ rfl _ _ _ b2 Tryd.underlying53 rfl (Tryd.ginfo' _ _ _) rfl ?_) | (go_at_call 55; refine (HIS.out _).mono ?_; rintro e w5 ⟨rfl, g5⟩; have z5 := g5.size; have gg := gg.trans g5))
          go_roundw
          case rel => exact ⟨k + 1, by omega, by go_num, g5.blk b2, g5.keep b4, by rw [HST.out]; exact g5.row own, gg, by omega⟩
          case measure => simp [intOf]; omega
        · rw [hsb] at HIS
          have HST := hidI (show stL g (k + 1) = stL g k ++ [dB k] from by rw [stL, if_pos hsb])
          clear hsb
          go_wp2_with (first | (refine r_load_row 53 _ _ rfl _ _ _ b2 Tryd.underlying53 rfl (Tryd.ginfo' _ _ _) rfl ?_) | (go_at_call 55; refine (HIS.out _).mono ?_; rintro e w5 ⟨rfl, g5⟩; have z5 := g5.size; have b2 := g5.blk b2; have gg := gg.trans g5) | (refine r_slice1 44 5 (.tmp 27) (.int .u8 (dB k).toNat) rfl (Tryd.bs1 _ _) rfl ?_; intro w8 B8 N8; have g8 := N8.gr; have b2 := g8.blk b2; have b4 := g8.keep (g5.keep b4); have own := g8.row (g5.row own); have gg := gg.trans g8; have z8 := g8.size) | (refine r_append (.tmp 26) (.tmp 28) 44 5 _ 1 1 w4.heap.size Tryd.bytesI _ _ (cellsV (stL g k)) rfl own ⟨B8, 0, none⟩ 1 1 [.int .u8 (dB k).toNat] rfl rfl N8.cell1 (by intro u hu; simp at hu; subst hu; rfl) (by omega) (by decide) (by omega) rfl ?_; intro v9 w9 own9 g9))
          have own10 : w9.ownsRow w4.heap.size 5 1 v9 (stL g (k + 1)).length (cellsV (stL g (k + 1))) := by
            rw [HST.out, List.length_append, ← cellsV_append]
            exact own9
          go_roundw
          case rel => exact ⟨k + 1, by omega, by go_num, g9.blk b2 (own_ne own b2 (by decide)), g9.keep b4 (fun h => by have := (own.lt _ h).1; omega), own10, g9.gr gg (own_gr own (by omega)), by have := g9.size; omega⟩
          case measure => simp [intOf]; omega
      · obtain rfl : k = 4 := by omega
        clear hlt
        obtain ⟨c, hc⟩ : ∃ c, c = stL g 4 := ⟨_, rfl⟩
        rw [← hc] at own hln HV
        clear hc
        rcases Nat.eq_zero_or_pos c.length with h0 | h0
        · obtain rfl : c = [] := List.length_eq_zero_iff.1 h0
          obtain ⟨p, n, q, rfl⟩ := own_slice own
          obtain rfl : n = 0 := own_len own
          go_wp2_with (refine r_conv 44 9 _ _ (.string (mkS [])) rfl (Tryd.conv0 _ _ _) rfl ?_)
          go_ret2
          exact ⟨fin_sb HV.out.symm HK.out.symm, gg⟩
        · obtain ⟨G, q, rfl, -, -⟩ := own_shape own h0
          have HB := hidI (own_bytes own)
          go_wp2_with (refine r_conv 44 9 _ _ (.string (mkS c)) rfl (Tryd.conv G 0 _ _ _ HB.out c.length (mkS_size c)) rfl ?_)
          go_ret2
          exact ⟨fin_sb HV.out.symm HK.out.symm, gg⟩
set_option maxHeartbeats 4000000 in
set_option maxRecDepth 100000 in
theorem sStillWays (s : ByteArray) (w : World) (hs : s.size ≤ 1048576) : Calls Tryd.prog 20 #[.string s] w (Ret (.tuple #[.string (stB s.data.toList), .bool (rdOk s.data.toList)]) w) := by
  have gg := Gr.refl w
  go_enter Tryd.func20, Tryd.ntmps20
  go_wp2_with fail
  refine (tyRead_any s _ hs).mono ?_
  rintro e w1 ⟨g1, ⟨hp, rfl⟩ | ⟨g, sl, hp, rfl, hown⟩⟩
  · have HK := hidI (rd_parse_none hp).2
    have HV := hidI (show stB s.data.toList = ⟨#[]⟩ from by unfold stB; rw [HK.out]; rfl)
    have z1 := g1.size
    have gg := gg.trans g1
    clear hp
    go_wp2_with (first | (refine r_alloc 46 _ Tryd.tzero rfl ?_; intro w2 B2 N2; have g2 := N2.gr; have b2 : Blk w2 B2 (tg 0 0 (.slice none 0 0)) 46 := N2.blk; have l2 := N2.lo; have t2 := N2.hi; have z2 := g2.size; have gg := gg.trans g2; clear N2; obtain ⟨b2_0, b2_1, b2_2⟩ := tcells b2) | (refine r_store_row 46 46 _ _ _ rfl (tg _ _ _) _ rfl b2 Tryd.tsize rfl (tg_one rfl) rfl ?_; intro w3 u3 b2'; have z3 := u3.size; have gg := u3.gr gg (by omega); clear b2; have b2 := b2'; clear b2'; obtain ⟨b2_0, b2_1, b2_2⟩ := tcells b2))
    go_ret2
    exact ⟨fin_sb HV.out.symm HK.out.symm, gg⟩
  · obtain ⟨hg, hk⟩ := rd_parse_some hp
    obtain ⟨hc, w1', h1', hl⟩ := cel_of hp
    have HK := hidI hk
    have HV := hidI (show stB s.data.toList = mkS (stL g 4) from by unfold stB; rw [hk, hg]; rfl)
    have HC := hidI hc
    have HTX := hidI (txt_of hp)
    have z1 := g1.size
    have gg := gg.trans g1
    have hone := own_one hown
    have w7 := hc.w7
    have h7 := hc.h7
    have n36 := hc.n36
    clear hp hg hk hc
    go_wp2_with (first | (refine r_alloc 46 _ Tryd.tzero rfl ?_; intro w2 B2 N2; have g2 := N2.gr; have b2 : Blk w2 B2 (tg 0 0 (.slice none 0 0)) 46 := N2.blk; have l2 := N2.lo; have t2 := N2.hi; have z2 := g2.size; have gg := gg.trans g2; clear N2; obtain ⟨b2_0, b2_1, b2_2⟩ := tcells b2) | (refine r_store_row 46 46 _ _ _ rfl (tg _ _ _) _ rfl b2 Tryd.tsize rfl (tg_one hone) rfl ?_; intro w3 u3 b2'; have z3 := u3.size; have gg := u3.gr gg (by omega); clear b2; have b2 := b2'; clear b2'; obtain ⟨b2_0, b2_1, b2_2⟩ := tcells b2) | (refine r_load_row 46 _ _ rfl _ _ _ b2 Tryd.underlying46 rfl Tryd.tinfo rfl ?_))
    have own0 := u3.row (g2.row hown) (own_new hown l2)
    go_loopw [6, 7] (fun ov iv wr => ∃ k : Nat, k ≤ 4 ∧ iv = .int .i64 k ∧ ov = .string (mkS (stL g k)) ∧ Gr w3 wr) (fun _ iv _ => 4 - (intOf iv).toNat)
    case atStart => exact ⟨0, Nat.zero_le _, rfl, rfl, Gr.refl w3⟩
    case round =>
      obtain ⟨k, hk, rfl, rfl, gr⟩ := hrel
      have b2 := gr.blk b2
      have own0 := gr.row own0
      have gg := gg.trans gr
      have hln := stL_length g k
      by_cases hlt : k < 4
      · have hct := HC.out.tilt hlt
        have hst := same_txt HC.out hct w1' h1' w1' h1'
        rw [← HTX.out] at hst
        have hq : ((txtB g.w g.h (tiltG k g).c).toList == s.toList) = sameB g (tiltG k g) := by
          rw [eql_bool, hst, Bool.eq_iff_iff, decide_eq_true_eq, decide_eq_true_eq]
          exact ⟨Eq.symm, Eq.symm⟩
        have HTL := hidI (show (tiltG k g).c.length = nn g.w g.h from hct.len)
        have hsz : (mkS (stL g k)).size ≤ 40 := by rw [mkS_size]; omega
        have hadd := fun w => run_string_add_sum (P := Tryd.prog) w (mkS (stL g k)) ⟨#[dB k]⟩ (by show (mkS (stL g k)).size + 1 ≤ _; omega)
        have HEX := hidI (show (⟨#[117, 114, 100, 108]⟩ : ByteArray).extract k (k + 1) = ⟨#[dB k]⟩ from urdl_at k hlt)
        have hex := HEX.out
        clear hct hst
        obtain ⟨b2_0, b2_1, b2_2⟩ := tcells b2
        go_wp2_with (refine r_load_row 46 _ _ rfl _ _ _ b2 Tryd.underlying46 rfl Tryd.tinfo rfl ?_)
        refine (tiTilt_any g w.heap.size k sl _ HC.out hlt hl own0).mono ?_
        rintro e w4 ⟨g4, s4, rfl, own4⟩
        have gg := gg.trans g4
        have gr := gr.trans g4
        cases hsb : sameB g (tiltG k g)
        · rw [hsb] at hq
          have HST := hidI (show stL g (k + 1) = stL g k from by rw [stL, if_neg (by rw [hsb]; decide)])
          clear hsb
          go_wp2_with (go_at_call 43; refine (tyText_n g.w g.h _ _ (tiltG k g).c _ _ w1' h1' w7 h7 n36 HTL.out rfl own4).mono ?_; rintro e w5 ⟨rfl, g5⟩; have z5 := g5.size; have gg := gg.trans g5)
          go_roundw
          case rel => exact ⟨k + 1, by omega, by go_num, by rw [HST.out], gr.trans g5⟩
          case measure => simp [intOf]; omega
        · rw [hsb] at hq
          have HST := hidI (show mkS (stL g k) ++ ⟨#[dB k]⟩ = mkS (stL g (k + 1)) from by rw [mkS_append, stL, if_pos hsb])
          clear hsb
          go_wp2_with (first | (go_at_call 43; refine (tyText_n g.w g.h _ _ (tiltG k g).c _ _ w1' h1' w7 h7 n36 HTL.out rfl own4).mono ?_; rintro e w5 ⟨rfl, g5⟩; have z5 := g5.size; have gg := gg.trans g5) | (go_at_call 53; refine (tiDirs_any _).mono ?_; rintro e wSame ⟨rfl, rfl⟩))
          go_roundw
          case rel => exact ⟨k + 1, by omega, by go_num, by rw [HST.out], gr.trans g5⟩
          case measure => simp [intOf]; omega
      · obtain rfl : k = 4 := by omega
        clear hlt
        go_wp2
        go_ret2
        exact ⟨fin_sb HV.out.symm HK.out.symm, gg⟩
set_option maxHeartbeats 1000000 in
theorem lawStillWays (s : ByteArray) (w : World) (hm : ML w) : Calls Tryd.prog 6 #[.string s] w (Ret (.bool true) w) := by
  have gg := Gr.refl w
  by_cases hs : 1048576 < s.size
  · go_enter Tryd.func6, Tryd.ntmps6
    go_wp2
    go_ret
    exact ⟨rfl, gg⟩
  · have hs' : s.size ≤ 1048576 := by omega
    clear hs
    go_enter Tryd.func6, Tryd.ntmps6
    go_wp2_with (first | (go_at_call 20; refine (sStillWays s _ hs').mono ?_; rintro e w1 ⟨rfl, g1⟩; have z1 := g1.size; have gg := gg.trans g1) | (go_at_call 21; refine (iStillWays s _ (gg.ml hm) hs').mono ?_; rintro e w2 ⟨rfl, g2⟩; have z2 := g2.size; have gg := gg.trans g2))
    go_ret
    exact ⟨rfl, gg⟩
end Go.Proofs.YtppjlcmfmbpkjaaDoor
