/-
  How many still trays have so many balls: in the program and in the model, and the laws of CountStillWith and CountTilted.
-/
import Derived.Test.YtcjmikafomlbiaaDoorCntC
import Derived.Test.YtcjmikafomlbiaaDoorOps
import Derived.Test.YtcjmikafomlbiaaDoorCallC
namespace Go.Proofs.YtcjmikafomlbiaaDoor
open Go.RowKit
section
variable {P : Program} {w : World} {a : Act} {dst : Option Tmp} {ty : TypeId} {pos : String} {aft : Array Edge} {gd : Option (Nat × Bool)}
theorem e_subN {T yt : TypeId} (x y : Operand) (m n r : Int) (hx : a.eval x = .int .i64 m) (hy : a.eval y = .int .i64 n) (hr : m - n = r) (h : -9223372036854775808 ≤ r ∧ r ≤ 9223372036854775807) :
    (execOp a.eval ⟨dst, .binOp .sub T x y yt, ty, pos, aft, gd⟩).run P w = .ok (.value (.int .i64 r)) w := by
  unfold execOp
  simp only [hx, hy, eqGuard_sub, Sem.run_bind, Sem.run_pure, Result.andThen_ok, run_sub T m n r hr h]
theorem run_minN (ts : Array TypeId) (t : TypeId) (m n : Nat) : (Builtin.min_ ts t #[.int .i64 (m : Int), .int .i64 (n : Int)]).run P w = .ok (.int .i64 ((min m n : Nat) : Int)) w := by
  unfold Builtin.min_
  simp only [List.foldlM_cons, List.foldlM_nil, Builtin.min2, Sem.run_bind, Sem.run_pure, Result.andThen_ok]
  congr 2
  by_cases h : n < m
  · rw [if_pos (by omega), Nat.min_eq_right (by omega)]
  · rw [if_neg (by omega), Nat.min_eq_left (by omega)]
theorem e_minN (T T' : TypeId) (x y : Operand) (m n : Nat) (hx : a.eval x = .int .i64 m) (hy : a.eval y = .int .i64 n) :
    (execOp a.eval ⟨dst, .call { callee := .builtin .min, args := #[x, y], argTypes := #[T, T'] }, ty, pos, aft, gd⟩).run P w = .ok (.value (.int .i64 ((min m n : Nat) : Int))) w := by
  unfold execOp
  simp only [resolve, invoke, builtin, Sem.run_bind, Sem.run_pure, Result.andThen_ok, List.map_toArray, List.map_cons, List.map_nil, hx, hy, run_minN]
end
theorem wrI_zero (n : Nat) : wrI (fun _ => 0) n = (List.range n).map fun _ => (0 : Int) := by
  unfold wrI
  exact List.map_congr_left fun i _ => by show wrap64 ((0 : Nat) : Int) = 0; unfold wrap64; omega
theorem own_zerosW {w w1 : World} {B n : Nat} {T : TypeId} (N : New w w1 B (madeCells (Value.int .i64 0).cells (n * 1)) T) (hn : n ≤ 1073741824) : w1.ownsRow w.heap.size T 1 (.slice (some ⟨B, 0, none⟩) n n) n (intsV (wrI (fun _ => 0) n)) := by
  rw [wrI_zero]
  refine ⟨by simp [intsV], .inr ⟨B, n, _, rfl, N.lo, N.blk, Nat.le_refl _, by unfold maxLen; omega, size_madeCells _ _, ?_⟩⟩
  apply List.ext_getElem?
  intro i
  by_cases hi : i < n
  · rw [List.getElem?_take, if_pos (by omega)]
    unfold madeCells intsV
    simp [hi]
    have e : (Value.int .i64 0).cells = #[Value.int .i64 0] := rfl
    rw [e]
    simp [Nat.mod_one]
  · rw [List.getElem?_eq_none (by simp; omega), List.getElem?_eq_none (by simp [intsV]; omega)]
theorem own_wr {w : World} {base G n cap : Nat} {e : TypeId} {f : Nat → Nat} (h : w.ownsRow base e 1 (.slice (some ⟨G, 0, none⟩) n cap) n (intsV (wrI f n))) {j : Nat} (hj : j < n) : w.cell? ⟨G, j, none⟩ = some (.int .i64 (wrap64 (f j : Nat))) := by
  rw [own_int h j hj (wrI_length _ _).symm, wrI_gi f hj]
theorem wr_setV (f : Nat → Nat) (n i x : Nat) : (intsV (wrI f n)).set i (.int .i64 (wrap64 (x : Nat))) = intsV (wrI (fun j => if j = i then x else f j) n) := by rw [intsV_set, wrI_set]
theorem wr_init (L : List Nat) (n : Nat) : (intsV (wrI (fun _ => 0) n)).set 0 (.int .i64 1) = intsV (wrI (swS L 0) n) := by
  have := wr_setV (fun _ => 0) n 0 1
  rw [show wrap64 ((1 : Nat) : Int) = 1 from by unfold wrap64; omega] at this
  rw [this]
  rfl
theorem wr_add (a b : Nat) : wrap64 (wrap64 ((a : Nat) : Int) + wrap64 ((b : Nat) : Int)) = wrap64 ((a + b : Nat) : Int) := by rw [wrap_add, Int.natCast_add]
def lensL (L : List (List Nat)) : List Nat := L.map List.length
theorem lensL_get {L : List (List Nat)} {k : Nat} {s : List Nat} (h : L[k]? = some s) : (lensL L).getD k 0 = s.length := by
  unfold lensL
  rw [List.getD_eq_getElem?_getD, List.getElem?_map, h]; rfl
def swV (l : List UInt8) (dir : ByteArray) (b : Int) : Int := if slOk l dir b then wrap64 ((swS (lensL (strL (rdG l).w (rdG l).h (rdG l).c (dS dir).toNat)) (strL (rdG l).w (rdG l).h (rdG l).c (dS dir).toNat).length b.toNat : Nat) : Int) else 0
theorem swV_no {l : List UInt8} {dir : ByteArray} {b : Int} (h : slOk l dir b = false) : swV l dir b = 0 := by unfold swV; rw [h]; rfl
theorem swV_yes {l : List UInt8} {dir : ByteArray} {g : Grid} {n d : Nat} (hy : slOk l dir n = true) (hg : rdG l = g) (hd : dS dir = (d : Nat)) : swV l dir n = wrap64 ((swS (lensL (strL g.w g.h g.c d)) (strL g.w g.h g.c d).length n : Nat) : Int) := by unfold swV; rw [if_pos hy, hg, hd, Int.toNat_natCast, Int.toNat_natCast]
theorem Tryd.nsixN (B n cap x : Nat) (hx : x < n) (w : World) : (Instr.indexAt 45 (.slice (some ⟨B, 0, none⟩) n cap) (.int .i64 x)).run Tryd.prog w = .ok (.pointer (some ⟨B, x, none⟩)) w := by
  have hu : Tryd.prog.underlying 45 = some (.slice (Tryd.prog.elem 45)) := by kernel_rfl
  have he : Tryd.prog.elem 45 = 3 := by kernel_rfl
  rw [run_indexAt_slice w 45 ⟨B, 0, none⟩ n cap .i64 x hu, if_pos (by omega), he]
  simp [Tryd.sizeOf3, Result.andThen, Addr.add]
  exact fun h => h.symm
theorem Tryd.nsixN0 (B n cap : Nat) (hx : 0 < n) (w : World) : (Instr.indexAt 45 (.slice (some ⟨B, 0, none⟩) n cap) (.int .i64 0)).run Tryd.prog w = .ok (.pointer (some ⟨B, 0, none⟩)) w := Tryd.nsixN B n cap 0 hx w
set_option maxHeartbeats 4000000 in
set_option maxRecDepth 100000 in
theorem iCountStillWith (s dir : ByteArray) (b : Int) (w : World) (hm : ML w) (hs : s.size ≤ 1048576) : Calls Tryd.prog 13 #[.string s, .string dir, .int .i64 b] w (Ret (.tuple #[.int .i64 (swV s.data.toList dir b), .bool (slOk s.data.toList dir b)]) w) := by
  have gg := Gr.refl w
  rcases sl_cases s.data.toList dir b with ⟨hn, ⟨hr, hG⟩ | ⟨hr, ⟨g, hG⟩, hd⟩⟩ | ⟨g, n, d, hp, hg, hr, hG, rfl, hnF, h4, e1, e2, hdo, hy⟩
  · have HR := hidI hr
    have HG := hidI hG
    have HN := hidI hn
    have HV := hidI (swV_no hn)
    clear hr hG hn
    go_enter Tryd.func13, Tryd.ntmps13
    go_wp2_with (first | (go_at_call 21; refine (readRoom_any s b _ (gg.ml hm) hs).mono ?_; rintro e w1 ⟨rfl, g1⟩; rw [HR.out, HG.out, gvG]; have z1 := g1.size; have gg := gg.trans g1) | (refine r_alloc 38 _ Tryd.gzero rfl ?_; intro w2 B2 N2; have g2 := N2.gr; have b2 : Blk w2 B2 (gv 0 0 []) 38 := N2.blk; have l2 := N2.lo; have t2 := N2.hi; have z2 := g2.size; have gg := gg.trans g2; clear N2; obtain ⟨b2_0, b2_1, b2_2⟩ := gcells b2) | (refine r_store_row 38 38 _ _ _ rfl (gv 0 0 []) _ rfl b2 (Tryd.gsize' _ _ _) (by simp only [gv_size]) (gv_one _ _ _) rfl ?_; intro w3 u3 b2'; have z3 := u3.size; have gg := u3.gr gg (by omega); clear b2; have b2 := b2'; clear b2'; obtain ⟨b2_0, b2_1, b2_2⟩ := gcells b2))
    go_ret2
    exact ⟨fin_ibN HV.out.symm HN.out.symm, gg⟩
  · have HR := hidI hr
    have HG := hidI hG
    have HN := hidI hn
    have HD := hidI hd
    have HV := hidI (swV_no hn)
    clear hr hG hn hd
    go_enter Tryd.func13, Tryd.ntmps13
    go_wp2_with (first | (go_at_call 21; refine (readRoom_any s b _ (gg.ml hm) hs).mono ?_; rintro e w1 ⟨rfl, g1⟩; rw [HR.out, HG.out, gvG]; have z1 := g1.size; have gg := gg.trans g1) | (refine r_alloc 38 _ Tryd.gzero rfl ?_; intro w2 B2 N2; have g2 := N2.gr; have b2 : Blk w2 B2 (gv 0 0 []) 38 := N2.blk; have l2 := N2.lo; have t2 := N2.hi; have z2 := g2.size; have gg := gg.trans g2; clear N2; obtain ⟨b2_0, b2_1, b2_2⟩ := gcells b2) | (refine r_store_row 38 38 _ _ _ rfl (gv g.w g.h g.c) _ rfl b2 (Tryd.gsize' _ _ _) (by simp only [gv_size]) (gv_one _ _ _) rfl ?_; intro w3 u3 b2'; have z3 := u3.size; have gg := u3.gr gg (by omega); clear b2; have b2 := b2'; clear b2'; obtain ⟨b2_0, b2_1, b2_2⟩ := gcells b2) | (go_at_call 26; refine (isDirection_any _ _).mono ?_; rintro e wSame ⟨rfl, rfl⟩; rw [HD.out]))
    go_ret2
    exact ⟨fin_ibN HV.out.symm HN.out.symm, gg⟩
  · obtain ⟨hc, w1', h1', hl⟩ := cel_of hp
    have hF36 := frN_le hp
    have HR := hidI hr
    have HG := hidI hG
    have HY := hidI hy
    have HDO := hidI hdo
    have hv := swV_yes hy hg e2
    have w7 := hc.w7
    have h7 := hc.h7
    have n36 := hc.n36
    have hsm := (hc.strs h4).small
    have HS7 := hidI (fun st hst => ((hc.strs h4).len7 st hst))
    have HST := hidI (fun w => stretches_any g.w g.h d g.c w h4 w7 h7 n36 hc.len hc.cells)
    obtain ⟨L, hL⟩ : ∃ L, L = strL g.w g.h g.c d := ⟨_, rfl⟩
    rw [← hL] at hv hsm HST HS7
    have HV := hidI hv
    have hn36 : n ≤ 36 := by omega
    obtain ⟨m, hm1⟩ : ∃ m, m = n + 1 := ⟨_, rfl⟩
    have HM := hidI (show (n : Int) + 1 = (m : Int) by omega)
    have HMN := hidI hm1
    have hm37 : m ≤ 37 := by omega
    have hnm : n < m := by omega
    have h0m : 0 < m := by omega
    have HI := hidI (wr_init (lensL L) m)
    subst e1
    clear hp hg hr hG e2 hdo hc hl hy hv hL hnF hF36 hm1
    go_enter Tryd.func13, Tryd.ntmps13
    go_wp2_with (first | (go_at_call 21; refine (readRoom_any s n _ (gg.ml hm) hs).mono ?_; rintro e w1 ⟨rfl, g1⟩; rw [HR.out, HG.out, gvG]; have z1 := g1.size; have gg := gg.trans g1) | (refine r_alloc 38 _ Tryd.gzero rfl ?_; intro w2 B2 N2; have g2 := N2.gr; have b2 : Blk w2 B2 (gv 0 0 []) 38 := N2.blk; have l2 := N2.lo; have t2 := N2.hi; have z2 := g2.size; have gg := gg.trans g2; clear N2; obtain ⟨b2_0, b2_1, b2_2⟩ := gcells b2) | (refine r_store_row 38 38 _ _ _ rfl (gv g.w g.h g.c) _ rfl b2 (Tryd.gsize' _ _ _) (by simp only [gv_size]) (gv_one _ _ _) rfl ?_; intro w3 u3 b2'; have z3 := u3.size; have gg := u3.gr gg (by omega); clear b2; have b2 := b2'; clear b2'; obtain ⟨b2_0, b2_1, b2_2⟩ := gcells b2) | (go_at_call 26; refine (isDirection_any _ _).mono ?_; rintro e wSame ⟨rfl, rfl⟩; rw [HDO.out]) | (refine r_val (.int .i64 (m : Int)) (e_add _ _ (n : Int) 1 (m : Int) rfl rfl HM.out (by omega)) rfl ?_) | (refine r_make 45 3 _ _ _ Tryd.intsI (.tmp 29) (.tmp 29) m rfl rfl (by omega) (by omega) (by omega) rfl ?_; intro w4 G N4; have row := own_zerosW N4 (by omega); have g4 := N4.gr; have b2 := g4.blk b2; have loG := N4.lo; have hiG := N4.hi; have z4 := g4.size; have gg := gg.trans g4; clear N4) | (refine r_idx 45 _ _ (.slice (some ⟨G, 0, none⟩) m m) (.int .i64 0) _ rfl rfl (Tryd.nsixN0 G m m h0m _) rfl ?_) | (refine r_store_own 3 3 _ _ G 0 m m _ _ rfl (.int .i64 1) rfl row h0m Tryd.sizeOf3 rfl rfl ?_; intro w5 u5 row5; rw [HI.out] at row5; have b2 := u5.blk b2 (by omega); have gg := u5.gr gg (by omega); have z5 := u5.size))
    have gd := (Gr.refl w5).drew
    have b2 := gd.blk b2
    have row := gd.row row5
    have gg := gg.trans gd
    have zd := gd.size
    refine F_begin (fun w => Blk w B2 (gv g.w g.h g.c) 38) 3 6 #[false, false, false, false, false, false] rfl (by kernel_rfl) (by kernel_rfl) ?_
    generalize w5.drew = wd at *
    refine F_take (v := .agg (gv g.w g.h g.c)) 0 #[true, false, false, false, false, false] rfl (by kernel_rfl) (fun _ _ _ h => h) rfl (fun w hF => e_load_row 38 (.tmp 8) B2 _ _ _ rfl hF Tryd.underlying38 rfl (Tryd.ginfo' _ _ _)) (b2) ?_; simp only [Act.put, List.setIfInBounds_toArray, List.set_cons_succ, List.set_cons_zero]
    refine F_free (v := .string ⟨#[dB d]⟩) 1 #[true, true, false, false, false, false] rfl (by kernel_rfl) (fun _ _ _ h => h) rfl (fun _ => rfl) (b2) ?_; simp only [Act.put, List.setIfInBounds_toArray, List.set_cons_succ, List.set_cons_zero]
    refine F_free (v := .int .u8 (dB d).toNat) 2 #[true, true, true, false, false, false] rfl (by kernel_rfl) (fun _ _ _ h => h) rfl (fun _ => e_val _ _ (s_idx0 Tryd.underlying9 (dB d) _)) (b2) ?_; simp only [Act.put, List.setIfInBounds_toArray, List.set_cons_succ, List.set_cons_zero]
    refine F_free (v := .int .i64 0) 5 #[true, true, true, false, false, true] rfl (by kernel_rfl) (fun _ _ _ h => h) rfl (fun _ => rfl) (b2) ?_; simp only [Act.put, List.setIfInBounds_toArray, List.set_cons_succ, List.set_cons_zero]
    refine F_one 3 #[true, true, true, true, false, true] rfl (by kernel_rfl) ?_
    refine r_callx 27 [.tmp 33, .tmp 35] _ [.agg (gv g.w g.h g.c), .int .u8 (dB d).toNat] (fun v w' => Gr wd w' ∧ ∃ vs, w'.ownsRow wd.heap.size 45 1 v (zzz L).length vs ∧ RowsK 3 wd.heap.size (zzz L) 1 0 vs w') Tryd.call27 rfl rfl ((HST.out wd).mono (fun e w' ⟨h1, v, vs, h2, h3, h4⟩ => ⟨v, h2, h1, vs, h3, h4⟩)) ?_
    rintro v6 w6 ⟨g6, vs, own, R⟩
    rw [zzz_length] at own
    obtain ⟨p6, n6, k6, rfl⟩ := own_slice own
    obtain rfl : n6 = L.length := own_len own
    have b2 := g6.blk b2
    have row := g6.row row
    have gg := gg.trans g6
    have z6 := g6.size
    refine ⟨fun _ => b2, ?_⟩
    simp only [Act.put, List.setIfInBounds_toArray, List.set_cons_succ, List.set_cons_zero]
    refine F_one 4 #[true, true, true, true, true, true] rfl (by kernel_rfl) ?_
    refine r_val (.int .i64 L.length) (e_lenN 43 45 _ _ _ _ rfl Tryd.underlying43) rfl ?_
    refine ⟨fun _ => b2, ?_⟩
    simp only [Act.put, List.setIfInBounds_toArray, List.set_cons_succ, List.set_cons_zero]
    refine F_done (by kernel_rfl) ?_
    have hGd : G < wd.heap.size := by omega
    have loG' : w.heap.size ≤ G := by omega
    clear u5 row5 g6 gd b2 z6 zd z5
    go_wp2
    go_loopw [38] (fun iv wr => ∃ k : Nat, k ≤ L.length ∧ iv = .int .i64 k ∧ wr.ownsRow w3.heap.size 3 1 (.slice (some ⟨G, 0, none⟩) m m) m (intsV (wrI (swS (lensL L) k) m)) ∧ Upd G w6 wr) (fun iv _ => L.length - (intOf iv).toNat)
    case atStart => exact ⟨0, Nat.zero_le _, rfl, row, Upd.refl _ _⟩
    case round =>
      obtain ⟨k, hk, rfl, row, uu⟩ := hrel
      by_cases hlt : k < L.length
      · obtain ⟨st, hst⟩ : ∃ st, L[k]? = some st := ⟨L[k], List.getElem?_eq_getElem hlt⟩
        obtain ⟨v, hv, ov⟩ := R.get hst
        have own := uu.row own (fun h => by have := (own.lt _ h).1; omega)
        have ov := uu.row ov (fun h => by have := (ov.lt _ h).1; omega)
        obtain ⟨g1', c1', e1', -, -⟩ := own_shape own (by omega)
        cases e1'
        have hcv := own_val own k v hlt hv
        obtain ⟨hs1, hs7⟩ := HS7.out st (List.mem_of_getElem? hst)
        have HLG := hidI (lensL_get hst)
        obtain ⟨pv, nv, kv, rfl⟩ := own_slice ov
        obtain rfl : nv = st.length := own_len ov
        have hix := Tryd.ssix g1' L.length k6 k hlt
        obtain ⟨len, hlen⟩ : ∃ len, len = st.length := ⟨_, rfl⟩
        rw [← hlen] at hs1 hs7 HLG hcv
        clear hst hv ov own hlen
        have rowS : wr.ownsRow w3.heap.size 3 1 (.slice (some ⟨G, 0, none⟩) m m) m (intsV (wrI (swI (lensL L) k n 0) m)) := by
          rw [wrI_congr (g := swS (lensL L) k) (fun i hi => swI_start (lensL L) k n i (by rw [← HMN.out]; exact hi))]
          exact row
        go_wp2
        obtain ⟨wo, hwo⟩ : ∃ wo, wo = wr := ⟨_, rfl⟩
        rw [← hwo] at uu row rowS hcv
        have uo : Upd G w6 wr := by rw [← hwo]; exact uu
        have rowS' : wr.ownsRow w3.heap.size 3 1 (.slice (some ⟨G, 0, none⟩) m m) m (intsV (wrI (swI (lensL L) k n 0) m)) := by rw [← hwo]; exact rowS
        clear row rowS hcv
        go_loopw [13] (fun jv wi => ∃ q : Nat, q ≤ n ∧ jv = .int .i64 q ∧ wi.ownsRow w3.heap.size 3 1 (.slice (some ⟨G, 0, none⟩) m m) m (intsV (wrI (swI (lensL L) k q 0) m)) ∧ Upd G w6 wi) (fun jv _ => (intOf jv).toNat)
        case atStart => exact ⟨n, Nat.le_refl _, rfl, rowS', uo⟩
        case round =>
          clear uo rowS' hwo
          obtain ⟨q, hq, rfl, row, uu⟩ := hrel
          by_cases hq0 : 0 < q
          · obtain ⟨μ, hμ⟩ : ∃ μ, μ = min q len := ⟨_, rfl⟩
            have HMU := hidI hμ
            have hμ7 : μ ≤ q := by omega
            have HE := hidI (show ∀ i, i < m → swI (lensL L) k q μ i = swI (lensL L) k (q - 1) 0 i from fun i _ => by rw [hμ, ← HLG.out]; exact swI_done hq0 i)
            clear hμ
            go_wp2_with (first | (refine r_val (.int .i64 (μ : Int)) (by rw [HMU.out]; exact e_minN _ _ _ _ q len rfl rfl) rfl ?_))
            obtain ⟨wp, hwp⟩ : ∃ wp, wp = wr := ⟨_, rfl⟩
            rw [← hwp] at uu row
            have uo : Upd G w6 wr := by rw [← hwp]; exact uu
            have rowS' : wr.ownsRow w3.heap.size 3 1 (.slice (some ⟨G, 0, none⟩) m m) m (intsV (wrI (swI (lensL L) k q 0) m)) := by rw [← hwp]; exact row
            clear row
            go_loopw [51] (fun rv wj => ∃ r : Nat, r ≤ μ ∧ rv = .int .i64 r ∧ wj.ownsRow w3.heap.size 3 1 (.slice (some ⟨G, 0, none⟩) m m) m (intsV (wrI (swI (lensL L) k q r) m)) ∧ Upd G w6 wj) (fun rv _ => μ - (intOf rv).toNat)
            case atStart => exact ⟨0, Nat.zero_le _, rfl, rowS', uo⟩
            case round =>
              clear uo rowS' hwp
              obtain ⟨r, hr, rfl, row, uu⟩ := hrel
              by_cases hrl : r < μ
              · have hqm : q < m := by omega
                have hpm : q - r - 1 < m := by omega
                have c1 := own_wr row hqm
                have c2 := own_wr row hpm
                obtain ⟨p1, hp1⟩ : ∃ p1, p1 = q - r := ⟨_, rfl⟩
                obtain ⟨p2, hp2⟩ : ∃ p2, p2 = q - r - 1 := ⟨_, rfl⟩
                rw [← hp2] at c2 hpm
                have HP1 := hidI (show (q : Int) - (r : Int) = (p1 : Int) by omega)
                have HP2 := hidI (show (p1 : Int) - 1 = (p2 : Int) by omega)
                have HSUM := hidI (wr_add (swI (lensL L) k q r q) (swI (lensL L) k q r p2))
                have HSET := hidI (show (intsV (wrI (swI (lensL L) k q r) m)).set q (.int .i64 (wrap64 ((swI (lensL L) k q r q + swI (lensL L) k q r p2 : Nat) : Int))) = intsV (wrI (swI (lensL L) k q (r + 1)) m) from by
                  rw [wr_setV, hp2]
                  congr 1
                  exact wrI_congr fun i _ => swI_step (lensL L) k q r (by omega) i)
                obtain ⟨x1, hx1⟩ : ∃ x1, x1 = wrap64 ((swI (lensL L) k q r q : Nat) : Int) := ⟨_, rfl⟩
                obtain ⟨x2, hx2⟩ : ∃ x2, x2 = wrap64 ((swI (lensL L) k q r p2 : Nat) : Int) := ⟨_, rfl⟩
                rw [← hx1] at c1 HSUM
                rw [← hx2] at c2 HSUM
                have hp1b : p1 ≤ 36 := by omega
                clear hp1 hp2 hx1 hx2
                go_wp2
                have gd := (Gr.refl wr).drew
                have c1 := gd.cell c1
                have c2 := gd.cell c2
                have row := gd.row row
                have uu := uu.trans (Upd.drew' G wr)
                refine F_begin (fun w => w.cell? ⟨G, q, none⟩ = some (.int .i64 x1) ∧ w.cell? ⟨G, p2, none⟩ = some (.int .i64 x2)) 13 14 #[false, false, false, false, false, false, false, false, false, false, false, false, false, false] rfl (by kernel_rfl) (by kernel_rfl) ?_
                generalize wr.drew = wd2 at *
                have hFF := And.intro c1 c2
                refine F_free (v := .slice (some ⟨G, 0, none⟩) m m) 0 #[true, false, false, false, false, false, false, false, false, false, false, false, false, false] rfl (by kernel_rfl) (fun _ _ _ h => h) rfl (fun _ => rfl) (hFF) ?_; simp only [Act.put, List.setIfInBounds_toArray, List.set_cons_succ, List.set_cons_zero]
                refine F_free (v := .int .i64 q) 1 #[true, true, false, false, false, false, false, false, false, false, false, false, false, false] rfl (by kernel_rfl) (fun _ _ _ h => h) rfl (fun _ => rfl) (hFF) ?_; simp only [Act.put, List.setIfInBounds_toArray, List.set_cons_succ, List.set_cons_zero]
                refine F_free (v := .pointer (some ⟨G, q, none⟩)) 2 #[true, true, true, false, false, false, false, false, false, false, false, false, false, false] rfl (by kernel_rfl) (fun _ _ _ h => h) rfl (fun _ => e_val _ _ (Tryd.nsixN G m m q hqm _)) (hFF) ?_; simp only [Act.put, List.setIfInBounds_toArray, List.set_cons_succ, List.set_cons_zero]
                refine F_take (v := .int .i64 x1) 3 #[true, true, true, true, false, false, false, false, false, false, false, false, false, false] rfl (by kernel_rfl) (fun _ _ _ h => h) rfl (fun w hF => e_load 3 (.tmp 56) ⟨G, q, none⟩ (.int .i64 x1) rfl (Tryd.isAgg3 _) hF.1) (hFF) ?_; simp only [Act.put, List.setIfInBounds_toArray, List.set_cons_succ, List.set_cons_zero]
                refine F_free (v := .slice (some ⟨G, 0, none⟩) m m) 4 #[true, true, true, true, true, false, false, false, false, false, false, false, false, false] rfl (by kernel_rfl) (fun _ _ _ h => h) rfl (fun _ => rfl) (hFF) ?_; simp only [Act.put, List.setIfInBounds_toArray, List.set_cons_succ, List.set_cons_zero]
                refine F_free (v := .int .i64 q) 5 #[true, true, true, true, true, true, false, false, false, false, false, false, false, false] rfl (by kernel_rfl) (fun _ _ _ h => h) rfl (fun _ => rfl) (hFF) ?_; simp only [Act.put, List.setIfInBounds_toArray, List.set_cons_succ, List.set_cons_zero]
                refine F_free (v := .int .i64 r) 6 #[true, true, true, true, true, true, true, false, false, false, false, false, false, false] rfl (by kernel_rfl) (fun _ _ _ h => h) rfl (fun _ => rfl) (hFF) ?_; simp only [Act.put, List.setIfInBounds_toArray, List.set_cons_succ, List.set_cons_zero]
                refine F_free (v := .int .i64 p1) 7 #[true, true, true, true, true, true, true, true, false, false, false, false, false, false] rfl (by kernel_rfl) (fun _ _ _ h => h) rfl (fun _ => e_subN _ _ (q : Int) (r : Int) (p1 : Int) rfl rfl HP1.out (by omega)) (hFF) ?_; simp only [Act.put, List.setIfInBounds_toArray, List.set_cons_succ, List.set_cons_zero]
                refine F_free (v := .int .i64 p2) 8 #[true, true, true, true, true, true, true, true, true, false, false, false, false, false] rfl (by kernel_rfl) (fun _ _ _ h => h) rfl (fun _ => e_subN _ _ (p1 : Int) 1 (p2 : Int) rfl rfl HP2.out (by omega)) (hFF) ?_; simp only [Act.put, List.setIfInBounds_toArray, List.set_cons_succ, List.set_cons_zero]
                refine F_free (v := .pointer (some ⟨G, p2, none⟩)) 9 #[true, true, true, true, true, true, true, true, true, true, false, false, false, false] rfl (by kernel_rfl) (fun _ _ _ h => h) rfl (fun _ => e_val _ _ (Tryd.nsixN G m m p2 hpm _)) (hFF) ?_; simp only [Act.put, List.setIfInBounds_toArray, List.set_cons_succ, List.set_cons_zero]
                refine F_take (v := .int .i64 x2) 10 #[true, true, true, true, true, true, true, true, true, true, true, false, false, false] rfl (by kernel_rfl) (fun _ _ _ h => h) rfl (fun w hF => e_load 3 (.tmp 63) ⟨G, p2, none⟩ (.int .i64 x2) rfl (Tryd.isAgg3 _) hF.2) (hFF) ?_; simp only [Act.put, List.setIfInBounds_toArray, List.set_cons_succ, List.set_cons_zero]
                refine F_free (v := .int .i64 (wrap64 (x1 + x2))) 11 #[true, true, true, true, true, true, true, true, true, true, true, true, false, false] rfl (by kernel_rfl) (fun _ _ _ h => h) rfl (fun _ => e_addw _ _ x1 x2 rfl rfl) (hFF) ?_; simp only [Act.put, List.setIfInBounds_toArray, List.set_cons_succ, List.set_cons_zero]
                refine F_free (v := .pointer (some ⟨G, q, none⟩)) 12 #[true, true, true, true, true, true, true, true, true, true, true, true, true, false] rfl (by kernel_rfl) (fun _ _ _ h => h) rfl (fun _ => e_val _ _ (Tryd.nsixN G m m q hqm _)) (hFF) ?_; simp only [Act.put, List.setIfInBounds_toArray, List.set_cons_succ, List.set_cons_zero]
                refine F_one 13 #[true, true, true, true, true, true, true, true, true, true, true, true, true, true] rfl (by kernel_rfl) ?_
                refine r_store_own 3 3 _ _ G q m m _ _ rfl (.int .i64 (wrap64 (x1 + x2))) rfl row hqm Tryd.sizeOf3 rfl rfl ?_
                intro w9 u9 row9
                rw [HSUM.out, HSET.out] at row9
                have uu := uu.trans u9
                refine ⟨fun h => (by cases h), ?_⟩
                simp only [Act.put]
                refine F_done (by kernel_rfl) ?_
                go_wp2
                go_roundw
                case rel => exact ⟨r + 1, by omega, by go_num, row9, uu⟩
                case measure => simp [intOf]; omega
              · obtain rfl : r = μ := by omega
                have row : wr.ownsRow w3.heap.size 3 1 (.slice (some ⟨G, 0, none⟩) m m) m (intsV (wrI (swI (lensL L) k (q - 1) 0) m)) := by
                  rw [← wrI_congr HE.out]; exact row
                clear hrl HE
                have HQ := hidI (show (q : Int) - 1 = ((q - 1 : Nat) : Int) by omega)
                go_wp2_with (refine r_val (.int .i64 ((q - 1 : Nat) : Int)) (e_subN _ _ (q : Int) 1 ((q - 1 : Nat) : Int) rfl rfl HQ.out (by omega)) rfl ?_)
                go_roundw
                case rel => exact ⟨q - 1, by omega, rfl, row, uu⟩
                case measure => simp [intOf]; omega
          · obtain rfl : q = 0 := by omega
            have row : wr.ownsRow w3.heap.size 3 1 (.slice (some ⟨G, 0, none⟩) m m) m (intsV (wrI (swS (lensL L) (k + 1)) m)) := by
              rw [← wrI_congr (fun i _ => swI_last (lensL L) k i)]; exact row
            clear hq0
            go_wp2
            go_roundw
            case rel => exact ⟨k + 1, by omega, by go_num, row, uu⟩
            case measure => simp [intOf]; omega
      · obtain rfl : k = L.length := by omega
        have c1 := own_wr row hnm
        clear hlt
        go_wp2_with (refine r_idx 45 _ _ (.slice (some ⟨G, 0, none⟩) m m) (.int .i64 n) _ rfl rfl (Tryd.nsixN G m m n hnm _) rfl ?_)
        go_ret2
        exact ⟨fin_ibN HV.out.symm HY.out.symm, uu.gr gg loG'⟩
set_option maxHeartbeats 1000000 in
set_option maxRecDepth 100000 in
theorem iCountTilted (s dir : ByteArray) (b : Int) (w : World) (hm : ML w) (hs : s.size ≤ 1048576) : Calls Tryd.prog 15 #[.string s, .string dir, .int .i64 b] w (Ret (.tuple #[.int .i64 (swV s.data.toList dir b), .bool (slOk s.data.toList dir b)]) w) := by
  have gg := Gr.refl w
  go_enter Tryd.func15, Tryd.ntmps15
  go_wp2_with (go_at_call 13; refine (iCountStillWith s dir b _ (gg.ml hm) hs).mono ?_; rintro e w1 ⟨rfl, g1⟩; have z1 := g1.size; have gg := gg.trans g1)
  go_ret2
  exact ⟨rfl, gg⟩
end Go.Proofs.YtcjmikafomlbiaaDoor
