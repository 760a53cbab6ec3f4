/-
  How many trays are still in a direction: in the program and in the model, and the law of CountStill.
-/
import Derived.Test.YtcjmikafomlbiaaDoorCntB
namespace Go.Proofs.YtcjmikafomlbiaaDoor
open Go.RowKit
section
variable {P : Program} {w : World} {a : Act} {dst : Option Tmp} {ty : TypeId} {pos : String} {aft : Array Edge} {gd : Option (Nat × Bool)}
theorem e_lenN (T e : TypeId) (x : Operand) (A : Option Addr) (n c : Nat) (hx : a.eval x = .slice A n c) (hu : P.underlying T = some (.slice e)) :
    (execOp a.eval ⟨dst, .call { callee := .builtin .len, args := #[x], argTypes := #[T] }, ty, pos, aft, gd⟩).run P w = .ok (.value (.int .i64 n)) w := by
  have he : P.elem T = e := by unfold Program.elem; simp [hu]
  unfold execOp
  simp only [resolve, invoke, builtin, Sem.run_bind, Sem.run_pure, Result.andThen_ok, List.map_toArray, List.map_cons, List.map_nil, hx, run_len_slice (P := P) w T ty A n c (by rw [he]; exact hu)]
  rfl
end
theorem csP_next {L : List (List Nat)} {k : Nat} {s : List Nat} (h : L[k]? = some s) : csP L (k + 1) = wrap64 (csP L k * ((s.length : Int) + 1)) := by
  rw [csP_succ h, Int.natCast_add]; rfl
def slOk (l : List UInt8) (dir : ByteArray) (b : Int) : Bool := rmOk l b && dirOk dir
theorem br_rm (l : List UInt8) : rmOk l 0 = brOk l := by
  unfold rmOk
  rw [show btw 0 0 (frN (rdG l)) = true from by unfold btw; simp, Bool.and_true]
theorem sl_cases (l : List UInt8) (dir : ByteArray) (b : Int) : (slOk l dir b = false ∧ ((rmOk l b = false ∧ rmG l b = ⟨0, 0, []⟩) ∨ (rmOk l b = true ∧ (∃ g, rmG l b = g) ∧ dirOk dir = false))) ∨
    ∃ (g : Grid) (n d : Nat), parse l = some g ∧ rdG l = g ∧ rmOk l b = true ∧ rmG l b = g ∧ b = n ∧ n ≤ frN g ∧ d < 4 ∧ dir = ⟨#[dB d]⟩ ∧ dS dir = ((d : Nat) : Int) ∧ dirOk dir = true ∧ slOk l dir b = true := by
  unfold slOk
  rcases rm_cases l b with ⟨hr, hG, -⟩ | ⟨g, n, hp, hg, -, -, hb, hn, hr, hG⟩
  · exact .inl ⟨by rw [hr]; rfl, .inl ⟨hr, hG⟩⟩
  · cases hd : dirOk dir
    · exact .inl ⟨by rw [Bool.and_false], .inr ⟨hr, ⟨g, hG⟩, rfl⟩⟩
    · obtain ⟨d, h4, e1, e2⟩ := dir_yes hd
      exact .inr ⟨g, n, d, hp, hg, hr, hG, hb, hn, h4, e1, e2, rfl, by rw [hr]; rfl⟩
def csV (l : List UInt8) (dir : ByteArray) : Int := if slOk l dir 0 then csP (strL (rdG l).w (rdG l).h (rdG l).c (dS dir).toNat) (strL (rdG l).w (rdG l).h (rdG l).c (dS dir).toNat).length else 0
theorem csV_no {l : List UInt8} {dir : ByteArray} (h : slOk l dir 0 = false) : csV l dir = 0 := by unfold csV; rw [h]; rfl
theorem csV_yes {l : List UInt8} {dir : ByteArray} {g : Grid} {d : Nat} (hy : slOk l dir 0 = true) (hg : rdG l = g) (hd : dS dir = (d : Nat)) : csV l dir = csP (strL g.w g.h g.c d) (strL g.w g.h g.c d).length := by unfold csV; rw [hy, hg, hd]; rfl
set_option maxHeartbeats 2000000 in
set_option maxRecDepth 100000 in
theorem iCountStill (s dir : ByteArray) (w : World) (hm : ML w) (hs : s.size ≤ 1048576) : Calls Tryd.prog 11 #[.string s, .string dir] w (Ret (.tuple #[.int .i64 (csV s.data.toList dir), .bool (slOk s.data.toList dir 0)]) w) := by
  have gg := Gr.refl w
  rcases sl_cases s.data.toList dir 0 with ⟨hn, ⟨hr, hG⟩ | ⟨hr, ⟨g, hG⟩, hd⟩⟩ | ⟨g, n, d, hp, hg, hr, hG, -, -, h4, e1, e2, hdo, hy⟩
  · have HR := hidI hr
    have HG := hidI hG
    have HN := hidI hn
    have HV := hidI (csV_no hn)
    clear hr hG hn
    go_enter Tryd.func11, Tryd.ntmps11
    go_wp2_with (first | (go_at_call 21; refine (readRoom_any s 0 _ (gg.ml hm) hs).mono ?_; rintro e w1 ⟨rfl, g1⟩; rw [HR.out, HG.out, gvG]; have z1 := g1.size; have gg := gg.trans g1) | (refine r_alloc 38 _ Tryd.gzero rfl ?_; intro w2 B2 N2; have g2 := N2.gr; have b2 : Blk w2 B2 (gv 0 0 []) 38 := N2.blk; have l2 := N2.lo; have t2 := N2.hi; have z2 := g2.size; have gg := gg.trans g2; clear N2; obtain ⟨b2_0, b2_1, b2_2⟩ := gcells b2) | (refine r_store_row 38 38 _ _ _ rfl (gv 0 0 []) _ rfl b2 (Tryd.gsize' _ _ _) (by simp only [gv_size]) (gv_one _ _ _) rfl ?_; intro w3 u3 b2'; have z3 := u3.size; have gg := u3.gr gg (by omega); clear b2; have b2 := b2'; clear b2'; obtain ⟨b2_0, b2_1, b2_2⟩ := gcells b2))
    go_ret2
    exact ⟨fin_ibN HV.out.symm HN.out.symm, gg⟩
  · have HR := hidI hr
    have HG := hidI hG
    have HN := hidI hn
    have HD := hidI hd
    have HV := hidI (csV_no hn)
    clear hr hG hn hd
    go_enter Tryd.func11, Tryd.ntmps11
    go_wp2_with (first | (go_at_call 21; refine (readRoom_any s 0 _ (gg.ml hm) hs).mono ?_; rintro e w1 ⟨rfl, g1⟩; rw [HR.out, HG.out, gvG]; have z1 := g1.size; have gg := gg.trans g1) | (refine r_alloc 38 _ Tryd.gzero rfl ?_; intro w2 B2 N2; have g2 := N2.gr; have b2 : Blk w2 B2 (gv 0 0 []) 38 := N2.blk; have l2 := N2.lo; have t2 := N2.hi; have z2 := g2.size; have gg := gg.trans g2; clear N2; obtain ⟨b2_0, b2_1, b2_2⟩ := gcells b2) | (refine r_store_row 38 38 _ _ _ rfl (gv g.w g.h g.c) _ rfl b2 (Tryd.gsize' _ _ _) (by simp only [gv_size]) (gv_one _ _ _) rfl ?_; intro w3 u3 b2'; have z3 := u3.size; have gg := u3.gr gg (by omega); clear b2; have b2 := b2'; clear b2'; obtain ⟨b2_0, b2_1, b2_2⟩ := gcells b2) | (go_at_call 26; refine (isDirection_any _ _).mono ?_; rintro e wSame ⟨rfl, rfl⟩; rw [HD.out]))
    go_ret2
    exact ⟨fin_ibN HV.out.symm HN.out.symm, gg⟩
  · obtain ⟨hc, w1', h1', hl⟩ := cel_of hp
    have HR := hidI hr
    have HG := hidI hG
    have HY := hidI hy
    have HDO := hidI hdo
    have hv := csV_yes hy hg e2
    have w7 := hc.w7
    have h7 := hc.h7
    have n36 := hc.n36
    have hsm := (hc.strs h4).small
    have HS7 := hidI (fun st hst => ((hc.strs h4).len7 st hst))
    have HST := hidI (fun w => stretches_any g.w g.h d g.c w h4 w7 h7 n36 hc.len hc.cells)
    obtain ⟨L, hL⟩ : ∃ L, L = strL g.w g.h g.c d := ⟨_, rfl⟩
    rw [← hL] at hv hsm HST HS7
    have HV := hidI hv
    subst e1
    clear hp hg hr hG e2 hdo hc hl hy hv hL
    go_enter Tryd.func11, Tryd.ntmps11
    go_wp2_with (first | (go_at_call 21; refine (readRoom_any s 0 _ (gg.ml hm) hs).mono ?_; rintro e w1 ⟨rfl, g1⟩; rw [HR.out, HG.out, gvG]; have z1 := g1.size; have gg := gg.trans g1) | (refine r_alloc 38 _ Tryd.gzero rfl ?_; intro w2 B2 N2; have g2 := N2.gr; have b2 : Blk w2 B2 (gv 0 0 []) 38 := N2.blk; have l2 := N2.lo; have t2 := N2.hi; have z2 := g2.size; have gg := gg.trans g2; clear N2; obtain ⟨b2_0, b2_1, b2_2⟩ := gcells b2) | (refine r_store_row 38 38 _ _ _ rfl (gv g.w g.h g.c) _ rfl b2 (Tryd.gsize' _ _ _) (by simp only [gv_size]) (gv_one _ _ _) rfl ?_; intro w3 u3 b2'; have z3 := u3.size; have gg := u3.gr gg (by omega); clear b2; have b2 := b2'; clear b2'; obtain ⟨b2_0, b2_1, b2_2⟩ := gcells b2) | (go_at_call 26; refine (isDirection_any _ _).mono ?_; rintro e wSame ⟨rfl, rfl⟩; rw [HDO.out]))
    have gd := (Gr.refl w3).drew
    have b2 := gd.blk b2
    have gg := gg.trans gd
    have zd := gd.size
    refine F_begin (fun w => Blk w B2 (gv g.w g.h g.c) 38) 3 6 #[false, false, false, false, false, false] rfl (by kernel_rfl) (by kernel_rfl) ?_
    generalize w3.drew = wd at *
    refine F_take (v := .agg (gv g.w g.h g.c)) 0 #[true, false, false, false, false, false] rfl (by kernel_rfl) (fun _ _ _ h => h) rfl (fun w hF => e_load_row 38 (.tmp 6) B2 _ _ _ rfl hF Tryd.underlying38 rfl (Tryd.ginfo' _ _ _)) (b2) ?_; simp only [Act.put, List.setIfInBounds_toArray, List.set_cons_succ, List.set_cons_zero]
    refine F_free (v := .string ⟨#[dB d]⟩) 1 #[true, true, false, false, false, false] rfl (by kernel_rfl) (fun _ _ _ h => h) rfl (fun _ => rfl) (b2) ?_; simp only [Act.put, List.setIfInBounds_toArray, List.set_cons_succ, List.set_cons_zero]
    refine F_free (v := .int .u8 (dB d).toNat) 2 #[true, true, true, false, false, false] rfl (by kernel_rfl) (fun _ _ _ h => h) rfl (fun _ => e_val _ _ (s_idx0 Tryd.underlying9 (dB d) _)) (b2) ?_; simp only [Act.put, List.setIfInBounds_toArray, List.set_cons_succ, List.set_cons_zero]
    refine F_free (v := .int .i64 0) 5 #[true, true, true, false, false, true] rfl (by kernel_rfl) (fun _ _ _ h => h) rfl (fun _ => rfl) (b2) ?_; simp only [Act.put, List.setIfInBounds_toArray, List.set_cons_succ, List.set_cons_zero]
    refine F_one 3 #[true, true, true, true, false, true] rfl (by kernel_rfl) ?_
    refine r_callx 27 [.tmp 23, .tmp 25] _ [.agg (gv g.w g.h g.c), .int .u8 (dB d).toNat] (fun v w' => Gr wd w' ∧ ∃ vs, w'.ownsRow wd.heap.size 45 1 v (zzz L).length vs ∧ RowsK 3 wd.heap.size (zzz L) 1 0 vs w') Tryd.call27 rfl rfl ((HST.out wd).mono (fun e w' ⟨h1, v, vs, h2, h3, h4⟩ => ⟨v, h2, h1, vs, h3, h4⟩)) ?_
    rintro v5 w5 ⟨g5, vs, own, R⟩
    rw [zzz_length] at own
    obtain ⟨p5, n5, k5, rfl⟩ := own_slice own
    obtain rfl : n5 = L.length := own_len own
    have b2 := g5.blk b2
    have gg := gg.trans g5
    have z5 := g5.size
    refine ⟨fun _ => b2, ?_⟩
    simp only [Act.put, List.setIfInBounds_toArray, List.set_cons_succ, List.set_cons_zero]
    refine F_one 4 #[true, true, true, true, true, true] rfl (by kernel_rfl) ?_
    refine r_val (.int .i64 L.length) (e_lenN 43 45 _ _ _ _ rfl Tryd.underlying43) rfl ?_
    refine ⟨fun _ => b2, ?_⟩
    simp only [Act.put, List.setIfInBounds_toArray, List.set_cons_succ, List.set_cons_zero]
    refine F_done (by kernel_rfl) ?_
    go_wp2
    go_loopw [8, 28] (fun cv iv wr => ∃ k : Nat, k ≤ L.length ∧ iv = .int .i64 k ∧ cv = .int .i64 (csP L k) ∧ Gr w5 wr) (fun _ iv _ => L.length - (intOf iv).toNat)
    case atStart => exact ⟨0, Nat.zero_le _, rfl, rfl, Gr.refl w5⟩
    case round =>
      obtain ⟨k, hk, rfl, rfl, gr⟩ := hrel
      by_cases hlt : k < L.length
      · obtain ⟨st, hst⟩ : ∃ st, L[k]? = some st := ⟨L[k], List.getElem?_eq_getElem hlt⟩
        obtain ⟨v, hv, ov⟩ := R.get hst
        have own := gr.row own
        have ov := gr.row ov
        obtain ⟨g1', c1', e1', -, -⟩ := own_shape own (by omega)
        cases e1'
        have hcv := own_val own k v hlt hv
        obtain ⟨hs1, hs7⟩ := HS7.out st (List.mem_of_getElem? hst)
        have HPR := hidI (csP_next hst)
        obtain ⟨pv, nv, kv, rfl⟩ := own_slice ov
        obtain rfl : nv = st.length := own_len ov
        have hix := Tryd.ssix g1' L.length k5 k hlt
        clear hst hv ov
        generalize csP L k = y at *
        go_wp2
        go_roundw
        case rel => exact ⟨k + 1, by omega, by go_num, by rw [HPR.out], gr⟩
        case measure => simp [intOf]; omega
      · obtain rfl : k = L.length := by omega
        clear hlt
        go_wp2
        go_ret2
        exact ⟨fin_ibN HV.out.symm HY.out.symm, gg.trans gr⟩
set_option maxHeartbeats 2000000 in
set_option maxRecDepth 100000 in
theorem sCountStill (s dir : ByteArray) (w : World) (hs : s.size ≤ 1048576) : Calls Tryd.prog 10 #[.string s, .string dir] w (Ret (.tuple #[.int .i64 (csV s.data.toList dir), .bool (slOk s.data.toList dir 0)]) w) := by
  have gg := Gr.refl w
  go_enter Tryd.func10, Tryd.ntmps10
  go_wp2_with fail
  refine (cnBare_any s _ hs).mono ?_
  rintro e w1 ⟨g1, ⟨hn, W, H, sl, hone, rfl⟩ | ⟨g, sl, hp, hg, hy, h0, rfl, hown⟩⟩
  · have HN := hidI (show slOk s.data.toList dir 0 = false from by unfold slOk; rw [br_rm, hn]; rfl)
    have HV := hidI (csV_no HN.out)
    have gg := gg.trans g1
    have z1 := g1.size
    clear hn
    go_wp2_with (first | (refine r_alloc 31 _ Tryd.tzero rfl ?_; intro w2 B2 N2; have g2 := N2.gr; have b2 : Blk w2 B2 (tg 0 0 (.slice none 0 0)) 31 := N2.blk; have l2 := N2.lo; have t2 := N2.hi; have z2 := g2.size; have gg := gg.trans g2; clear N2; obtain ⟨b2_0, b2_1, b2_2⟩ := tcells b2) | (refine r_store_row 31 31 _ _ _ rfl (tg _ _ _) _ rfl b2 Tryd.tsize rfl (tg_one hone) rfl ?_; intro w3 u3 b2'; have z3 := u3.size; have gg := u3.gr gg (by omega); clear b2; have b2 := b2'; clear b2'; obtain ⟨b2_0, b2_1, b2_2⟩ := tcells b2) | (go_at_call 24; refine (tiDir_any dir _).mono ?_; rintro e w4 ⟨rfl, g4⟩; have z4 := g4.size; have gg := gg.trans g4))
    go_ret2
    exact ⟨fin_ibN HV.out.symm HN.out.symm, gg⟩
  · have hone := own_one hown
    have gg := gg.trans g1
    have z1 := g1.size
    cases hd : dirOk dir
    · have HN := hidI (show slOk s.data.toList dir 0 = false from by unfold slOk; rw [hd, Bool.and_false])
      have HV := hidI (csV_no HN.out)
      have hneg := dir_no hd
      clear hp hg hy h0 hd
      go_wp2_with (first | (refine r_alloc 31 _ Tryd.tzero rfl ?_; intro w2 B2 N2; have g2 := N2.gr; have b2 : Blk w2 B2 (tg 0 0 (.slice none 0 0)) 31 := N2.blk; have l2 := N2.lo; have t2 := N2.hi; have z2 := g2.size; have gg := gg.trans g2; clear N2; obtain ⟨b2_0, b2_1, b2_2⟩ := tcells b2) | (refine r_store_row 31 31 _ _ _ rfl (tg _ _ _) _ rfl b2 Tryd.tsize rfl (tg_one hone) rfl ?_; intro w3 u3 b2'; have z3 := u3.size; have gg := u3.gr gg (by omega); clear b2; have b2 := b2'; clear b2'; obtain ⟨b2_0, b2_1, b2_2⟩ := tcells b2) | (go_at_call 24; refine (tiDir_any dir _).mono ?_; rintro e w4 ⟨rfl, g4⟩; have z4 := g4.size; have gg := gg.trans g4))
      go_ret2
      exact ⟨fin_ibN HV.out.symm HN.out.symm, gg⟩
    · obtain ⟨d, h4, e1, e2⟩ := dir_yes hd
      obtain ⟨hc, w1', h1', hl⟩ := cel_of hp
      have HY := hidI (show slOk s.data.toList dir 0 = true from by unfold slOk; rw [br_rm, hy, hd]; rfl)
      have hv := csV_yes HY.out hg e2
      have w7 := hc.w7
      have h7 := hc.h7
      have n36 := hc.n36
      have h36 : g.c.length ≤ 36 := by have := hc.len; omega
      have hsm := (hc.strs h4).small
      have HS7 := hidI (fun st hst => ((hc.strs h4).len7 st hst))
      obtain ⟨G, cap, rfl, -, -⟩ := own_shape hown hl
      have HST := hidI (fun w base (o : w.ownsRow base 5 1 (.slice (some ⟨G, 0, none⟩) g.c.length cap) g.c.length (cellsV g.c)) => tiStretches_any g.w g.h base d g.c G cap w h4 w7 h7 h36 hc.len hc.cells o)
      obtain ⟨L, hL⟩ : ∃ L, L = strL g.w g.h g.c d := ⟨_, rfl⟩
      rw [← hL] at hv hsm HST HS7
      have HV := hidI hv
      have HD := hidI e2
      have hd0 : ¬ ((d : Int) < 0) := by omega
      clear hp hg hy h0 hd e1 e2 hc hv hL
      go_wp2_with (first | (refine r_alloc 31 _ Tryd.tzero rfl ?_; intro w2 B2 N2; have g2 := N2.gr; have b2 : Blk w2 B2 (tg 0 0 (.slice none 0 0)) 31 := N2.blk; have l2 := N2.lo; have t2 := N2.hi; have z2 := g2.size; have gg := gg.trans g2; clear N2; obtain ⟨b2_0, b2_1, b2_2⟩ := tcells b2) | (refine r_store_row 31 31 _ _ _ rfl (tg _ _ _) _ rfl b2 Tryd.tsize rfl (tg_one hone) rfl ?_; intro w3 u3 b2'; have z3 := u3.size; have gg := u3.gr gg (by omega); clear b2; have b2 := b2'; clear b2'; obtain ⟨b2_0, b2_1, b2_2⟩ := tcells b2) | (go_at_call 24; refine (tiDir_any dir _).mono ?_; rintro e w4 ⟨rfl, g4⟩; rw [HD.out]; have z4 := g4.size; have b2 := g4.blk b2; obtain ⟨b2_0, b2_1, b2_2⟩ := tcells b2; have gg := gg.trans g4) | (refine r_load_row 31 _ _ rfl _ _ _ b2 Tryd.underlying31 rfl Tryd.tinfo rfl ?_))
      have own0 := g4.row (u3.row (g2.row hown) (own_new hown l2))
      refine (HST.out _ _ own0).mono ?_
      rintro e w5 ⟨g5, v5, vs, rfl, own, R⟩
      rw [zzz_length] at own
      obtain ⟨p5, n5, k5, rfl⟩ := own_slice own
      obtain rfl : n5 = L.length := own_len own
      have b2 := g5.blk b2
      have gg := gg.trans g5
      have z5 := g5.size
      go_wp2
      go_loopw [10, 31] (fun cv iv wr => ∃ k : Nat, k ≤ L.length ∧ iv = .int .i64 k ∧ cv = .int .i64 (csP L k) ∧ Gr w5 wr) (fun _ iv _ => L.length - (intOf iv).toNat)
      case atStart => exact ⟨0, Nat.zero_le _, rfl, rfl, Gr.refl w5⟩
      case round =>
        obtain ⟨k, hk, rfl, rfl, gr⟩ := hrel
        by_cases hlt : k < L.length
        · obtain ⟨st, hst⟩ : ∃ st, L[k]? = some st := ⟨L[k], List.getElem?_eq_getElem hlt⟩
          obtain ⟨v, hv, ov⟩ := R.get hst
          have own := gr.row own
          have ov := gr.row ov
          obtain ⟨g1', c1', e1', -, -⟩ := own_shape own (by omega)
          cases e1'
          have hcv := own_val own k v hlt hv
          obtain ⟨hs1, hs7⟩ := HS7.out st (List.mem_of_getElem? hst)
          have HPR := hidI (csP_next hst)
          obtain ⟨pv, nv, kv, rfl⟩ := own_slice ov
          obtain rfl : nv = st.length := own_len ov
          have hix := Tryd.ssix g1' L.length k5 k hlt
          clear hst hv ov
          generalize csP L k = y at *
          go_wp2
          go_roundw
          case rel => exact ⟨k + 1, by omega, by go_num, by rw [HPR.out], gr⟩
          case measure => simp [intOf]; omega
        · obtain rfl : k = L.length := by omega
          clear hlt
          go_wp2
          go_ret2
          exact ⟨fin_ibN HV.out.symm HY.out.symm, gg.trans gr⟩
set_option maxHeartbeats 1000000 in
theorem lawCountStill (s t : ByteArray) (w : World) (hm : ML w) : Calls Tryd.prog 4 #[.string s, .string t] w (Ret (.bool true) w) := by
  have gg := Gr.refl w
  by_cases hs : 1048576 < s.size
  · go_enter Tryd.func4, Tryd.ntmps4
    go_wp2
    go_ret
    exact ⟨rfl, gg⟩
  · have hs' : s.size ≤ 1048576 := by omega
    clear hs
    by_cases hc : 1048576 < t.size
    · go_enter Tryd.func4, Tryd.ntmps4
      go_wp2
      go_ret
      exact ⟨rfl, gg⟩
    · have hc' : t.size ≤ 1048576 := by omega
      clear hc
      go_enter Tryd.func4, Tryd.ntmps4
      go_wp2_with (first | (go_at_call 10; refine (sCountStill s t _ hs').mono ?_; rintro e w1 ⟨rfl, g1⟩; have z1 := g1.size; have gg := gg.trans g1) | (go_at_call 11; refine (iCountStill s t _ (gg.ml hm) hs').mono ?_; rintro e w2 ⟨rfl, g2⟩; have z2 := g2.size; have gg := gg.trans g2))
      go_ret
      exact ⟨rfl, gg⟩
end Go.Proofs.YtcjmikafomlbiaaDoor
