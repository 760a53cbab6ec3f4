/-
  A tray tilted along a word: in the program and in the model; still trays; the law on two words that do the same.
-/
import Derived.Test.YtppjlcmfmbpkjaaDoorTiltV
import Derived.Test.YtppjlcmfmbpkjaaDoorKeep
namespace Go.Proofs.YtppjlcmfmbpkjaaDoor
open Go.RowKit
/-- The directions of a word. -/
def wds (s : ByteArray) : List Nat := s.data.toList.map fun b => (dI b).toNat
theorem wds_length (s : ByteArray) : (wds s).length = s.size := by unfold wds; rw [List.length_map]; exact Array.length_toList
theorem wds_lt {s : ByteArray} (_h : wordB s = true) : ∀ d ∈ wds s, d < 4 := by
  intro d hd
  unfold wds at hd
  obtain ⟨b, hb, rfl⟩ := List.mem_map.1 hd
  have := dI_lt b
  omega
theorem wds_at {s : ByteArray} (h : wordB s = true) {j : Nat} (hj : j < s.size) : ∃ d, d < 4 ∧ at0 s.data.toList j = dB d ∧ dI (dB d) = d ∧ (wds s).getD j 0 = d ∧ (wds s).take (j + 1) = (wds s).take j ++ [d] := by
  have hl : s.data.toList.length = s.size := Array.length_toList
  obtain ⟨d, h4, h1, h2⟩ := dB_dI (word_at h j (by omega))
  have e : (wds s)[j]? = some d := by
    unfold wds
    rw [List.getElem?_map, List.getElem?_eq_getElem (by omega)]
    have : s.data.toList[j]'(by omega) = at0 s.data.toList j := by unfold at0; rw [List.getD_eq_getElem?_getD, List.getElem?_eq_getElem (by omega)]; rfl
    rw [this]
    show some (dI (at0 s.data.toList j)).toNat = some d
    rw [h1]
    rfl
  refine ⟨d, h4, h2, by rw [← h2]; exact h1, by rw [List.getD_eq_getElem?_getD, e]; rfl, ?_⟩
  rw [List.take_add_one, e]
  rfl
theorem word_of_bb {w : World} {B : Nat} {s : ByteArray} {e : TypeId} {cap : Nat} (hb : BB w B s.data.toList e) (h : wordB s = true) : WordAt w (.slice (some ⟨B, 0, none⟩) s.size cap) (wds s) := by
  refine ⟨some ⟨B, 0, none⟩, cap, by rw [wds_length], fun j hj => ?_⟩
  rw [wds_length] at hj
  obtain ⟨d, h4, h1, -, h2, -⟩ := wds_at h hj
  refine ⟨B, 0, rfl, ?_⟩
  have := hb.cell j (by rw [show s.data.toList.length = s.size from Array.length_toList]; exact hj)
  rw [Nat.zero_add, this, h2, h1]
theorem runG_take {s : ByteArray} (g : Grid) {j d : Nat} (h : (wds s).take (j + 1) = (wds s).take j ++ [d]) : runG ((wds s).take (j + 1)) g = tiltG d (runG ((wds s).take j) g) := by rw [h, runG_snoc]
theorem same_txt {g m : Grid} (hg : Cel g) (hm : Cel m) (g1 : 1 ≤ g.w) (gh : 1 ≤ g.h) (_m1 : 1 ≤ m.w) (mh : 1 ≤ m.h) : sameB g m = decide (txtB g.w g.h g.c = txtB m.w m.h m.c) := by
  rw [Bool.eq_iff_iff, decide_eq_true_eq]
  constructor
  · intro h
    unfold sameB at h
    rw [Bool.and_eq_true, Bool.and_eq_true, beq_iff_eq, beq_iff_eq, List.all_eq_true] at h
    obtain ⟨⟨h1, h2⟩, h3⟩ := h
    have hc : m.c = g.c := by
      apply list_ext (by rw [hm.len, hg.len, h1, h2])
      intro i hi
      have hi36 : i < 36 := by have := hm.len; have := hm.n36; omega
      have := h3 i (List.mem_range.2 hi36)
      rw [beq_iff_eq] at this
      exact UInt8.toNat_inj.1 (by omega)
    rw [← h1, ← h2, hc]
  · intro h
    have e : txtL g.w g.c g.h = txtL m.w m.c m.h := by rw [← txtB_data, ← txtB_data, h]
    obtain ⟨e1, e2, e3⟩ := txt_inj g1 gh mh hg.len hm.len (cell_plain hg.cells) (cell_plain hm.cells) e
    unfold sameB
    rw [e1, e2, e3]
    simp
theorem txt_of {s : ByteArray} {g : Grid} (hp : parse s.data.toList = some g) : s = txtB g.w g.h g.c := by
  apply ByteArray.ext
  apply Array.toList_inj.1
  rw [txtB_data, parse_text hp]
section
variable {P : Program} {md : Region.Mode} {Q : Exit → Act → World → Prop} {F : World → Prop} {k : Nat}
/-- Two may come up. -/
theorem F_two {L : List Oper} (i j : Nat) (li lj : Array Bool) {oi oj : Oper} {n : Nat} {l : Array Bool} {a : Act} {w : World} (hi : nthOp L i = some oi) (hj : nthOp L j = some oj)
    (hr : (decide (Region.ready md L.toArray l = [i, j]) && decide (l.setIfInBounds i true = li) && decide (l.setIfInBounds j true = lj)) = true)
    (h1 : wpList P L.toArray (Exit.then (fun a' w' => (li.getD k true = false → F w') ∧ AnyF P md L.toArray Q F k n li a' w') Q) [oi] a w)
    (h2 : wpList P L.toArray (Exit.then (fun a' w' => (lj.getD k true = false → F w') ∧ AnyF P md L.toArray Q F k n lj a' w') Q) [oj] a w) : AnyF P md L.toArray Q F k (n + 1) l a w := by
  simp only [Bool.and_eq_true, decide_eq_true_eq] at hr
  obtain ⟨⟨hr, e1⟩, e2⟩ := hr
  subst e1
  subst e2
  refine ⟨fun h0 => by (rw [hr] at h0; cases h0), ?_⟩
  have key : ∀ (m : Nat) (o : Oper), nthOp L m = some o → wpList P L.toArray (Exit.then (fun a' w' => ((l.setIfInBounds m true).getD k true = false → F w') ∧ AnyF P md L.toArray Q F k n (l.setIfInBounds m true) a' w') Q) [o] a w →
      wpOp P L.toArray Q m (fun a' w' => ((l.setIfInBounds m true).getD k true = false → F w') ∧ AnyF P md L.toArray Q F k n (l.setIfInBounds m true) a' w') a w := by
    intro m o hm h
    unfold wpOp
    simp only [nthOp_get L m hm]
    unfold wpList at h
    split at h
    · rename_i hw
      rw [if_pos hw]
      rcases h with h | ⟨h1, h2⟩
      · exact .inl (wp_then h)
      · exact .inr ⟨h1, h2⟩
    · rename_i hw
      rw [if_neg hw]
      exact h
  intro m hm
  rw [hr] at hm
  rcases (by simpa using hm : m = i ∨ m = j) with rfl | rfl
  · exact key _ _ hi h1
  · exact key _ _ hj h2
end
section
variable {P : Program} {w : World} {ops : Array Oper} {rest : List Oper} {a : Act} {Q : Exit → Act → World → Prop} {dst : Option Tmp} {ty : TypeId} {pos : String} {aft : Array Edge} {gd : Option (Nat × Bool)}
/-- A call by its contract, where what it returns is not known ahead. -/
theorem r_callx (f : FuncId) (xs : List Operand) (ts : Array TypeId) (vs : List Value) (Post : Value → World → Prop) (hcf : ∀ args w, (callFunc f args).run P w = .ok (.enter f args) w) (hvs : xs.map a.eval = vs)
    (hgd : Region.wanted ⟨dst, .call { callee := .value (.func f), args := xs.toArray, argTypes := ts }, ty, pos, aft, gd⟩ (yielded ops a.tmps) = true)
    (hc : Calls P f vs.toArray w fun e w' => ∃ v, e = .returned v ∧ Post v w')
    (h : ∀ v w', Post v w' → wpList P ops Q rest (a.put dst v) w') : wpList P ops Q (⟨dst, .call { callee := .value (.func f), args := xs.toArray, argTypes := ts }, ty, pos, aft, gd⟩ :: rest) a w :=
  wpList_want hgd fun _ hK => by
    have e : (execOp a.eval ⟨dst, .call { callee := .value (.func f), args := xs.toArray, argTypes := ts }, ty, pos, aft, gd⟩).run P w = .ok (.enter f vs.toArray) w := by
      unfold execOp resolve
      simp only [List.map_toArray, hvs, Act.eval, Deferred.ofValue, Sem.run_bind, Sem.run_pure, Result.andThen_ok, invoke, Array.append_empty, Array.empty_append]
      exact hcf _ _
    unfold Oper.wp
    rw [e]
    exact hc.mono fun e w'' ⟨v, he, hp⟩ => by
      subst he
      exact hK _ _ (h _ _ hp)
end
theorem e_eqlS {P : Program} {w : World} {a : Act} {dst : Option Tmp} {ty T yt : TypeId} {pos : String} {aft : Array Edge} {gd : Option (Nat × Bool)} (x y : Operand) (s t : ByteArray) (hx : a.eval x = .string s) (hy : a.eval y = .string t) :
    (execOp a.eval ⟨dst, .binOp .eql T x y yt, ty, pos, aft, gd⟩).run P w = .ok (.value (.bool (decide (s = t)))) w := by
  unfold execOp
  simp [hx, hy, eqGuard, binOp_string_eql, ← eql_bool]
set_option maxHeartbeats 2000000 in
set_option maxRecDepth 100000 in
theorem tiRun_any (g : Grid) (base : Nat) (s : ByteArray) (sl : Value) (w : World) (hg : Cel g) (hs : wordB s = true) (h1 : 0 < g.c.length) (hb : base ≤ w.heap.size) (hown : w.ownsRow base 5 1 sl g.c.length (cellsV g.c)) :
    Calls Tryd.prog 68 #[.agg (tg g.w g.h sl), .string s] w fun e w' => Gr w w' ∧ ∃ sl', e = .returned (.agg (tg g.w g.h sl')) ∧ w'.ownsRow base 5 1 sl' g.c.length (cellsV (runG (wds s) g).c) := by
  have gg := Gr.refl w
  have h40 := (wordB_iff.1 hs).1
  have hone := own_one hown
  obtain ⟨W, hW⟩ : ∃ W, W = g.w := ⟨_, rfl⟩
  obtain ⟨H, hH⟩ : ∃ H, H = g.h := ⟨_, rfl⟩
  obtain ⟨N, hN⟩ : ∃ N, N = g.c.length := ⟨_, rfl⟩
  rw [← hN] at h1 hown ⊢
  have hN1 : N = nn g.w g.h := by rw [hN, hg.len]
  have HS := hidI (fun j (hj : j < s.size) => wds_at hs hj)
  have HR := hidI (show ∀ j, Cel (runG ((wds s).take j) g) ∧ (runG ((wds s).take j) g).w = W ∧ (runG ((wds s).take j) g).h = H ∧ (runG ((wds s).take j) g).c.length = N from fun j => by
    have hc := hg.run ((wds s).take j) (fun d hd => wds_lt hs d (List.mem_of_mem_take hd))
    obtain ⟨e1, e2⟩ := runG_w ((wds s).take j) g
    exact ⟨hc, e1.trans hW.symm, e2.trans hH.symm, by rw [hc.len, e1, e2, hN1]⟩)
  have HE := hidI (show runG ((wds s).take s.size) g = runG (wds s) g from by rw [List.take_of_length_le (by rw [wds_length]; omega)])
  rw [← hW, ← hH]
  clear hs hg hW hH hN hN1
  have own0 : w.ownsRow base 5 1 sl N (cellsV (runG ((wds s).take 0) g).c) := hown
  go_enter Tryd.func68, Tryd.ntmps68
  go_wp2_with (first | (refine r_box 46 _ (tg (W) (H) (sl)) rfl rfl ?_; intro w1 B1 N1; have g1 := N1.gr; have b1 : Blk w1 B1 (tg (W) (H) (sl)) 46 := N1.blk; have l1 := N1.lo; have t1 := N1.hi; have z1 := g1.size; have gg := gg.trans g1; clear N1; obtain ⟨b1_0, b1_1, b1_2⟩ := tcells b1) | (refine r_alloc 46 _ Tryd.tzero rfl ?_; intro w2 B2 N2; have g2 := N2.gr; have b2 : Blk w2 B2 (tg 0 0 (.slice none 0 0)) 46 := N2.blk; have l2 := N2.lo; have t2 := N2.hi; have z2 := g2.size; have b1 := g2.blk b1; obtain ⟨b1_0, b1_1, b1_2⟩ := tcells b1; have gg := gg.trans g2; clear N2; obtain ⟨b2_0, b2_1, b2_2⟩ := tcells b2))
  have own0 := g2.row (g1.row own0)
  go_loopw [5] (fun iv wr => ∃ (j : Nat) (sl : Value), j ≤ s.size ∧ iv = .int .i64 j ∧ Blk wr B1 (tg W H sl) 46 ∧ Blk wr B2 (tg 0 0 (.slice none 0 0)) 46 ∧ wr.ownsRow base 5 1 sl N (cellsV (runG ((wds s).take j) g).c) ∧ Gr w wr) (fun iv _ => s.size - (intOf iv).toNat)
  case atStart => exact ⟨0, sl, Nat.zero_le _, rfl, b1, b2, own0, gg⟩
  case round =>
    obtain ⟨j, sl, hj, rfl, b1, b2, own, gg⟩ := hrel
    have lo1 : w.heap.size ≤ B1 := by omega
    have lo2 : w.heap.size ≤ B2 := by omega
    have zr := gg.size
    by_cases hlt : j < s.size
    · have hssub := Tryd.ssub s j hlt
      obtain ⟨d, h4, hat, hdi, -, htk⟩ := HS.out j hlt
      have hbs : s[j]'hlt = dB d := by
        rw [← hat, ByteArray.getElem_eq_getElem_data]
        show _ = s.data.toList.getD j 0
        rw [List.getD_eq_getElem?_getD, List.getElem?_eq_getElem (by rw [show s.data.toList.length = s.size from Array.length_toList]; exact hlt)]
        simp
      rw [hbs] at hssub
      have HDR := hidI (fun w => show Calls Tryd.prog 64 #[.string ⟨#[dB d]⟩] w (Ret (.int .i64 d) w) from (show dS ⟨#[dB d]⟩ = (d : Int) from hdi) ▸ tiDir_any ⟨#[dB d]⟩ w)
      obtain ⟨hc, hw, hh, hl⟩ := HR.out j
      have HT := hidI (runG_take g htk)
      obtain ⟨q, hq⟩ : ∃ q, q = runG ((wds s).take j) g := ⟨_, rfl⟩
      rw [← hq] at hc hw hh hl own HT
      have HTT := fun (w : World) (sl : Value) (own : w.ownsRow base 5 1 sl q.c.length (cellsV q.c)) => tiTilt_any q base d sl w hc h4 (by rw [hl]; exact h1) own
      rw [hw, hh, hl] at HTT
      have HTT := hidI HTT
      have HCL := hidI (show (tiltG d q).c.length = N from by have := (hc.tilt h4).len; rw [this]; show nn q.w q.h = N; rw [← hc.len, hl])
      have hone := own_one own
      clear hbs hat hdi hc hw hh hl hq htk
      generalize dB d = b at *
      go_wp2
      have gd := (Gr.refl wr).drew
      have b1 := gd.blk b1
      have b2 := gd.blk b2
      have own := gd.row own
      have gg := gg.trans gd
      have zd := gd.size
      refine F_begin (fun w => Blk w B1 (tg W H sl) 46) 8 9 #[false, false, false, false, false, false, false, false, false] rfl (by kernel_rfl) (by kernel_rfl) ?_
      generalize wr.drew = wd at *
      refine F_take (v := .agg (tg W H sl)) 0 #[true, false, false, false, false, false, false, false, false] rfl (by kernel_rfl) (fun _ _ _ h => h) rfl (fun w hF => e_load_row 46 (.tmp 2) B1 _ _ _ rfl hF Tryd.underlying46 rfl Tryd.tinfo) (b1) ?_; simp only [Act.put, List.setIfInBounds_toArray, List.set_cons_succ, List.set_cons_zero]
      refine F_free (v := .string s) 1 #[true, true, false, false, false, false, false, false, false] rfl (by kernel_rfl) (fun _ _ _ h => h) rfl (fun _ => rfl) (b1) ?_; simp only [Act.put, List.setIfInBounds_toArray, List.set_cons_succ, List.set_cons_zero]
      refine F_free (v := .int .i64 j) 2 #[true, true, true, false, false, false, false, false, false] rfl (by kernel_rfl) (fun _ _ _ h => h) rfl (fun _ => rfl) (b1) ?_; simp only [Act.put, List.setIfInBounds_toArray, List.set_cons_succ, List.set_cons_zero]
      refine F_free (v := .int .i64 j) 3 #[true, true, true, true, false, false, false, false, false] rfl (by kernel_rfl) (fun _ _ _ h => h) rfl (fun _ => rfl) (b1) ?_; simp only [Act.put, List.setIfInBounds_toArray, List.set_cons_succ, List.set_cons_zero]
      refine F_free (v := .int .i64 ((j : Int) + 1)) 4 #[true, true, true, true, true, false, false, false, false] rfl (by kernel_rfl) (fun _ _ _ h => h) rfl (fun _ => e_add _ _ _ _ _ rfl rfl rfl (by omega)) (b1) ?_; simp only [Act.put, List.setIfInBounds_toArray, List.set_cons_succ, List.set_cons_zero]
      refine F_free (v := .string ⟨#[b]⟩) 5 #[true, true, true, true, true, true, false, false, false] rfl (by kernel_rfl) (fun _ _ _ h => h) rfl (fun _ => e_val _ _ (hssub _)) (b1) ?_; simp only [Act.put, List.setIfInBounds_toArray, List.set_cons_succ, List.set_cons_zero]
      refine F_one 6 #[true, true, true, true, true, true, true, false, false] rfl (by kernel_rfl) ?_
      refine r_call 64 [.tmp 17] _ [.string ⟨#[b]⟩] (.int .i64 d) (fun w' => Gr wd w') Tryd.call64 rfl rfl (HDR.out wd) ?_
      intro w3 g3
      have b1 := g3.blk b1
      have b2 := g3.blk b2
      have own := g3.row own
      have gg := gg.trans g3
      have z3 := g3.size
      refine ⟨fun _ => b1, ?_⟩
      simp only [Act.put, List.setIfInBounds_toArray, List.set_cons_succ, List.set_cons_zero]
      refine F_one 7 #[true, true, true, true, true, true, true, true, false] rfl (by kernel_rfl) ?_
      refine r_callx 44 [.tmp 12, .tmp 18] _ [.agg (tg W H sl), .int .i64 d] (fun v w' => Gr w3 w' ∧ ∃ s4, v = .agg (tg W H s4) ∧ w'.ownsRow w3.heap.size 5 1 s4 (tiltG d q).c.length (cellsV (tiltG d q).c)) Tryd.call44 rfl rfl ((HTT.out w3 sl own).mono (fun e w' ⟨h1, s4, h2, h3⟩ => ⟨_, h2, h1, s4, rfl, h3⟩)) ?_
      rintro v4 w4 ⟨g4, s4, rfl, own4⟩
      rw [HCL.out, ← HT.out] at own4
      have own4 := own_up own4 (show base ≤ w3.heap.size by omega)
      have b1 := g4.blk b1
      have b2 := g4.blk b2
      have gg := gg.trans g4
      have z4 := g4.size
      have hone4 := own_one own4
      refine ⟨fun _ => b1, ?_⟩
      simp only [Act.put, List.setIfInBounds_toArray, List.set_cons_succ, List.set_cons_zero]
      refine F_one 8 #[true, true, true, true, true, true, true, true, true] rfl (by kernel_rfl) ?_
      refine r_store_row 46 46 _ _ B1 rfl (tg W H s4) _ rfl b1 Tryd.tsize rfl (tg_one hone4) rfl ?_
      intro w6 u6 b16
      refine ⟨fun h => (by cases h), ?_⟩
      simp only [Act.put]
      refine F_done (by kernel_rfl) ?_
      have own6 := u6.row own4 (own_ne own4 b1 (by decide))
      have b26 := u6.blk b2 (by omega)
      have gg := u6.gr gg lo1
      go_wp2
      go_roundw
      case rel => exact ⟨j + 1, s4, by omega, by go_num, b16, b26, own6, gg⟩
      case measure => simp [intOf]; omega
    · obtain rfl : j = s.size := by omega
      rw [HE.out] at own
      have hone := own_one own
      clear hlt
      obtain ⟨b1_0, b1_1, b1_2⟩ := tcells b1
      obtain ⟨b2_0, b2_1, b2_2⟩ := tcells b2
      go_wp2_with (first | (refine r_load_row 46 _ _ rfl _ _ _ b1 Tryd.underlying46 rfl Tryd.tinfo rfl ?_) | (refine r_store_row 46 46 _ _ B2 rfl (tg W H sl) _ rfl b2 Tryd.tsize rfl (tg_one hone) rfl ?_; intro w6 u6 b26))
      have own6 := u6.row own (own_ne own b2 (by decide))
      refine bodyPost_ret (results_row rfl _ _ _ _ _ _ rfl b26 Tryd.underlying46 rfl Tryd.tinfo) rfl ?_
      exact ⟨u6.gr gg lo2, _, rfl, own6⟩
set_option maxHeartbeats 1000000 in
set_option maxRecDepth 100000 in
theorem isStill_any (g : Grid) (d : Nat) (w : World) (hg : Cel g) (hd : d < 4) : Calls Tryd.prog 55 #[.agg (gvG g), .int .u8 (dB d).toNat] w (Ret (.bool (sameB g (tiltG d g))) w) := by
  have gg := Gr.refl w
  have HC := hidI hg
  have HDS := hidI (show ∀ e ∈ [d], e < 4 from by simpa using hd)
  have HTG := hidI (show gvG (runG [d] g) = gvG (tiltG d g) from rfl)
  have HS := hidI (fun w => isSame_any g (tiltG d g) w)
  obtain ⟨k, hk⟩ : ∃ k, k = tiltG d g := ⟨_, rfl⟩
  rw [← hk] at HTG HS ⊢
  have HWA := hidI (fun (w w' : World) (B : Nat) (e : TypeId) (h : New w w' B #[.int .u8 (dB d).toNat] e) => one_word h)
  generalize dB d = b at *
  clear hk
  have h36 : gvG g = gv g.w g.h g.c := rfl
  rw [h36]
  go_enter Tryd.func55, Tryd.ntmps55
  go_wp2_with (refine r_box 53 _ (gv g.w g.h g.c) rfl rfl ?_; intro w1 B1 N1; have g1 := N1.gr; have b1 : Blk w1 B1 (gv g.w g.h g.c) 53 := N1.blk; have l1 := N1.lo; have t1 := N1.hi; have z1 := g1.size; have gg := gg.trans g1; clear N1; obtain ⟨b1_0, b1_1, b1_2⟩ := gcells b1)
  have gd := (Gr.refl w1).drew
  have b1 := gd.blk b1
  have gg := gg.trans gd
  have zd := gd.size
  refine F_begin (fun w => Blk w B1 (gv g.w g.h g.c) 53) 6 7 #[false, false, false, false, false, false, false] rfl (by kernel_rfl) (by kernel_rfl) ?_
  generalize w1.drew = wd at *
  refine F_take (v := .agg (gvG g)) 0 #[true, false, false, false, false, false, false] rfl (by kernel_rfl) (fun _ _ _ h => h) rfl (fun w hF => e_load_row 53 (.tmp 2) B1 _ _ _ rfl hF Tryd.underlying53 rfl (Tryd.ginfo' _ _ _)) (b1) ?_; simp only [Act.put, List.setIfInBounds_toArray, List.set_cons_succ, List.set_cons_zero]
  refine F_take (v := .agg (gvG g)) 1 #[true, true, false, false, false, false, false] rfl (by kernel_rfl) (fun _ _ _ h => h) rfl (fun w hF => e_load_row 53 (.tmp 2) B1 _ _ _ rfl hF Tryd.underlying53 rfl (Tryd.ginfo' _ _ _)) (b1) ?_; simp only [Act.put, List.setIfInBounds_toArray, List.set_cons_succ, List.set_cons_zero]
  refine F_free (v := .int .u8 b.toNat) 2 #[true, true, true, false, false, false, false] rfl (by kernel_rfl) (fun _ _ _ h => h) rfl (fun _ => rfl) (b1) ?_; simp only [Act.put, List.setIfInBounds_toArray, List.set_cons_succ, List.set_cons_zero]
  refine F_one 3 #[true, true, true, true, false, false, false] rfl (by kernel_rfl) ?_
  refine r_slice1 44 5 (.tmp 7) (.int .u8 b.toNat) rfl (Tryd.bs1 _ _) rfl ?_
  intro w4 B4 N4
  have WA := HWA.out _ _ _ _ N4
  have g4 := N4.gr
  have z4 := g4.size
  have gg := gg.trans g4
  have b1 := g4.blk b1
  refine ⟨fun _ => b1, ?_⟩
  simp only [Act.put, List.setIfInBounds_toArray, List.set_cons_succ, List.set_cons_zero]
  refine F_one 4 #[true, true, true, true, true, false, false] rfl (by kernel_rfl) ?_
  refine r_call 47 [.tmp 6, .tmp 8] _ [.agg (gvG g), .slice (some ⟨B4, 0, none⟩) 1 1] (.agg (gvG (runG [d] g))) (fun w' => Gr w4 w') Tryd.call47 rfl rfl (tilted_any g [d] _ _ HC.out HDS.out WA (by simp)) ?_
  intro w5 g5
  rw [HTG.out]
  have gg := gg.trans g5
  have b1 := g5.blk b1
  refine ⟨fun _ => b1, ?_⟩
  simp only [Act.put, List.setIfInBounds_toArray, List.set_cons_succ, List.set_cons_zero]
  refine F_one 5 #[true, true, true, true, true, true, false] rfl (by kernel_rfl) ?_
  refine r_call 70 [.tmp 5, .tmp 9] _ [.agg (gvG g), .agg (gvG k)] (.bool (sameB g k)) (fun w' => Gr w5 w') Tryd.call70 rfl rfl (HS.out w5) ?_
  intro w6 g6
  have gg := gg.trans g6
  have b1 := g6.blk b1
  refine ⟨fun _ => b1, ?_⟩
  simp only [Act.put, List.setIfInBounds_toArray, List.set_cons_succ, List.set_cons_zero]
  refine F_one 6 #[true, true, true, true, true, true, true] rfl (by kernel_rfl) ?_
  refine r_val (.bool (sameB g k)) rfl rfl ?_
  simp only [Act.put, List.setIfInBounds_toArray, List.set_cons_succ, List.set_cons_zero]
  refine ⟨fun h => (by cases h), ?_⟩
  refine F_done (by kernel_rfl) ?_
  go_wp2
  go_ret
  exact ⟨rfl, gg⟩
def swOk (l : List UInt8) (v u : ByteArray) : Bool := rdOk l && wordB v && wordB u
def swB (l : List UInt8) (v u : ByteArray) : Bool := if swOk l v u then sameB (runG (wds v) (rdG l)) (runG (wds u) (rdG l)) else false
theorem fin_bb {a b c d : Bool} (h1 : a = c) (h2 : b = d) : Ending.returned (.tuple #[.bool a, .bool b]) = .returned (.tuple #[.bool c, .bool d]) := by rw [h1, h2]
set_option maxHeartbeats 2000000 in
set_option maxRecDepth 100000 in
theorem iAreSameWords (s v u : ByteArray) (w : World) (hm : ML w) (hs : s.size ≤ 1048576) : Calls Tryd.prog 41 #[.string s, .string v, .string u] w (Ret (.tuple #[.bool (swB s.data.toList v u), .bool (swOk s.data.toList v u)]) w) := by
  have gg := Gr.refl w
  rcases rd_cases s.data.toList with ⟨hg, hp, hk⟩ | ⟨g, hp, hg, hk⟩
  · have HY := hidI (show swOk s.data.toList v u = false from by unfold swOk; rw [hk]; rfl)
    have HV := hidI (show swB s.data.toList v u = false from by unfold swB; rw [HY.out]; rfl)
    have HK := hidI hk
    clear hg hp hk
    go_enter Tryd.func41, Tryd.ntmps41
    go_wp2_with (first | (go_at_call 54; refine (readTray_any s _ (gg.ml hm) hs).mono ?_; rintro e w1 ⟨rfl, g1⟩; rw [HK.out]; have z1 := g1.size; have gg := gg.trans g1) | (refine r_alloc 53 _ Tryd.gzero rfl ?_; intro w2 B2 N2; have g2 := N2.gr; have b2 : Blk w2 B2 (gv 0 0 []) 53 := N2.blk; have l2 := N2.lo; have t2 := N2.hi; have z2 := g2.size; have gg := gg.trans g2; clear N2; obtain ⟨b2_0, b2_1, b2_2⟩ := gcells b2) | (refine r_store_row 53 53 _ _ _ rfl (gv _ _ _) _ rfl b2 (Tryd.gsize' _ _ _) (by simp only [gv_size]) (gv_one _ _ _) rfl ?_; intro w3 u3 b2'; have z3 := u3.size; have gg := u3.gr gg (by omega); clear b2; have b2 := b2'; clear b2'; obtain ⟨b2_0, b2_1, b2_2⟩ := gcells b2))
    go_ret2
    exact ⟨fin_bb HV.out.symm HY.out.symm, gg⟩
  · have HK := hidI hk
    have HG := hidI hg
    cases hv : wordB v
    · have HY := hidI (show swOk s.data.toList v u = false from by unfold swOk; rw [hv, Bool.and_false]; rfl)
      have HV := hidI (show swB s.data.toList v u = false from by unfold swB; rw [HY.out]; rfl)
      have HWV := hidI hv
      clear hg hp hk hv
      go_enter Tryd.func41, Tryd.ntmps41
      go_wp2_with (first | (go_at_call 54; refine (readTray_any s _ (gg.ml hm) hs).mono ?_; rintro e w1 ⟨rfl, g1⟩; rw [HK.out, HG.out, gvG]; have z1 := g1.size; have gg := gg.trans g1) | (refine r_alloc 53 _ Tryd.gzero rfl ?_; intro w2 B2 N2; have g2 := N2.gr; have b2 : Blk w2 B2 (gv 0 0 []) 53 := N2.blk; have l2 := N2.lo; have t2 := N2.hi; have z2 := g2.size; have gg := gg.trans g2; clear N2; obtain ⟨b2_0, b2_1, b2_2⟩ := gcells b2) | (refine r_store_row 53 53 _ _ _ rfl (gv g.w g.h g.c) _ rfl b2 (Tryd.gsize' _ _ _) (by simp only [gv_size]) (gv_one _ _ _) rfl ?_; intro w3 u3 b2'; have z3 := u3.size; have gg := u3.gr gg (by omega); clear b2; have b2 := b2'; clear b2'; obtain ⟨b2_0, b2_1, b2_2⟩ := gcells b2) | (go_at_call 66; refine (iIsWord v _).mono ?_; rintro e w4 ⟨rfl, g4⟩; rw [HWV.out]; have z4 := g4.size; have gg := gg.trans g4))
      go_ret2
      exact ⟨fin_bb HV.out.symm HY.out.symm, gg⟩
    · have HWV := hidI hv
      cases hu : wordB u
      · have HY := hidI (show swOk s.data.toList v u = false from by unfold swOk; rw [hu, Bool.and_false])
        have HV := hidI (show swB s.data.toList v u = false from by unfold swB; rw [HY.out]; rfl)
        have HWU := hidI hu
        clear hg hp hk hv hu
        go_enter Tryd.func41, Tryd.ntmps41
        go_wp2_with (first | (go_at_call 54; refine (readTray_any s _ (gg.ml hm) hs).mono ?_; rintro e w1 ⟨rfl, g1⟩; rw [HK.out, HG.out, gvG]; have z1 := g1.size; have gg := gg.trans g1) | (refine r_alloc 53 _ Tryd.gzero rfl ?_; intro w2 B2 N2; have g2 := N2.gr; have b2 : Blk w2 B2 (gv 0 0 []) 53 := N2.blk; have l2 := N2.lo; have t2 := N2.hi; have z2 := g2.size; have gg := gg.trans g2; clear N2; obtain ⟨b2_0, b2_1, b2_2⟩ := gcells b2) | (refine r_store_row 53 53 _ _ _ rfl (gv g.w g.h g.c) _ rfl b2 (Tryd.gsize' _ _ _) (by simp only [gv_size]) (gv_one _ _ _) rfl ?_; intro w3 u3 b2'; have z3 := u3.size; have gg := u3.gr gg (by omega); clear b2; have b2 := b2'; clear b2'; obtain ⟨b2_0, b2_1, b2_2⟩ := gcells b2))
        refine (iIsWord v _).mono ?_
        rintro e w4 ⟨rfl, g4⟩
        rw [HWV.out]
        have gg := gg.trans g4
        have b2 := g4.blk b2
        go_wp2_with fail
        refine (iIsWord u _).mono ?_
        rintro e w5 ⟨rfl, g5⟩
        rw [HWU.out]
        have gg := gg.trans g5
        have b2 := g5.blk b2
        go_wp2
        go_ret2
        exact ⟨fin_bb HV.out.symm HY.out.symm, gg⟩
      · have HWU := hidI hu
        have HY := hidI (show swOk s.data.toList v u = true from by unfold swOk; rw [hk, hv, hu]; rfl)
        have HV := hidI (show swB s.data.toList v u = sameB (runG (wds v) g) (runG (wds u) g) from by unfold swB; rw [HY.out, hg]; rfl)
        obtain ⟨hc, -, -, -⟩ := cel_of hp
        have hv40 := (wordB_iff.1 hv).1
        have hu40 := (wordB_iff.1 hu).1
        have HRV := hidI (fun (w : World) (wv : Value) (h : WordAt w wv (wds v)) => tilted_any g (wds v) wv w hc (wds_lt hv) h (by rw [wds_length]; omega))
        have HRU := hidI (fun (w : World) (wv : Value) (h : WordAt w wv (wds u)) => tilted_any g (wds u) wv w hc (wds_lt hu) h (by rw [wds_length]; omega))
        obtain ⟨kv, hkv⟩ : ∃ kv, kv = runG (wds v) g := ⟨_, rfl⟩
        obtain ⟨ku, hku⟩ : ∃ ku, ku = runG (wds u) g := ⟨_, rfl⟩
        rw [← hkv] at HRV HV
        rw [← hku] at HRU HV
        clear hg hp hk hv hu hc hkv hku
        go_enter Tryd.func41, Tryd.ntmps41
        go_wp2_with (first | (go_at_call 54; refine (readTray_any s _ (gg.ml hm) hs).mono ?_; rintro e w1 ⟨rfl, g1⟩; rw [HK.out, HG.out, gvG]; have z1 := g1.size; have gg := gg.trans g1) | (refine r_alloc 53 _ Tryd.gzero rfl ?_; intro w2 B2 N2; have g2 := N2.gr; have b2 : Blk w2 B2 (gv 0 0 []) 53 := N2.blk; have l2 := N2.lo; have t2 := N2.hi; have z2 := g2.size; have gg := gg.trans g2; clear N2; obtain ⟨b2_0, b2_1, b2_2⟩ := gcells b2) | (refine r_store_row 53 53 _ _ _ rfl (gv g.w g.h g.c) _ rfl b2 (Tryd.gsize' _ _ _) (by simp only [gv_size]) (gv_one _ _ _) rfl ?_; intro w3 u3 b2'; have z3 := u3.size; have gg := u3.gr gg (by omega); clear b2; have b2 := b2'; clear b2'; obtain ⟨b2_0, b2_1, b2_2⟩ := gcells b2))
        refine (iIsWord v _).mono ?_
        rintro e w4 ⟨rfl, g4⟩
        rw [HWV.out]
        have gg := gg.trans g4
        have b2 := g4.blk b2
        go_wp2_with fail
        refine (iIsWord u _).mono ?_
        rintro e w5 ⟨rfl, g5⟩
        rw [HWU.out]
        have gg := gg.trans g5
        have b2 := g5.blk b2
        go_wp2_with fail
        have gd := (Gr.refl w5).drew
        have b2 := gd.blk b2
        have gg := gg.trans gd
        refine F_begin (fun w => Blk w B2 (gv g.w g.h g.c) 53) 9 11 #[false, false, false, false, false, false, false, false, false, false, false] rfl (by kernel_rfl) (by kernel_rfl) ?_
        generalize w5.drew = wd at *
        refine F_take (v := .agg (gvG g)) 0 #[true, false, false, false, false, false, false, false, false, false, false] rfl (by kernel_rfl) (fun _ _ _ h => h) rfl (fun w hF => e_load_row 53 (.tmp 8) B2 _ _ _ rfl hF Tryd.underlying53 rfl (Tryd.ginfo' _ _ _)) (b2) ?_; simp only [Act.put, List.setIfInBounds_toArray, List.set_cons_succ, List.set_cons_zero]
        refine F_free (v := .string v) 1 #[true, true, false, false, false, false, false, false, false, false, false] rfl (by kernel_rfl) (fun _ _ _ h => h) rfl (fun _ => rfl) (b2) ?_; simp only [Act.put, List.setIfInBounds_toArray, List.set_cons_succ, List.set_cons_zero]
        refine F_take (v := .agg (gvG g)) 4 #[true, true, false, false, true, false, false, false, false, false, false] rfl (by kernel_rfl) (fun _ _ _ h => h) rfl (fun w hF => e_load_row 53 (.tmp 8) B2 _ _ _ rfl hF Tryd.underlying53 rfl (Tryd.ginfo' _ _ _)) (b2) ?_; simp only [Act.put, List.setIfInBounds_toArray, List.set_cons_succ, List.set_cons_zero]
        refine F_free (v := .string u) 5 #[true, true, false, false, true, true, false, false, false, false, false] rfl (by kernel_rfl) (fun _ _ _ h => h) rfl (fun _ => rfl) (b2) ?_; simp only [Act.put, List.setIfInBounds_toArray, List.set_cons_succ, List.set_cons_zero]
        refine F_two 2 6 #[true, true, true, false, true, true, false, false, false, false, false] #[true, true, false, false, true, true, true, false, false, false, false] rfl rfl (by kernel_rfl) ?_ ?_
        · skip
          refine r_bytes 9 44 5 _ v rfl Tryd.underlying9 Tryd.underlying44 Tryd.underlying5 rfl ?_
          intro wa Ba capa ga la ba hcapa
          have gg := gg.trans ga
          have b2 := ga.blk b2
          refine ⟨fun _ => b2, ?_⟩
          simp only [Act.put, List.setIfInBounds_toArray, List.set_cons_succ, List.set_cons_zero]
          refine F_two 3 6 #[true, true, true, true, true, true, false, false, false, false, false] #[true, true, true, false, true, true, true, false, false, false, false] rfl rfl (by kernel_rfl) ?_ ?_
          · skip
            refine r_call 47 [.tmp 27, .tmp 29] _ [.agg (gvG g), .slice (some ⟨Ba, 0, none⟩) v.size capa] (.agg (gvG kv)) (fun w' => Gr wa w') Tryd.call47 rfl rfl (HRV.out _ _ (word_of_bb ba HWV.out)) ?_
            intro wc gc
            have gg := gg.trans gc
            have b2 := gc.blk b2
            refine ⟨fun _ => b2, ?_⟩
            simp only [Act.put, List.setIfInBounds_toArray, List.set_cons_succ, List.set_cons_zero]
            refine F_one 6 #[true, true, true, true, true, true, true, false, false, false, false] rfl (by kernel_rfl) ?_
            refine r_bytes 9 44 5 _ u rfl Tryd.underlying9 Tryd.underlying44 Tryd.underlying5 rfl ?_
            intro wb Bb capb gb lb bb hcapb
            have gg := gg.trans gb
            have b2 := gb.blk b2
            refine ⟨fun _ => b2, ?_⟩
            simp only [Act.put, List.setIfInBounds_toArray, List.set_cons_succ, List.set_cons_zero]
            refine F_one 7 #[true, true, true, true, true, true, true, true, false, false, false] rfl (by kernel_rfl) ?_
            refine r_call 47 [.tmp 31, .tmp 33] _ [.agg (gvG g), .slice (some ⟨Bb, 0, none⟩) u.size capb] (.agg (gvG ku)) (fun w' => Gr wb w') Tryd.call47 rfl rfl (HRU.out _ _ (word_of_bb bb HWU.out)) ?_
            intro wd' gd'
            have gg := gg.trans gd'
            have b2 := gd'.blk b2
            refine ⟨fun _ => b2, ?_⟩
            simp only [Act.put, List.setIfInBounds_toArray, List.set_cons_succ, List.set_cons_zero]
            refine F_one 8 #[true, true, true, true, true, true, true, true, true, false, false] rfl (by kernel_rfl) ?_
            refine r_call 70 [.tmp 30, .tmp 34] _ [.agg (gvG kv), .agg (gvG ku)] (.bool (sameB kv ku)) (fun w' => Gr wd' w') Tryd.call70 rfl rfl (isSame_any kv ku wd') ?_
            intro we ge
            have gg := gg.trans ge
            have b2 := ge.blk b2
            refine ⟨fun _ => b2, ?_⟩
            simp only [Act.put, List.setIfInBounds_toArray, List.set_cons_succ, List.set_cons_zero]
            refine F_one 9 #[true, true, true, true, true, true, true, true, true, true, false] rfl (by kernel_rfl) ?_
            refine r_val (.bool (sameB kv ku)) rfl rfl ?_
            simp only [Act.put, List.setIfInBounds_toArray, List.set_cons_succ, List.set_cons_zero]
            refine ⟨fun h => (by cases h), ?_⟩
            refine F_one 10 #[true, true, true, true, true, true, true, true, true, true, true] rfl (by kernel_rfl) ?_
            refine r_val (.bool true) rfl rfl ?_
            simp only [Act.put, List.setIfInBounds_toArray, List.set_cons_succ, List.set_cons_zero]
            refine ⟨fun h => (by cases h), ?_⟩
            refine F_done (by kernel_rfl) ?_
            go_wp2
            go_ret2
            exact ⟨fin_bb HV.out.symm HY.out.symm, gg⟩
          · skip
            refine r_bytes 9 44 5 _ u rfl Tryd.underlying9 Tryd.underlying44 Tryd.underlying5 rfl ?_
            intro wb Bb capb gb lb bb hcapb
            have gg := gg.trans gb
            have b2 := gb.blk b2
            refine ⟨fun _ => b2, ?_⟩
            simp only [Act.put, List.setIfInBounds_toArray, List.set_cons_succ, List.set_cons_zero]
            have ba := gb.bb ba
            refine F_one 3 #[true, true, true, true, true, true, true, false, false, false, false] rfl (by kernel_rfl) ?_
            refine r_call 47 [.tmp 27, .tmp 29] _ [.agg (gvG g), .slice (some ⟨Ba, 0, none⟩) v.size capa] (.agg (gvG kv)) (fun w' => Gr wb w') Tryd.call47 rfl rfl (HRV.out _ _ (word_of_bb ba HWV.out)) ?_
            intro wc gc
            have gg := gg.trans gc
            have b2 := gc.blk b2
            refine ⟨fun _ => b2, ?_⟩
            simp only [Act.put, List.setIfInBounds_toArray, List.set_cons_succ, List.set_cons_zero]
            have bb := gc.bb bb
            refine F_one 7 #[true, true, true, true, true, true, true, true, false, false, false] rfl (by kernel_rfl) ?_
            refine r_call 47 [.tmp 31, .tmp 33] _ [.agg (gvG g), .slice (some ⟨Bb, 0, none⟩) u.size capb] (.agg (gvG ku)) (fun w' => Gr wc w') Tryd.call47 rfl rfl (HRU.out _ _ (word_of_bb bb HWU.out)) ?_
            intro wd' gd'
            have gg := gg.trans gd'
            have b2 := gd'.blk b2
            refine ⟨fun _ => b2, ?_⟩
            simp only [Act.put, List.setIfInBounds_toArray, List.set_cons_succ, List.set_cons_zero]
            refine F_one 8 #[true, true, true, true, true, true, true, true, true, false, false] rfl (by kernel_rfl) ?_
            refine r_call 70 [.tmp 30, .tmp 34] _ [.agg (gvG kv), .agg (gvG ku)] (.bool (sameB kv ku)) (fun w' => Gr wd' w') Tryd.call70 rfl rfl (isSame_any kv ku wd') ?_
            intro we ge
            have gg := gg.trans ge
            have b2 := ge.blk b2
            refine ⟨fun _ => b2, ?_⟩
            simp only [Act.put, List.setIfInBounds_toArray, List.set_cons_succ, List.set_cons_zero]
            refine F_one 9 #[true, true, true, true, true, true, true, true, true, true, false] rfl (by kernel_rfl) ?_
            refine r_val (.bool (sameB kv ku)) rfl rfl ?_
            simp only [Act.put, List.setIfInBounds_toArray, List.set_cons_succ, List.set_cons_zero]
            refine ⟨fun h => (by cases h), ?_⟩
            refine F_one 10 #[true, true, true, true, true, true, true, true, true, true, true] rfl (by kernel_rfl) ?_
            refine r_val (.bool true) rfl rfl ?_
            simp only [Act.put, List.setIfInBounds_toArray, List.set_cons_succ, List.set_cons_zero]
            refine ⟨fun h => (by cases h), ?_⟩
            refine F_done (by kernel_rfl) ?_
            go_wp2
            go_ret2
            exact ⟨fin_bb HV.out.symm HY.out.symm, gg⟩
        · skip
          refine r_bytes 9 44 5 _ u rfl Tryd.underlying9 Tryd.underlying44 Tryd.underlying5 rfl ?_
          intro wb Bb capb gb lb bb hcapb
          have gg := gg.trans gb
          have b2 := gb.blk b2
          refine ⟨fun _ => b2, ?_⟩
          simp only [Act.put, List.setIfInBounds_toArray, List.set_cons_succ, List.set_cons_zero]
          refine F_one 2 #[true, true, true, false, true, true, true, false, false, false, false] rfl (by kernel_rfl) ?_
          refine r_bytes 9 44 5 _ v rfl Tryd.underlying9 Tryd.underlying44 Tryd.underlying5 rfl ?_
          intro wa Ba capa ga la ba hcapa
          have gg := gg.trans ga
          have b2 := ga.blk b2
          refine ⟨fun _ => b2, ?_⟩
          simp only [Act.put, List.setIfInBounds_toArray, List.set_cons_succ, List.set_cons_zero]
          have bb := ga.bb bb
          refine F_one 3 #[true, true, true, true, true, true, true, false, false, false, false] rfl (by kernel_rfl) ?_
          refine r_call 47 [.tmp 27, .tmp 29] _ [.agg (gvG g), .slice (some ⟨Ba, 0, none⟩) v.size capa] (.agg (gvG kv)) (fun w' => Gr wa w') Tryd.call47 rfl rfl (HRV.out _ _ (word_of_bb ba HWV.out)) ?_
          intro wc gc
          have gg := gg.trans gc
          have b2 := gc.blk b2
          refine ⟨fun _ => b2, ?_⟩
          simp only [Act.put, List.setIfInBounds_toArray, List.set_cons_succ, List.set_cons_zero]
          have bb := gc.bb bb
          refine F_one 7 #[true, true, true, true, true, true, true, true, false, false, false] rfl (by kernel_rfl) ?_
          refine r_call 47 [.tmp 31, .tmp 33] _ [.agg (gvG g), .slice (some ⟨Bb, 0, none⟩) u.size capb] (.agg (gvG ku)) (fun w' => Gr wc w') Tryd.call47 rfl rfl (HRU.out _ _ (word_of_bb bb HWU.out)) ?_
          intro wd' gd'
          have gg := gg.trans gd'
          have b2 := gd'.blk b2
          refine ⟨fun _ => b2, ?_⟩
          simp only [Act.put, List.setIfInBounds_toArray, List.set_cons_succ, List.set_cons_zero]
          refine F_one 8 #[true, true, true, true, true, true, true, true, true, false, false] rfl (by kernel_rfl) ?_
          refine r_call 70 [.tmp 30, .tmp 34] _ [.agg (gvG kv), .agg (gvG ku)] (.bool (sameB kv ku)) (fun w' => Gr wd' w') Tryd.call70 rfl rfl (isSame_any kv ku wd') ?_
          intro we ge
          have gg := gg.trans ge
          have b2 := ge.blk b2
          refine ⟨fun _ => b2, ?_⟩
          simp only [Act.put, List.setIfInBounds_toArray, List.set_cons_succ, List.set_cons_zero]
          refine F_one 9 #[true, true, true, true, true, true, true, true, true, true, false] rfl (by kernel_rfl) ?_
          refine r_val (.bool (sameB kv ku)) rfl rfl ?_
          simp only [Act.put, List.setIfInBounds_toArray, List.set_cons_succ, List.set_cons_zero]
          refine ⟨fun h => (by cases h), ?_⟩
          refine F_one 10 #[true, true, true, true, true, true, true, true, true, true, true] rfl (by kernel_rfl) ?_
          refine r_val (.bool true) rfl rfl ?_
          simp only [Act.put, List.setIfInBounds_toArray, List.set_cons_succ, List.set_cons_zero]
          refine ⟨fun h => (by cases h), ?_⟩
          refine F_done (by kernel_rfl) ?_
          go_wp2
          go_ret2
          exact ⟨fin_bb HV.out.symm HY.out.symm, gg⟩
set_option maxHeartbeats 2000000 in
set_option maxRecDepth 100000 in
theorem sAreSameWords (s v u : ByteArray) (w : World) (hs : s.size ≤ 1048576) : Calls Tryd.prog 40 #[.string s, .string v, .string u] w (Ret (.tuple #[.bool (swB s.data.toList v u), .bool (swOk s.data.toList v u)]) w) := by
  have gg := Gr.refl w
  go_enter Tryd.func40, Tryd.ntmps40
  go_wp2_with fail
  refine (tyRead_any s _ hs).mono ?_
  rintro e w1 ⟨g1, ⟨hp, rfl⟩ | ⟨g, sl, hp, rfl, hown⟩⟩
  · have HY := hidI (show swOk s.data.toList v u = false from by unfold swOk; rw [(rd_parse_none hp).2]; rfl)
    have HV := hidI (show swB s.data.toList v u = false from by unfold swB; rw [HY.out]; rfl)
    have z1 := g1.size
    have gg := gg.trans g1
    clear hp
    go_wp2_with (first | (refine r_alloc 46 _ Tryd.tzero rfl ?_; intro w2 B2 N2; have g2 := N2.gr; have b2 : Blk w2 B2 (tg 0 0 (.slice none 0 0)) 46 := N2.blk; have l2 := N2.lo; have t2 := N2.hi; have z2 := g2.size; have gg := gg.trans g2; clear N2; obtain ⟨b2_0, b2_1, b2_2⟩ := tcells b2) | (refine r_store_row 46 46 _ _ _ rfl (tg _ _ _) _ rfl b2 Tryd.tsize rfl (tg_one rfl) rfl ?_; intro w3 u3 b2'; have z3 := u3.size; have gg := u3.gr gg (by omega); clear b2; have b2 := b2'; clear b2'; obtain ⟨b2_0, b2_1, b2_2⟩ := tcells b2))
    go_ret2
    exact ⟨fin_bb HV.out.symm HY.out.symm, gg⟩
  · obtain ⟨hg, hk⟩ := rd_parse_some hp
    obtain ⟨hc, hw1, hh1, hl⟩ := cel_of hp
    have z1 := g1.size
    have gg := gg.trans g1
    have hone := own_one hown
    cases hv : wordB v
    · have HY := hidI (show swOk s.data.toList v u = false from by unfold swOk; rw [hv, Bool.and_false]; rfl)
      have HV := hidI (show swB s.data.toList v u = false from by unfold swB; rw [HY.out]; rfl)
      have HWV := hidI hv
      clear hg hp hk hv hc
      go_wp2_with (first | (refine r_alloc 46 _ Tryd.tzero rfl ?_; intro w2 B2 N2; have g2 := N2.gr; have b2 : Blk w2 B2 (tg 0 0 (.slice none 0 0)) 46 := N2.blk; have l2 := N2.lo; have t2 := N2.hi; have z2 := g2.size; have gg := gg.trans g2; clear N2; obtain ⟨b2_0, b2_1, b2_2⟩ := tcells b2) | (refine r_store_row 46 46 _ _ _ rfl (tg _ _ _) _ rfl b2 Tryd.tsize rfl (tg_one hone) rfl ?_; intro w3 u3 b2'; have z3 := u3.size; have gg := u3.gr gg (by omega); clear b2; have b2 := b2'; clear b2'; obtain ⟨b2_0, b2_1, b2_2⟩ := tcells b2) | (go_at_call 62; refine (tiWord_any v _).mono ?_; rintro e w4 ⟨rfl, g4⟩; rw [HWV.out]; have z4 := g4.size; have gg := gg.trans g4))
      go_ret2
      exact ⟨fin_bb HV.out.symm HY.out.symm, gg⟩
    · have HWV := hidI hv
      cases hu : wordB u
      · have HY := hidI (show swOk s.data.toList v u = false from by unfold swOk; rw [hu, Bool.and_false])
        have HV := hidI (show swB s.data.toList v u = false from by unfold swB; rw [HY.out]; rfl)
        have HWU := hidI hu
        clear hg hp hk hv hu hc
        go_wp2_with (first | (refine r_alloc 46 _ Tryd.tzero rfl ?_; intro w2 B2 N2; have g2 := N2.gr; have b2 : Blk w2 B2 (tg 0 0 (.slice none 0 0)) 46 := N2.blk; have l2 := N2.lo; have t2 := N2.hi; have z2 := g2.size; have gg := gg.trans g2; clear N2; obtain ⟨b2_0, b2_1, b2_2⟩ := tcells b2) | (refine r_store_row 46 46 _ _ _ rfl (tg _ _ _) _ rfl b2 Tryd.tsize rfl (tg_one hone) rfl ?_; intro w3 u3 b2'; have z3 := u3.size; have gg := u3.gr gg (by omega); clear b2; have b2 := b2'; clear b2'; obtain ⟨b2_0, b2_1, b2_2⟩ := tcells b2))
        refine (tiWord_any v _).mono ?_
        rintro e w4 ⟨rfl, g4⟩
        rw [HWV.out]
        have gg := gg.trans g4
        go_wp2_with fail
        refine (tiWord_any u _).mono ?_
        rintro e w5 ⟨rfl, g5⟩
        rw [HWU.out]
        have gg := gg.trans g5
        go_wp2
        go_ret2
        exact ⟨fin_bb HV.out.symm HY.out.symm, gg⟩
      · have HWU := hidI hu
        have HY := hidI (show swOk s.data.toList v u = true from by unfold swOk; rw [hk, hv, hu]; rfl)
        have HV := hidI (show swB s.data.toList v u = sameB (runG (wds v) g) (runG (wds u) g) from by unfold swB; rw [HY.out, hg]; rfl)
        have HRV := hidI (fun (w0 : World) (hb : w.heap.size ≤ w0.heap.size) (h : w0.ownsRow w.heap.size 5 1 sl g.c.length (cellsV g.c)) => tiRun_any g w.heap.size v sl w0 hc hv hl hb h)
        have HRU := hidI (fun (w0 : World) (hb : w.heap.size ≤ w0.heap.size) (h : w0.ownsRow w.heap.size 5 1 sl g.c.length (cellsV g.c)) => tiRun_any g w.heap.size u sl w0 hc hu hl hb h)
        have cv := hc.run (wds v) (wds_lt hv)
        have cu := hc.run (wds u) (wds_lt hu)
        obtain ⟨ev1, ev2⟩ := runG_w (wds v) g
        obtain ⟨eu1, eu2⟩ := runG_w (wds u) g
        obtain ⟨kv, hkv⟩ : ∃ kv, kv = runG (wds v) g := ⟨_, rfl⟩
        obtain ⟨ku, hku⟩ : ∃ ku, ku = runG (wds u) g := ⟨_, rfl⟩
        rw [← hkv] at HRV HV cv ev1 ev2
        rw [← hku] at HRU HV cu eu1 eu2
        have HST := hidI (same_txt cv cu (by rw [ev1]; exact hw1) (by rw [ev2]; exact hh1) (by rw [eu1]; exact hw1) (by rw [eu2]; exact hh1))
        have w7 := hc.w7
        have h7 := hc.h7
        have n36 := hc.n36
        have hlen := hc.len
        have hlv : kv.c.length = nn g.w g.h := by rw [cv.len, ev1, ev2]
        have hlu : ku.c.length = nn g.w g.h := by rw [cu.len, eu1, eu2]
        rw [ev1, ev2, eu1, eu2] at HST
        have HLV := hidI hlv
        have HLU := hidI hlu
        have HLEN := hidI hlen
        clear hg hp hk hv hu hc hkv hku cv cu ev1 ev2 eu1 eu2 hlv hlu hlen
        go_wp2_with (first | (refine r_alloc 46 _ Tryd.tzero rfl ?_; intro w2 B2 N2; have g2 := N2.gr; have b2 : Blk w2 B2 (tg 0 0 (.slice none 0 0)) 46 := N2.blk; have l2 := N2.lo; have t2 := N2.hi; have z2 := g2.size; have gg := gg.trans g2; clear N2; obtain ⟨b2_0, b2_1, b2_2⟩ := tcells b2) | (refine r_store_row 46 46 _ _ _ rfl (tg _ _ _) _ rfl b2 Tryd.tsize rfl (tg_one hone) rfl ?_; intro w3 u3 b2'; have z3 := u3.size; have gg := u3.gr gg (by omega); clear b2; have b2 := b2'; clear b2'; obtain ⟨b2_0, b2_1, b2_2⟩ := tcells b2))
        have own := u3.row (g2.row hown) (own_new hown l2)
        refine (tiWord_any v _).mono ?_
        rintro e w4 ⟨rfl, g4⟩
        rw [HWV.out]
        have gg := gg.trans g4
        have b2 := g4.blk b2
        have own := g4.row own
        go_wp2_with fail
        refine (tiWord_any u _).mono ?_
        rintro e w5 ⟨rfl, g5⟩
        rw [HWU.out]
        have gg := gg.trans g5
        have b2 := g5.blk b2
        have own := g5.row own
        go_wp2_with fail
        have gd := (Gr.refl w5).drew
        have b2 := gd.blk b2
        have own := gd.row own
        have gg := gg.trans gd
        refine F_begin (fun w => Blk w B2 (tg g.w g.h sl) 46) 9 11 #[false, false, false, false, false, false, false, false, false, false, false] rfl (by kernel_rfl) (by kernel_rfl) ?_
        generalize w5.drew = wd at *
        refine F_take (v := .agg (tg g.w g.h sl)) 0 #[true, false, false, false, false, false, false, false, false, false, false] rfl (by kernel_rfl) (fun _ _ _ h => h) rfl (fun w hF => e_load_row 46 (.tmp 8) B2 _ _ _ rfl hF Tryd.underlying46 rfl Tryd.tinfo) (b2) ?_; simp only [Act.put, List.setIfInBounds_toArray, List.set_cons_succ, List.set_cons_zero]
        refine F_free (v := .string v) 1 #[true, true, false, false, false, false, false, false, false, false, false] rfl (by kernel_rfl) (fun _ _ _ h => h) rfl (fun _ => rfl) (b2) ?_; simp only [Act.put, List.setIfInBounds_toArray, List.set_cons_succ, List.set_cons_zero]
        refine F_take (v := .agg (tg g.w g.h sl)) 4 #[true, true, false, false, true, false, false, false, false, false, false] rfl (by kernel_rfl) (fun _ _ _ h => h) rfl (fun w hF => e_load_row 46 (.tmp 8) B2 _ _ _ rfl hF Tryd.underlying46 rfl Tryd.tinfo) (b2) ?_; simp only [Act.put, List.setIfInBounds_toArray, List.set_cons_succ, List.set_cons_zero]
        refine F_free (v := .string u) 5 #[true, true, false, false, true, true, false, false, false, false, false] rfl (by kernel_rfl) (fun _ _ _ h => h) rfl (fun _ => rfl) (b2) ?_; simp only [Act.put, List.setIfInBounds_toArray, List.set_cons_succ, List.set_cons_zero]
        refine F_one 2 #[true, true, true, false, true, true, false, false, false, false, false] rfl (by kernel_rfl) ?_
        have zd := gg.size
        refine r_callx 68 [.tmp 27, .tmp 28] _ [.agg (tg g.w g.h sl), .string v] (fun v' w' => Gr wd w' ∧ ∃ s4, v' = .agg (tg g.w g.h s4) ∧ w'.ownsRow w.heap.size 5 1 s4 g.c.length (cellsV kv.c)) Tryd.call68 rfl rfl ((HRV.out wd zd own).mono (fun e w' ⟨h1, s4, h2, h3⟩ => ⟨_, h2, h1, s4, rfl, h3⟩)) ?_
        rintro v6 w6 ⟨g6, s6, rfl, own6⟩
        have gg := gg.trans g6
        have b2 := g6.blk b2
        have own := g6.row own
        refine ⟨fun _ => b2, ?_⟩
        simp only [Act.put, List.setIfInBounds_toArray, List.set_cons_succ, List.set_cons_zero]
        refine F_one 3 #[true, true, true, true, true, true, false, false, false, false, false] rfl (by kernel_rfl) ?_
        refine r_call 43 [.tmp 29] _ [.agg (tg g.w g.h s6)] (.string (txtB g.w g.h kv.c)) (fun w' => Gr w6 w') Tryd.call43 rfl rfl (tyText_n g.w g.h _ _ kv.c _ _ hw1 hh1 w7 h7 n36 HLV.out (by rw [HLV.out, HLEN.out]) own6) ?_
        intro w7' g7
        have gg := gg.trans g7
        have b2 := g7.blk b2
        have own := g7.row own
        refine ⟨fun _ => b2, ?_⟩
        simp only [Act.put, List.setIfInBounds_toArray, List.set_cons_succ, List.set_cons_zero]
        refine F_one 6 #[true, true, true, true, true, true, true, false, false, false, false] rfl (by kernel_rfl) ?_
        have zd := gg.size
        refine r_callx 68 [.tmp 31, .tmp 32] _ [.agg (tg g.w g.h sl), .string u] (fun v' w' => Gr w7' w' ∧ ∃ s4, v' = .agg (tg g.w g.h s4) ∧ w'.ownsRow w.heap.size 5 1 s4 g.c.length (cellsV ku.c)) Tryd.call68 rfl rfl ((HRU.out w7' zd own).mono (fun e w' ⟨h1, s4, h2, h3⟩ => ⟨_, h2, h1, s4, rfl, h3⟩)) ?_
        rintro v8 w8 ⟨g8, s8, rfl, own8⟩
        have gg := gg.trans g8
        have b2 := g8.blk b2
        refine ⟨fun _ => b2, ?_⟩
        simp only [Act.put, List.setIfInBounds_toArray, List.set_cons_succ, List.set_cons_zero]
        refine F_one 7 #[true, true, true, true, true, true, true, true, false, false, false] rfl (by kernel_rfl) ?_
        refine r_call 43 [.tmp 33] _ [.agg (tg g.w g.h s8)] (.string (txtB g.w g.h ku.c)) (fun w' => Gr w8 w') Tryd.call43 rfl rfl (tyText_n g.w g.h _ _ ku.c _ _ hw1 hh1 w7 h7 n36 HLU.out (by rw [HLU.out, HLEN.out]) own8) ?_
        intro w9 g9
        have gg := gg.trans g9
        have b2 := g9.blk b2
        refine ⟨fun _ => b2, ?_⟩
        simp only [Act.put, List.setIfInBounds_toArray, List.set_cons_succ, List.set_cons_zero]
        refine F_one 8 #[true, true, true, true, true, true, true, true, true, false, false] rfl (by kernel_rfl) ?_
        refine r_val (.bool (decide (txtB g.w g.h kv.c = txtB g.w g.h ku.c))) (e_eqlS _ _ _ _ rfl rfl) rfl ?_
        rw [← HST.out]
        refine ⟨fun _ => b2, ?_⟩
        simp only [Act.put, List.setIfInBounds_toArray, List.set_cons_succ, List.set_cons_zero]
        refine F_one 9 #[true, true, true, true, true, true, true, true, true, true, false] rfl (by kernel_rfl) ?_
        refine r_val (.bool (sameB kv ku)) rfl rfl ?_
        refine ⟨fun h => (by cases h), ?_⟩
        simp only [Act.put, List.setIfInBounds_toArray, List.set_cons_succ, List.set_cons_zero]
        refine F_one 10 #[true, true, true, true, true, true, true, true, true, true, true] rfl (by kernel_rfl) ?_
        refine r_val (.bool true) rfl rfl ?_
        refine ⟨fun h => (by cases h), ?_⟩
        simp only [Act.put, List.setIfInBounds_toArray, List.set_cons_succ, List.set_cons_zero]
        refine F_done (by kernel_rfl) ?_
        go_wp2
        go_ret2
        exact ⟨fin_bb HV.out.symm HY.out.symm, gg⟩
set_option maxHeartbeats 1000000 in
theorem lawAreSameWords (s v u : ByteArray) (w : World) (hm : ML w) : Calls Tryd.prog 13 #[.string s, .string v, .string u] w (Ret (.bool true) w) := by
  have gg := Gr.refl w
  by_cases hs : 1048576 < s.size
  · go_enter Tryd.func13, Tryd.ntmps13
    go_wp2
    go_ret
    exact ⟨rfl, gg⟩
  · have hs' : s.size ≤ 1048576 := by omega
    clear hs
    by_cases hc : 1048576 < v.size
    · go_enter Tryd.func13, Tryd.ntmps13
      go_wp2
      go_ret
      exact ⟨rfl, gg⟩
    · have hc' : v.size ≤ 1048576 := by omega
      clear hc
      by_cases hd : 1048576 < u.size
      · go_enter Tryd.func13, Tryd.ntmps13
        go_wp2
        go_ret
        exact ⟨rfl, gg⟩
      · have hd' : u.size ≤ 1048576 := by omega
        clear hd
        obtain ⟨x, hx⟩ : ∃ x, x = swB s.data.toList v u := ⟨_, rfl⟩
        have HX := hidI hx
        clear hx
        go_enter Tryd.func13, Tryd.ntmps13
        go_wp2_with (first | (go_at_call 40; refine (sAreSameWords s v u _ hs').mono ?_; rintro e w1 ⟨rfl, g1⟩; rw [← HX.out]; have z1 := g1.size; have gg := gg.trans g1) | (go_at_call 41; refine (iAreSameWords s v u _ (gg.ml hm) hs').mono ?_; rintro e w2 ⟨rfl, g2⟩; rw [← HX.out]; have z2 := g2.size; have gg := gg.trans g2))
        go_ret
        exact ⟨rfl, gg⟩
end Go.Proofs.YtppjlcmfmbpkjaaDoor
