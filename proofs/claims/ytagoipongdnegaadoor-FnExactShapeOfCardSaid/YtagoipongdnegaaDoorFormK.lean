/-
  The piece with a ball in a cell: by labels in the model, by a search in the program.
-/
import Derived.Test.YtagoipongdnegaaDoorFormI
import Derived.Test.YtagoipongdnegaaDoorFormS
import Derived.Test.YtagoipongdnegaaDoorBLa
namespace Go.Proofs.YtagoipongdnegaaDoor
open Go.RowKit
theorem results_row_2 {P : Program} {fn : Func} {p q r : Tmp} {T : TypeId} (h : fn.results = #[.cell p T, .tmp q, .tmp r]) (tmps : Array Value) (w : World) (B : Nat) (t : TypeId) (cs : Array Value) (d : TypeDesc)
    (hp : tmps.getD p undef = .pointer (some ⟨B, 0, none⟩)) (hg : Blk w B cs t)
    (hu : P.underlying T = some d) (hd : (match d with | .struct _ | .array _ _ => true | _ => false) = true) (hi : (P.info? T).map (·.size) = some cs.size) :
    (results fn tmps).run P w = .ok (.tuple #[.agg cs, tmps.getD q undef, tmps.getD r undef]) w := by
  have hp' : tmps[p]?.getD undef = .pointer (some ⟨B, 0, none⟩) := by simpa using hp
  simp [results, h, hp', asAddr, run_loadVar_row w B t T cs (0, 0) d hg hu hd hi]
theorem AnyK.mono {P : Program} {md : Region.Mode} {ops : Array Oper} {Q : Exit → Act → World → Prop} {F F' : World → Prop} {k : Nat} (h : ∀ w, F' w → F w) : ∀ (n : Nat) (l : Array Bool) (a : Act) (w : World), AnyK P md ops Q F' k n l a w → AnyK P md ops Q F k n l a w
  | 0, _, _, _, H => H
  | n + 1, _, _, _, H => ⟨H.1, fun i hi => wpOp_mono (fun a' w' q => ⟨fun hk => h _ (q.1 hk), AnyK.mono h n _ a' w' q.2⟩) (H.2 i hi)⟩
/-- An append to a list in newer memory leaves the rows. -/
theorem RowsK.app {T e : TypeId} {base : Nat} {L : List (List Int)} {k j : Nat} {vs : List Value} {w0 w w' : World} {b s n : Nat} {o : Value} {xs : List Value} (h : RowsK T base L k j vs w) (h0 : RowsK T base L k j vs w0) (ho : w.ownsRow b e s o n xs) (hb : w0.heap.size ≤ b) (g : Grb o.ownBlock w w') : RowsK T base L k j vs w' :=
  ⟨fun i l hl => by
    obtain ⟨v, hv, h1⟩ := h.at' i l hl
    obtain ⟨v0, hv0, h2⟩ := h0.at' i l hl
    rw [hv] at hv0
    cases hv0
    exact ⟨v, hv, g.row h1 (own_apart' h2 ho hb)⟩, h.ap⟩
theorem RowsK.apart {T e : TypeId} {base : Nat} {L : List (List Int)} {k j : Nat} {vs : List Value} {w0 w : World} {b s n : Nat} {o : Value} {xs : List Value} (h0 : RowsK T base L k j vs w0) (hn : vs.length = L.length) (ho : w.ownsRow b e s o n xs) (hb : w0.heap.size ≤ b) : ∀ u ∈ vs, u.ownBlock = none ∨ u.ownBlock ≠ o.ownBlock := by
  intro u hu
  obtain ⟨i, hi, e⟩ := List.getElem_of_mem hu
  obtain ⟨v, hv, h2⟩ := h0.at' i (L[i]'(by omega)) (List.getElem?_eq_getElem (by omega))
  rw [List.getElem?_eq_getElem hi, e] at hv
  cases hv
  exact own_apart' h2 ho hb
/-- The cells with a label. -/
def lbTo (o : List Int) (v : Int) : Nat → List Int
  | 0 => []
  | k + 1 => if gi o k = v then lbTo o v k ++ [(k : Int)] else lbTo o v k
theorem lbTo_le (o : List Int) (v : Int) (k : Nat) : (lbTo o v k).length ≤ k := by
  induction k with
  | zero => exact Nat.le_refl _
  | succ k ih =>
    unfold lbTo
    split
    · rw [List.length_append]; exact Nat.succ_le_succ ih
    · omega
theorem lb_pos {o R : List Int} {v : Int} (n : Nat) (h : ∀ i, i < n → (gi o i = v ↔ 0 ≤ gi R i)) : lbTo o v n = posTo R n := by
  induction n with
  | zero => rfl
  | succ n ih =>
    have e := h n (Nat.lt_succ_self n)
    unfold lbTo posTo
    rw [ih fun i hi => h i (Nat.lt_succ_of_lt hi)]
    by_cases h0 : gi o n = v
    · rw [if_pos h0, if_pos (e.1 h0)]
    · rw [if_neg h0, if_neg fun h1 => h0 (e.2 h1)]
/-- The lists by label. -/
def lbs (o : List Int) (N : Nat) : Nat → List (List Int)
  | 0 => []
  | k + 1 => lbs o N k ++ [lbTo o (k : Int) N]
theorem lbs_length (o : List Int) (N k : Nat) : (lbs o N k).length = k := by
  induction k with
  | zero => rfl
  | succ k ih => unfold lbs; rw [List.length_append, ih]; rfl
theorem lbs_at (o : List Int) (N : Nat) : ∀ (n : Nat) {k : Nat}, k < n → (lbs o N n)[k]? = some (lbTo o (k : Int) N)
  | n + 1, k, hk => by
    unfold lbs
    by_cases h : k < n
    · rw [List.getElem?_append_left (by rw [lbs_length]; exact h)]
      exact lbs_at o N n h
    · obtain rfl : k = n := by omega
      rw [List.getElem?_append_right (by rw [lbs_length]; exact Nat.le_refl _), lbs_length, Nat.sub_self]
      rfl
/-- PieceAt. -/
def pceOk (l : List UInt8) (x : Int) : Bool := rdOk l && inB x (nn (rdG l).w (rdG l).h) && okB (rdG l).c x.toNat
def pceG (l : List UInt8) (x : Int) : Grid := if pceOk l x then rdG l else ⟨0, 0, []⟩
def pceL (l : List UInt8) (x : Int) : List Int := if pceOk l x then posTo (farL (rdG l).w (rdG l).h (alC (rdG l).c) x.toNat) (nn (rdG l).w (rdG l).h) else []
theorem pceL_le (l : List UInt8) (x : Int) : (pceL l x).length ≤ 36 := by
  unfold pceL
  split
  · have h := posTo_le (farL (rdG l).w (rdG l).h (alC (rdG l).c) x.toNat) (nn (rdG l).w (rdG l).h)
    rcases rd_cases l with ⟨_, h2, _⟩ | ⟨g, hp, hg, _⟩
    · rw [h2] at h ⊢
      have : nn (⟨0, 0, []⟩ : Grid).w (⟨0, 0, []⟩ : Grid).h = 0 := rfl
      omega
    · rw [hg] at h ⊢
      have := (parse_tray hp).n36
      omega
  · exact Nat.zero_le _
theorem pce_label {W H i : Nat} {c : List UInt8} (hl : c.length = nn W H) (hc : ∀ j, j < c.length → isCellB (at0 c j) = true) (hi : i < nn W H) (hb : okB c i = true) :
    lbTo (skTo (okB c) W H (nn W H)).1 (gi (skTo (okB c) W H (nn W H)).1 i) (nn W H) = posTo (farL W H (alC c) i) (nn W H) ∧ 0 ≤ gi (skTo (okB c) W H (nn W H)).1 i ∧ gi (skTo (okB c) W H (nn W H)).1 i < (skTo (okB c) W H (nn W H)).2 := by
  have S := skTo_ok (okB c) W H (nn W H) (Nat.le_refl _)
  have h0 := S.all i hi hb
  refine ⟨lb_pos _ fun j hj => ?_, h0, (S.hi i hi).2⟩
  rw [(S.cls i hi h0).2 j hj, far_in hl hc hi hb hj]
theorem pce_none {W H i : Nat} {c : List UInt8} (hi : i < nn W H) (hb : okB c i = false) : gi (skTo (okB c) W H (nn W H)).1 i < 0 := by
  have S := skTo_ok (okB c) W H (nn W H) (Nat.le_refl _)
  by_cases h0 : 0 ≤ gi (skTo (okB c) W H (nn W H)).1 i
  · rw [(S.cls i hi h0).1] at hb; cases hb
  · omega
def RetPce (T : TypeId) (l : List UInt8) (x : Int) (w : World) (e : Ending) (w' : World) : Prop :=
  Gr w w' ∧ ∃ v, e = .returned (.tuple #[.agg (gvG (pceG l x)), v, .bool (pceOk l x)]) ∧ w'.ownsRow w.heap.size T 1 v (pceL l x).length (intsV (pceL l x))
def RetSk (T U : TypeId) (l : List UInt8) (x : Int) (w : World) (e : Ending) (w' : World) : Prop :=
  Gr w w' ∧ ((pceOk l x = false ∧ ∃ (a b : Int) (sl : Value), sl.oneCell' = true ∧ e = .returned (.tuple #[.agg (tg a b sl), .slice none 0 0, .bool false])) ∨
    ∃ (g : Grid) (G cap : Nat) (v : Value), parse l = some g ∧ rdG l = g ∧ pceOk l x = true ∧ e = .returned (.tuple #[.agg (tg g.w g.h (.slice (some ⟨G, 0, none⟩) (nn g.w g.h) cap)), v, .bool true]) ∧
      w'.ownsRow w.heap.size T 1 (.slice (some ⟨G, 0, none⟩) (nn g.w g.h) cap) (nn g.w g.h) (cellsV g.c) ∧ w'.ownsRow w.heap.size U 1 v (pceL l x).length (intsV (pceL l x)))
set_option maxHeartbeats 4000000 in
set_option maxRecDepth 100000 in
theorem readPiece_any (s : ByteArray) (x : Int) (w : World) (hm : ML w) (hs : s.size ≤ 1048576) : Calls Tryd.prog 60 #[.string s, .int .i64 x] w (RetPce 3 s.data.toList x w) := by
  have gg := Gr.refl w
  have HZ := hidI (fun (h : pceOk s.data.toList x = false) (w' : World) (g : Gr w w') => show RetPce 3 s.data.toList x w (.returned (.tuple #[.agg (gv 0 0 []), .slice none 0 0, .bool false])) w' from by
    have e : pceG s.data.toList x = ⟨0, 0, []⟩ := by unfold pceG; rw [h]; rfl
    have e2 : pceL s.data.toList x = [] := by unfold pceL; rw [h]; rfl
    refine ⟨g, _, by rw [e, h]; rfl, ?_⟩
    rw [e2]
    exact World.ownsRow_nil _ _ _ _)
  rcases rd_cases s.data.toList with ⟨hp, hg, hk⟩ | ⟨g, hp, hg, hk⟩
  · have HK := hidI hk
    have HG := hidI hg
    have HN := hidI (show pceOk s.data.toList x = false from by unfold pceOk; rw [hk]; rfl)
    clear hp hg hk
    go_enter Tryd.func60, Tryd.ntmps60
    go_wp2_with (first | (refine r_alloc (dst := some 4) 62 _ Tryd.gzero rfl ?_; intro w1 B1 N1; have g1 := N1.gr; have b1 : Blk w1 B1 (gv 0 0 []) 62 := N1.blk; have l1 := N1.lo; have t1 := N1.hi; have z1 := g1.size; have gg := gg.trans g1; clear N1; obtain ⟨b1_0, b1_1, b1_2⟩ := gcells b1) | (go_at_call 57; refine (readTray_any s _ (gg.ml hm) hs).mono ?_; rintro e w2 ⟨rfl, g2⟩; rw [HK.out, HG.out, gvG]; have z2 := g2.size; have b1 := g2.blk b1; obtain ⟨b1_0, b1_1, b1_2⟩ := gcells b1; have gg := gg.trans g2) | (refine r_alloc (dst := some 7) 62 _ Tryd.gzero rfl ?_; intro w3 B3 N3; have g3 := N3.gr; have b3 : Blk w3 B3 (gv 0 0 []) 62 := N3.blk; have l3 := N3.lo; have t3 := N3.hi; have z3 := g3.size; have b1 := g3.blk b1; obtain ⟨b1_0, b1_1, b1_2⟩ := gcells b1; have gg := gg.trans g3; clear N3; obtain ⟨b3_0, b3_1, b3_2⟩ := gcells b3) | (refine r_store_row 62 62 _ _ _ rfl (gv 0 0 []) _ rfl b3 (Tryd.gsize' _ _ _) (by simp only [gv_size]) (gv_one _ _ _) rfl ?_; intro w4 u4 b3'; have z4 := u4.size; have gg := u4.gr gg (by omega); have b1 := u4.blk b1 (by omega); obtain ⟨b1_0, b1_1, b1_2⟩ := gcells b1; clear b3; have b3 := b3'; clear b3'; obtain ⟨b3_0, b3_1, b3_2⟩ := gcells b3) | (refine r_build 62 [] [] _ (Tryd.gbuild0 _) rfl rfl ?_) | (refine r_store_row 62 62 _ _ _ rfl (gv 0 0 []) _ rfl b1 (Tryd.gsize' _ _ _) (by simp only [gv_size]) (gv_one _ _ _) rfl ?_; intro w5 u5 b1'; have z5 := u5.size; have gg := u5.gr gg (by omega); have b3 := u5.blk b3 (by omega); obtain ⟨b3_0, b3_1, b3_2⟩ := gcells b3; clear b1; have b1 := b1'; clear b1'; obtain ⟨b1_0, b1_1, b1_2⟩ := gcells b1))
    refine bodyPost_ret (results_row_2 rfl _ _ _ _ _ _ rfl b1 Tryd.underlying62 rfl (Tryd.ginfo' _ _ _)) rfl ?_
    exact HZ.out HN.out _ gg
  · have ht := parse_tray hp
    have hw1 := ht.w1
    have hw7 := ht.w7
    have hh7 := ht.h7
    have n36 := ht.n36
    have HK := hidI hk
    have HG := hidI hg
    have HPA := hidI (show pceOk s.data.toList x = (inB x (nn g.w g.h) && okB g.c x.toNat) from by unfold pceOk; rw [hk, hg, Bool.true_and])
    have HHN := hidI (fun w => hasNumber_any g.w g.h g.c x w hw7 hh7)
    cases hin : inB x (nn g.w g.h) with
    | false =>
      rw [hin] at HPA HHN
      clear hin hp hg hk ht
      go_enter Tryd.func60, Tryd.ntmps60
      go_wp2_with (first | (refine r_alloc (dst := some 4) 62 _ Tryd.gzero rfl ?_; intro w1 B1 N1; have g1 := N1.gr; have b1 : Blk w1 B1 (gv 0 0 []) 62 := N1.blk; have l1 := N1.lo; have t1 := N1.hi; have z1 := g1.size; have gg := gg.trans g1; clear N1; obtain ⟨b1_0, b1_1, b1_2⟩ := gcells b1) | (go_at_call 57; refine (readTray_any s _ (gg.ml hm) hs).mono ?_; rintro e w2 ⟨rfl, g2⟩; rw [HK.out, HG.out, gvG]; have z2 := g2.size; have b1 := g2.blk b1; obtain ⟨b1_0, b1_1, b1_2⟩ := gcells b1; have gg := gg.trans g2) | (refine r_alloc (dst := some 7) 62 _ Tryd.gzero rfl ?_; intro w3 B3 N3; have g3 := N3.gr; have b3 : Blk w3 B3 (gv 0 0 []) 62 := N3.blk; have l3 := N3.lo; have t3 := N3.hi; have z3 := g3.size; have b1 := g3.blk b1; obtain ⟨b1_0, b1_1, b1_2⟩ := gcells b1; have gg := gg.trans g3; clear N3; obtain ⟨b3_0, b3_1, b3_2⟩ := gcells b3) | (refine r_store_row 62 62 _ _ _ rfl (gv g.w g.h g.c) _ rfl b3 (Tryd.gsize' _ _ _) (by simp only [gv_size]) (gv_one _ _ _) rfl ?_; intro w4 u4 b3'; have z4 := u4.size; have gg := u4.gr gg (by omega); have b1 := u4.blk b1 (by omega); obtain ⟨b1_0, b1_1, b1_2⟩ := gcells b1; clear b3; have b3 := b3'; clear b3'; obtain ⟨b3_0, b3_1, b3_2⟩ := gcells b3) | (refine r_load_row 62 _ _ rfl _ _ _ b3 Tryd.underlying62 rfl (Tryd.ginfo' _ _ _) rfl ?_) | (go_at_call 52; refine (HHN.out _).mono ?_; rintro e w6 ⟨rfl, g6⟩; have z6 := g6.size; have b1 := g6.blk b1; obtain ⟨b1_0, b1_1, b1_2⟩ := gcells b1; have b3 := g6.blk b3; obtain ⟨b3_0, b3_1, b3_2⟩ := gcells b3; have gg := gg.trans g6) | (refine r_build 62 [] [] _ (Tryd.gbuild0 _) rfl rfl ?_) | (refine r_store_row 62 62 _ _ _ rfl (gv 0 0 []) _ rfl b1 (Tryd.gsize' _ _ _) (by simp only [gv_size]) (gv_one _ _ _) rfl ?_; intro w5 u5 b1'; have z5 := u5.size; have gg := u5.gr gg (by omega); have b3 := u5.blk b3 (by omega); obtain ⟨b3_0, b3_1, b3_2⟩ := gcells b3; clear b1; have b1 := b1'; clear b1'; obtain ⟨b1_0, b1_1, b1_2⟩ := gcells b1))
      refine bodyPost_ret (results_row_2 rfl _ _ _ _ _ _ rfl b1 Tryd.underlying62 rfl (Tryd.ginfo' _ _ _)) rfl ?_
      exact HZ.out HPA.out _ gg
    | true =>
      obtain ⟨hx0, hxN⟩ := inB_true.1 hin
      obtain ⟨i, rfl⟩ : ∃ i : Nat, x = i := ⟨x.toNat, by omega⟩
      have hiN : i < nn g.w g.h := by omega
      rw [hin, Int.toNat_natCast, Bool.true_and] at HPA
      rw [hin] at HHN
      have hix := fun B w => Tryd.gix B i (by omega) w
      have HIB := hidI (fun w => isBall_any (at0 g.c i) w)
      have hbe : ballB (at0 g.c i) = okB g.c i := ball_cell (ht.cells i (by rw [ht.len]; exact hiN))
      rw [hbe] at HIB
      cases hb : okB g.c i with
      | false =>
        rw [hb] at HIB HPA
        clear hin hp hg hk ht hb hbe hx0 hxN
        go_enter Tryd.func60, Tryd.ntmps60
        go_wp2_with (first | (refine r_alloc (dst := some 4) 62 _ Tryd.gzero rfl ?_; intro w1 B1 N1; have g1 := N1.gr; have b1 : Blk w1 B1 (gv 0 0 []) 62 := N1.blk; have l1 := N1.lo; have t1 := N1.hi; have z1 := g1.size; have gg := gg.trans g1; clear N1; obtain ⟨b1_0, b1_1, b1_2⟩ := gcells b1) | (go_at_call 57; refine (readTray_any s _ (gg.ml hm) hs).mono ?_; rintro e w2 ⟨rfl, g2⟩; rw [HK.out, HG.out, gvG]; have z2 := g2.size; have b1 := g2.blk b1; obtain ⟨b1_0, b1_1, b1_2⟩ := gcells b1; have gg := gg.trans g2) | (refine r_alloc (dst := some 7) 62 _ Tryd.gzero rfl ?_; intro w3 B3 N3; have g3 := N3.gr; have b3 : Blk w3 B3 (gv 0 0 []) 62 := N3.blk; have l3 := N3.lo; have t3 := N3.hi; have z3 := g3.size; have b1 := g3.blk b1; obtain ⟨b1_0, b1_1, b1_2⟩ := gcells b1; have gg := gg.trans g3; clear N3; obtain ⟨b3_0, b3_1, b3_2⟩ := gcells b3) | (refine r_store_row 62 62 _ _ _ rfl (gv g.w g.h g.c) _ rfl b3 (Tryd.gsize' _ _ _) (by simp only [gv_size]) (gv_one _ _ _) rfl ?_; intro w4 u4 b3'; have z4 := u4.size; have gg := u4.gr gg (by omega); have b1 := u4.blk b1 (by omega); obtain ⟨b1_0, b1_1, b1_2⟩ := gcells b1; clear b3; have b3 := b3'; clear b3'; obtain ⟨b3_0, b3_1, b3_2⟩ := gcells b3) | (refine r_load_row 62 _ _ rfl _ _ _ b3 Tryd.underlying62 rfl (Tryd.ginfo' _ _ _) rfl ?_) | (go_at_call 52; refine (HHN.out _).mono ?_; rintro e w6 ⟨rfl, g6⟩; have b1 := g6.blk b1; have b3 := g6.blk b3; obtain ⟨b3_0, b3_1, b3_2⟩ := gcells b3; have hcc := b3_2 i (by omega); have gg := gg.trans g6; have z6 := g6.size) | (go_at_call 102; refine (HIB.out _).mono ?_; rintro e wSame ⟨rfl, rfl⟩) | (refine r_build 62 [] [] _ (Tryd.gbuild0 _) rfl rfl ?_) | (refine r_store_row 62 62 _ _ _ rfl (gv 0 0 []) _ rfl b1 (Tryd.gsize' _ _ _) (by simp only [gv_size]) (gv_one _ _ _) rfl ?_; intro w5 u5 b1'; have z5 := u5.size; have gg := u5.gr gg (by omega); have b3 := u5.blk b3 (by omega); obtain ⟨b3_0, b3_1, b3_2⟩ := gcells b3; clear b1; have b1 := b1'; clear b1'; obtain ⟨b1_0, b1_1, b1_2⟩ := gcells b1))
        refine bodyPost_ret (results_row_2 rfl _ _ _ _ _ _ rfl b1 Tryd.underlying62 rfl (Tryd.ginfo' _ _ _)) rfl ?_
        exact HZ.out HPA.out _ gg
      | true =>
        rw [hb] at HIB HPA
        have HBA := hidI (fun w => ballsAlone_any g.w g.h g.c w hw7 hh7 n36 ht.len)
        have HPW := hidI (fun w => partWith_any g.w g.h i (alC g.c) w hw1 hw7 hh7 hiN n36)
        have HL := hidI (show pceG s.data.toList i = g ∧ pceL s.data.toList i = posTo (farL g.w g.h (alC g.c) i) (nn g.w g.h) from ⟨by unfold pceG; rw [HPA.out, hg]; rfl, by unfold pceL; rw [HPA.out, hg]; rfl⟩)
        clear hin hp hg hk ht hb hbe hx0 hxN HZ
        go_enter Tryd.func60, Tryd.ntmps60
        go_wp2_with (first | (refine r_alloc (dst := some 4) 62 _ Tryd.gzero rfl ?_; intro w1 B1 N1; have g1 := N1.gr; have b1 : Blk w1 B1 (gv 0 0 []) 62 := N1.blk; have l1 := N1.lo; have t1 := N1.hi; have z1 := g1.size; have gg := gg.trans g1; clear N1; obtain ⟨b1_0, b1_1, b1_2⟩ := gcells b1) | (go_at_call 57; refine (readTray_any s _ (gg.ml hm) hs).mono ?_; rintro e w2 ⟨rfl, g2⟩; rw [HK.out, HG.out, gvG]; have z2 := g2.size; have b1 := g2.blk b1; obtain ⟨b1_0, b1_1, b1_2⟩ := gcells b1; have gg := gg.trans g2) | (refine r_alloc (dst := some 7) 62 _ Tryd.gzero rfl ?_; intro w3 B3 N3; have g3 := N3.gr; have b3 : Blk w3 B3 (gv 0 0 []) 62 := N3.blk; have l3 := N3.lo; have t3 := N3.hi; have z3 := g3.size; have b1 := g3.blk b1; obtain ⟨b1_0, b1_1, b1_2⟩ := gcells b1; have gg := gg.trans g3; clear N3; obtain ⟨b3_0, b3_1, b3_2⟩ := gcells b3) | (refine r_store_row 62 62 _ _ _ rfl (gv g.w g.h g.c) _ rfl b3 (Tryd.gsize' _ _ _) (by simp only [gv_size]) (gv_one _ _ _) rfl ?_; intro w4 u4 b3'; have z4 := u4.size; have gg := u4.gr gg (by omega); have b1 := u4.blk b1 (by omega); obtain ⟨b1_0, b1_1, b1_2⟩ := gcells b1; clear b3; have b3 := b3'; clear b3'; obtain ⟨b3_0, b3_1, b3_2⟩ := gcells b3) | (refine r_load_row 62 _ _ rfl _ _ _ b3 Tryd.underlying62 rfl (Tryd.ginfo' _ _ _) rfl ?_) | (go_at_call 52; refine (HHN.out _).mono ?_; rintro e w6 ⟨rfl, g6⟩; have b1 := g6.blk b1; have b3 := g6.blk b3; obtain ⟨b3_0, b3_1, b3_2⟩ := gcells b3; have hcc := b3_2 i (by omega); have gg := gg.trans g6; have z6 := g6.size) | (go_at_call 102; refine (HIB.out _).mono ?_; rintro e wSame ⟨rfl, rfl⟩))
        have gd := (Gr.refl w6).drew
        have b1 := gd.blk b1
        have b3 := gd.blk b3
        have gg := gg.trans gd
        have zd := gd.size
        have hB13 : B1 ≠ B3 := by omega
        have lo1 : w.heap.size ≤ B1 := by omega
        refine K_begin (fun w => Blk w B3 (gv g.w g.h g.c) 62) 8 8 #[false, false, false, false, false, false, false, false] rfl (by kernel_rfl) (by kernel_rfl) ?_
        generalize w6.drew = wd at *
        refine K_take (v := .agg (gv g.w g.h g.c)) 0 #[true, false, false, false, false, false, false, false] rfl (by kernel_rfl) (fun _ _ _ h => h) rfl (fun w hF => e_load_row 62 (.tmp 7) B3 _ _ _ rfl hF Tryd.underlying62 rfl (Tryd.ginfo' _ _ _)) (b3) ?_; simp only [Act.put, List.setIfInBounds_toArray, List.set_cons_succ, List.set_cons_zero]
        refine K_take (v := .agg (gv g.w g.h g.c)) 1 #[true, true, false, false, false, false, false, false] rfl (by kernel_rfl) (fun _ _ _ h => h) rfl (fun w hF => e_load_row 62 (.tmp 7) B3 _ _ _ rfl hF Tryd.underlying62 rfl (Tryd.ginfo' _ _ _)) (b3) ?_; simp only [Act.put, List.setIfInBounds_toArray, List.set_cons_succ, List.set_cons_zero]
        refine K_take (v := .int .i64 i) 3 #[true, true, false, true, false, false, false, false] rfl (by kernel_rfl) (fun _ _ _ h => h) rfl (fun _ _ => rfl) (b3) ?_; simp only [Act.put, List.setIfInBounds_toArray, List.set_cons_succ, List.set_cons_zero]
        refine K_one 2 #[true, true, true, true, false, false, false, false] rfl (by kernel_rfl) ?_
        refine r_call 107 [.tmp 32] _ [.agg (gv g.w g.h g.c)] (.agg (gv g.w g.h (alC g.c))) (fun w' => Gr wd w') Tryd.call107 rfl rfl (HBA.out wd) ?_
        intro w7 g7
        have b1 := g7.blk b1
        have b3 := g7.blk b3
        have gg := gg.trans g7
        have z7 := g7.size
        simp only [Act.put, List.setIfInBounds_toArray, List.set_cons_succ, List.set_cons_zero]
        refine ⟨fun _ => b3, ?_⟩
        refine K_one 4 #[true, true, true, true, true, false, false, false] rfl (by kernel_rfl) ?_
        refine r_callx 106 [.tmp 33, .tmp 34] _ [.agg (gv g.w g.h (alC g.c)), .int .i64 i] (fun v w' => Gr w7 w' ∧ w'.ownsRow w7.heap.size 3 1 v (posTo (farL g.w g.h (alC g.c) i) (nn g.w g.h)).length (intsV (posTo (farL g.w g.h (alC g.c) i) (nn g.w g.h)))) Tryd.call106 rfl rfl ((HPW.out w7).mono fun e w' ⟨g, v, he, ho⟩ => ⟨v, he, g, ho⟩) ?_
        rintro v8 w8 ⟨g8, own8⟩
        rw [← HL.out.2] at own8
        have b1 := g8.blk b1
        have b3 := g8.blk b3
        have gg := gg.trans g8
        have z8 := g8.size
        simp only [Act.put, List.setIfInBounds_toArray, List.set_cons_succ, List.set_cons_zero]
        refine ⟨fun _ => b3, ?_⟩
        refine K_one 5 #[true, true, true, true, true, true, false, false] rfl (by kernel_rfl) ?_
        refine r_store_row 62 62 _ _ B1 rfl (gv g.w g.h g.c) _ rfl b1 (Tryd.gsize' _ _ _) (by simp only [gv_size]) (gv_one _ _ _) rfl ?_
        intro w9 u9 b19
        simp only [Act.put]
        have b3 := u9.blk b3 (by omega)
        have own8 := u9.row own8 (own_ne own8 b1 (by decide))
        refine ⟨fun _ => b3, ?_⟩
        refine K_one 6 #[true, true, true, true, true, true, true, false] rfl (by kernel_rfl) ?_
        refine r_val v8 rfl rfl ?_
        simp only [Act.put, List.setIfInBounds_toArray, List.set_cons_succ, List.set_cons_zero]
        refine ⟨fun _ => b3, ?_⟩
        refine K_one 7 #[true, true, true, true, true, true, true, true] rfl (by kernel_rfl) ?_
        refine r_val (.bool true) rfl rfl ?_
        simp only [Act.put, List.setIfInBounds_toArray, List.set_cons_succ, List.set_cons_zero]
        refine ⟨fun _ => b3, ?_⟩
        refine K_done' (by kernel_rfl) ?_
        go_wp2
        refine bodyPost_ret (results_row_2 rfl _ _ _ _ _ _ rfl b19 Tryd.underlying62 rfl (Tryd.ginfo' _ _ _)) rfl ⟨u9.gr gg lo1, v8, ?_, own_up own8 (by omega)⟩
        rw [HL.out.1, HPA.out]
        rfl
set_option maxHeartbeats 1000000 in
set_option maxRecDepth 100000 in
theorem iPieceAt (s : ByteArray) (x : Int) (w : World) (hm : ML w) (hs : s.size ≤ 1048576) : Calls Tryd.prog 26 #[.string s, .int .i64 x] w (RetInts 3 (pceL s.data.toList x) (pceOk s.data.toList x) w) := by
  have gg := Gr.refl w
  have HR := hidI (fun w (hm : ML w) => readPiece_any s x w hm hs)
  unfold RetPce at HR
  obtain ⟨g, hg⟩ : ∃ g, pceG s.data.toList x = g := ⟨_, rfl⟩
  rw [hg] at HR
  clear hg
  go_enter Tryd.func26, Tryd.ntmps26
  go_wp2_with (first | (go_at_call 60; refine (HR.out _ hm).mono ?_; rintro e w1 ⟨g1, v1, rfl, own1⟩; rw [gvG]; have gg := gg.trans g1; have z1 := g1.size) | (refine r_alloc 62 _ Tryd.gzero rfl ?_; intro w2 B2 N2; have g2 := N2.gr; have b2 : Blk w2 B2 (gv 0 0 []) 62 := N2.blk; have l2 := N2.lo; have t2 := N2.hi; have z2 := g2.size; have gg := gg.trans g2; clear N2; obtain ⟨b2_0, b2_1, b2_2⟩ := gcells b2) | (refine r_store_row 62 62 _ _ _ rfl (gv g.w g.h g.c) _ rfl b2 (Tryd.gsize' _ _ _) (by simp only [gv_size]) (gv_one _ _ _) rfl ?_; intro w3 u3 b2'; have z3 := u3.size; have gg := u3.gr gg (by omega); clear b2; have b2 := b2'; clear b2'; obtain ⟨b2_0, b2_1, b2_2⟩ := gcells b2))
  go_ret2
  exact ⟨gg, _, rfl, u3.row (g2.row own1) (own_new own1 l2)⟩
set_option maxHeartbeats 4000000 in
set_option maxRecDepth 100000 in
theorem skLists_any (o : List Int) (N n m base G cap : Nat) (w : World) (hlen : N = o.length) (h36 : N ≤ 36) (hn : n ≤ 36) (hmn : m < n)
    (hown : w.ownsRow base 3 1 (.slice (some ⟨G, 0, none⟩) N cap) N (intsV o)) :
    Calls Tryd.prog 105 #[.slice (some ⟨G, 0, none⟩) N cap, .int .i64 n] w fun e w' => ∃ sv, e = .returned sv ∧ Gr w w' ∧ ∃ (G2 cap2 : Nat) (vs : List Value) (v : Value), sv = .slice (some ⟨G2, 0, none⟩) n cap2 ∧
      w'.ownsRow w.heap.size 27 1 (.slice (some ⟨G2, 0, none⟩) n cap2) n vs ∧ vs[m]? = some v ∧ w'.ownsRow w.heap.size 3 1 v (lbTo o (m : Int) N).length (intsV (lbTo o (m : Int) N)) := by
  have gg := Gr.refl w
  have HL := hidI (lbs_length o N)
  have HA := hidI (lbs_at o N n hmn)
  have HLE := hidI (lbTo_le o)
  have HOL := hidI hlen
  clear hlen
  go_enter Tryd.func105, Tryd.ntmps105
  go_wp2
  have own0 : w.ownsRow w.heap.size 27 1 (.slice none 0 0) 0 [] := World.ownsRow_nil _ _ _ _
  go_loopw [5, 6] (fun lv kv wr => ∃ (k : Nat) (vs : List Value), k ≤ n ∧ kv = .int .i64 k ∧ vs.length = k ∧ wr.ownsRow w.heap.size 27 1 lv k vs ∧ RowsK 3 w.heap.size (lbs o N k) 0 0 vs wr ∧ wr.ownsRow base 3 1 (.slice (some ⟨G, 0, none⟩) N cap) N (intsV o) ∧ Gr w wr) (fun _ kv _ => n - (intOf kv).toNat)
  case atStart => exact ⟨0, [], Nat.zero_le _, rfl, rfl, own0, RowsK.nil _ _ _ _ _, hown, gg⟩
  case round =>
    clear own0 gg
    obtain ⟨k, vs, hk, rfl, hvs, own, R, own2, gg⟩ := hrel
    obtain ⟨wq, rfl⟩ : ∃ wq : World, wq = wr := ⟨_, rfl⟩
    have zq := gg.size
    by_cases hlt : k < n
    · obtain ⟨pl, nl, kl, rfl⟩ := own_slice own
      go_wp2
      have HR := hidI R
      have HO := hidI own2
      have ownl : wq.ownsRow wq.heap.size 3 1 (.slice none 0 0) (lbTo o (k : Int) 0).length (intsV (lbTo o (k : Int) 0)) := World.ownsRow_nil _ _ _ _
      go_loopw [7, 17] (fun sv iv wr => ∃ i : Nat, i ≤ N ∧ iv = .int .i64 i ∧ wr.ownsRow wq.heap.size 3 1 sv (lbTo o (k : Int) i).length (intsV (lbTo o (k : Int) i)) ∧ wr.ownsRow w.heap.size 27 1 (.slice pl nl kl) k vs ∧ RowsK 3 w.heap.size (lbs o N k) 0 0 vs wr ∧ wr.ownsRow base 3 1 (.slice (some ⟨G, 0, none⟩) N cap) N (intsV o) ∧ Gr w wr ∧ wq.heap.size ≤ wr.heap.size) (fun _ iv _ => N - (intOf iv).toNat)
      case atStart => exact ⟨0, Nat.zero_le _, rfl, ownl, own, R, own2, gg, Nat.le_refl _⟩
      case round =>
        clear ownl own R own2 gg
        obtain ⟨i, hi, rfl, ownl, own, R, own2, gg, zr⟩ := hrel
        have hfl := HLE.out (k : Int) i
        by_cases hil : i < N
        · have cx := own_int own2 i hil HOL.out
          obtain ⟨x, hx⟩ : ∃ x, x = gi o i := ⟨_, rfl⟩
          rw [← hx] at cx
          by_cases he : x = (k : Int)
          · have e1 : (x == (k : Int)) = true := by rw [he]; simp
            have HS := hidI (show lbTo o (k : Int) (i + 1) = lbTo o (k : Int) i ++ [(i : Int)] from by rw [lbTo, if_pos (by rw [← hx]; exact he)])
            clear hx he
            go_wp2_with (first | (refine r_idx 27 _ _ (.slice (some ⟨G, 0, none⟩) N cap) (.int .i64 i) _ rfl rfl (Tryd.wix0 G N cap i hil _) rfl ?_) | (refine r_ldc 3 _ ⟨G, i, none⟩ (.int .i64 x) rfl (Tryd.isAgg3 _) cx rfl ?_) | (refine r_slice1 27 3 (.tmp 26) (.int .i64 i) rfl (Tryd.bsi1 _ _) rfl ?_; intro w7 B7 N7; have g7 := N7.gr; have ownl := g7.row ownl; have own := g7.row own; have own2 := g7.row own2; have R := R.gr g7; have gg := gg.trans g7; have z7 := g7.size) | (refine r_append (.tmp 25) (.tmp 27) 27 3 _ 1 8 wq.heap.size Tryd.intsI _ _ _ rfl ownl ⟨B7, 0, none⟩ 1 1 [.int .i64 i] rfl rfl N7.cell1 (intsV_one [(i : Int)]) (by omega) (by decide) (by omega) rfl ?_; intro v8 w8 own8 g8))
            have R := R.app HR.out ownl (Nat.le_refl _) g8
            have own2 := g8.row own2 (own_apart' HO.out ownl (Nat.le_refl _))
            have own := g8.row own (own_ne2 own ownl (by decide))
            have gg := g8.gr gg (own_gr ownl (by omega))
            have z8 := g8.size
            go_roundw
            case rel => exact ⟨i + 1, by omega, by go_num, by rw [HS.out, ← intsV_append, List.length_append]; exact own8, own, R, own2, gg, by omega⟩
            case measure => simp [intOf]; omega
          · have e1 : (x == (k : Int)) = false := by simpa using he
            have HS := hidI (show lbTo o (k : Int) (i + 1) = lbTo o (k : Int) i from by rw [lbTo, if_neg (by rw [← hx]; exact he)])
            clear hx he
            go_wp2_with (first | (refine r_idx 27 _ _ (.slice (some ⟨G, 0, none⟩) N cap) (.int .i64 i) _ rfl rfl (Tryd.wix0 G N cap i hil _) rfl ?_) | (refine r_ldc 3 _ ⟨G, i, none⟩ (.int .i64 x) rfl (Tryd.isAgg3 _) cx rfl ?_))
            go_roundw
            case rel => exact ⟨i + 1, by omega, by go_num, by rw [HS.out]; exact ownl, own, R, own2, gg, zr⟩
            case measure => simp [intOf]; omega
        · have hiN : i = N := by omega
          rw [hiN] at ownl
          clear hil
          obtain ⟨p, n5, k5, rfl⟩ := own_slice ownl
          have HVL := hidI hvs
          go_wp2_with (first | (refine r_slice1 114 27 (.tmp 31) (.slice p n5 k5) rfl (Tryd.bssi1 _ _ _ _) rfl ?_; intro w7 B7 N7; have g7 := N7.gr; have ownl := g7.row ownl; have own := g7.row own; have own2 := g7.row own2; have R := R.gr g7; have gg := gg.trans g7; have z7 := g7.size) | (refine r_append (.tmp 30) (.tmp 32) 114 27 _ 1 24 w.heap.size Tryd.intSSI _ _ vs rfl own ⟨B7, 0, none⟩ 1 1 [.slice p n5 k5] rfl rfl N7.cell1 (by intro u hu; simp at hu; subst hu; rfl) (by omega) (by decide) (by have := gg.size; omega) rfl ?_; intro v8 w8 own8 g8))
          have hap := HR.out.apart (by rw [HL.out]; exact HVL.out) ownl (Nat.le_refl _)
          have R := R.grb own (by decide) g8
          have ownl := g8.row ownl (own_ne2 ownl own (by decide))
          have own2 := g8.row own2 (own_ne2 own2 own (by decide))
          have gg := g8.gr gg (own_gr own (Nat.le_refl _))
          have R := R.snoc (by rw [HL.out]; exact HVL.out) (own_up ownl (by omega)) hap
          go_roundw
          case rel => exact ⟨k + 1, _, by omega, by go_num, by rw [List.length_append, HVL.out]; rfl, own8, R, own2, gg⟩
          case measure => simp [intOf]; omega
    · have hkn : k = n := by omega
      rw [hkn] at own R
      clear hlt
      obtain ⟨G2, cap2, rfl, -, -⟩ := own_shape own (by omega)
      obtain ⟨v, hv, ho⟩ := R.at' m _ HA.out
      rw [if_neg (Nat.not_lt_zero _)] at ho
      go_wp2
      go_ret
      exact ⟨_, rfl, gg, G2, cap2, vs, v, rfl, own, hv, ho⟩
set_option maxHeartbeats 4000000 in
set_option maxRecDepth 100000 in
theorem skAt_any (s : ByteArray) (x : Int) (w : World) (hs : s.size ≤ 1048576) : Calls Tryd.prog 59 #[.string s, .int .i64 x] w (RetSk 5 3 s.data.toList x w) := by
  have gg := Gr.refl w
  go_enter Tryd.func59, Tryd.ntmps59
  go_wp2_with (refine r_alloc (dst := some 4) 45 _ Tryd.tzero rfl ?_; intro w1 B1 N1; have g1 := N1.gr; have b1 : Blk w1 B1 (tg 0 0 (.slice none 0 0)) 45 := N1.blk; have l1 := N1.lo; have t1 := N1.hi; have z1 := g1.size; have gg := gg.trans g1; clear N1; obtain ⟨b1_0, b1_1, b1_2⟩ := tcells b1)
  refine (tyRead_any s _ hs).mono ?_
  rintro e w2 ⟨g2, ⟨hp, rfl⟩ | ⟨g, sl, hp, rfl, hown⟩⟩
  · have HF := hidI (show pceOk s.data.toList x = false from by unfold pceOk; rw [(rd_parse_none hp).2]; rfl)
    have z2 := g2.size
    have b1 := g2.blk b1
    have gg := gg.trans g2
    clear hp
    go_wp2_with (first | (refine r_alloc (dst := some 7) 45 _ Tryd.tzero rfl ?_; intro w4 B4 N4; have g4 := N4.gr; have b4 : Blk w4 B4 (tg 0 0 (.slice none 0 0)) 45 := N4.blk; have l4 := N4.lo; have t4 := N4.hi; have z4 := g4.size; have b1 := g4.blk b1; obtain ⟨b1_0, b1_1, b1_2⟩ := tcells b1; have gg := gg.trans g4; clear N4; obtain ⟨b4_0, b4_1, b4_2⟩ := tcells b4) | (refine r_store_row 45 45 _ _ _ rfl (tg _ _ _) _ rfl b4 Tryd.tsize rfl (tg_one rfl) rfl ?_; intro w3 u3 b4'; have z3 := u3.size; have gg := u3.gr gg (by omega); have b1 := u3.blk b1 (by omega); obtain ⟨b1_0, b1_1, b1_2⟩ := tcells b1; clear b4; have b4 := b4'; clear b4'; obtain ⟨b4_0, b4_1, b4_2⟩ := tcells b4) | (refine r_load_row 45 _ _ rfl _ _ _ b4 Tryd.underlying45 rfl Tryd.tinfo rfl ?_) | (refine r_store_row 45 45 _ _ _ rfl (tg _ _ _) _ rfl b1 Tryd.tsize rfl (tg_one rfl) rfl ?_; intro w5 u5 b1'; have z5 := u5.size; have gg := u5.gr gg (by omega); have b4 := u5.blk b4 (by omega); obtain ⟨b4_0, b4_1, b4_2⟩ := tcells b4; clear b1; have b1 := b1'; clear b1'; obtain ⟨b1_0, b1_1, b1_2⟩ := tcells b1))
    refine bodyPost_ret (results_row_2 rfl _ _ _ _ _ _ rfl b1 Tryd.underlying45 rfl Tryd.tinfo) rfl ⟨gg, .inl ⟨HF.out, 0, 0, _, rfl, rfl⟩⟩
  · obtain ⟨hg, hk⟩ := rd_parse_some hp
    have ht := parse_tray hp
    have hw1 := ht.w1
    have hw7 := ht.w7
    have hh7 := ht.h7
    obtain ⟨N, hN⟩ : ∃ N, N = nn g.w g.h := ⟨_, rfl⟩
    have hN1 : 1 ≤ N := by rw [hN]; exact Nat.mul_pos ht.w1 ht.h1
    have h36 : N ≤ 36 := by rw [hN]; exact ht.n36
    have hcl : N = g.c.length := by rw [ht.len, hN]
    have hpl := hp
    rw [← hcl] at hown
    obtain ⟨Gc, capc, rfl, hG, hcap⟩ := own_shape hown hN1
    have z2 := g2.size
    have b1 := g2.blk b1
    have gg := gg.trans g2
    have hone := own_one hown
    have HPA := hidI (show pceOk s.data.toList x = (inB x N && okB g.c x.toNat) from by unfold pceOk; rw [hk, hg, Bool.true_and, hN])
    obtain ⟨B, hB⟩ : ∃ B, B = inB x N := ⟨_, rfl⟩
    have HL1 := hidI (fun w => show Calls Tryd.prog 103 #[.int .i64 x, .int .i64 0, .int .i64 ((N : Int) - 1)] w fun e w' => e = .returned (.bool B) ∧ w = w' from (l1In_any x 0 ((N : Int) - 1) w).mono fun e w' ⟨h1, h2⟩ => ⟨by rw [h1, btw_inB, hB], h2⟩)
    cases B with
    | false =>
      have HF := hidI (show pceOk s.data.toList x = false from by rw [HPA.out, ← hB]; rfl)
      clear hp hg hk ht hN hcl hpl hB
      go_wp2_with (first | (refine r_alloc (dst := some 7) 45 _ Tryd.tzero rfl ?_; intro w4 B4 N4; have g4 := N4.gr; have b4 : Blk w4 B4 (tg 0 0 (.slice none 0 0)) 45 := N4.blk; have l4 := N4.lo; have t4 := N4.hi; have z4 := g4.size; have b1 := g4.blk b1; obtain ⟨b1_0, b1_1, b1_2⟩ := tcells b1; have gg := gg.trans g4; clear N4; obtain ⟨b4_0, b4_1, b4_2⟩ := tcells b4) | (refine r_store_row 45 45 _ _ _ rfl (tg _ _ _) _ rfl b4 Tryd.tsize rfl (tg_one hone) rfl ?_; intro w3 u3 b4'; have z3 := u3.size; have gg := u3.gr gg (by omega); have b1 := u3.blk b1 (by omega); obtain ⟨b1_0, b1_1, b1_2⟩ := tcells b1; clear b4; have b4 := b4'; clear b4'; obtain ⟨b4_0, b4_1, b4_2⟩ := tcells b4) | (go_at_call 103; refine (HL1.out _).mono ?_; rintro e wSame ⟨rfl, rfl⟩) | (refine r_load_row 45 _ _ rfl _ _ _ b4 Tryd.underlying45 rfl Tryd.tinfo rfl ?_) | (refine r_store_row 45 45 _ _ _ rfl (tg _ _ _) _ rfl b1 Tryd.tsize rfl (tg_one hone) rfl ?_; intro w5 u5 b1'; have z5 := u5.size; have gg := u5.gr gg (by omega); have b4 := u5.blk b4 (by omega); obtain ⟨b4_0, b4_1, b4_2⟩ := tcells b4; clear b1; have b1 := b1'; clear b1'; obtain ⟨b1_0, b1_1, b1_2⟩ := tcells b1))
      refine bodyPost_ret (results_row_2 rfl _ _ _ _ _ _ rfl b1 Tryd.underlying45 rfl Tryd.tinfo) rfl ⟨gg, .inl ⟨HF.out, _, _, _, hone, rfl⟩⟩
    | true =>
      obtain ⟨hx0, hxN⟩ := inB_true.1 hB.symm
      obtain ⟨i, rfl⟩ : ∃ i : Nat, x = i := ⟨x.toNat, by omega⟩
      have hiN : i < N := by omega
      rw [← hB, Bool.true_and, Int.toNat_natCast] at HPA
      have S := skTo_ok (okB g.c) g.w g.h N (by rw [hN]; exact Nat.le_refl _)
      have HSP := hidI (fun (b : Nat) w ho => skPieces_any g.w g.h b Gc capc N g.c w hw1 hw7 hh7 hN hN1 h36 hcl ho)
      have HPN := hidI (fun h => pce_none (W := g.w) (H := g.h) (c := g.c) (i := i) (by rw [← hN]; exact hiN) h)
      have HPL := hidI (fun h => pce_label (W := g.w) (H := g.h) (c := g.c) (i := i) ht.len ht.cells (by rw [← hN]; exact hiN) h)
      rw [← hN] at HPN HPL
      obtain ⟨o, ho⟩ : ∃ o, o = (skTo (okB g.c) g.w g.h N).1 := ⟨_, rfl⟩
      obtain ⟨n, hn⟩ : ∃ n, n = (skTo (okB g.c) g.w g.h N).2 := ⟨_, rfl⟩
      rw [← ho, ← hn] at HSP HPL S
      rw [← ho] at HPN
      have HOL := hidI (show N = o.length from by rw [S.len, hN])
      have hn36 : n ≤ 36 := by have := S.le; omega
      obtain ⟨y, hy⟩ : ∃ y, y = gi o i := ⟨_, rfl⟩
      rw [← hy] at HPN HPL
      cases hb : okB g.c i with
      | false =>
        have HF := hidI (show pceOk s.data.toList i = false from by rw [HPA.out, hb])
        have hneg := HPN.out hb
        have HY := hidI hy
        clear hp hg hk ht hN hcl hpl hB ho hn S hb hy HPL HPN
        go_wp2_with (first | (refine r_alloc (dst := some 7) 45 _ Tryd.tzero rfl ?_; intro w4 B4 N4; have g4 := N4.gr; have b4 : Blk w4 B4 (tg 0 0 (.slice none 0 0)) 45 := N4.blk; have l4 := N4.lo; have t4 := N4.hi; have z4 := g4.size; have b1 := g4.blk b1; obtain ⟨b1_0, b1_1, b1_2⟩ := tcells b1; have gg := gg.trans g4; clear N4; obtain ⟨b4_0, b4_1, b4_2⟩ := tcells b4) | (refine r_store_row 45 45 _ _ _ rfl (tg _ _ _) _ rfl b4 Tryd.tsize rfl (tg_one hone) rfl ?_; intro w3 u3 b4'; have z3 := u3.size; have gg := u3.gr gg (by omega); have b1 := u3.blk b1 (by omega); obtain ⟨b1_0, b1_1, b1_2⟩ := tcells b1; clear b4; have b4 := b4'; clear b4'; obtain ⟨b4_0, b4_1, b4_2⟩ := tcells b4) | (go_at_call 103; refine (HL1.out _).mono ?_; rintro e wSame ⟨rfl, rfl⟩) | (refine r_load_row 45 _ _ rfl _ _ _ b4 Tryd.underlying45 rfl Tryd.tinfo rfl ?_) | (go_at_call 104; refine (HSP.out _ _ (u3.row (g4.row hown) (own_new hown l4))).mono ?_; rintro e w5 ⟨g5, v5, rfl, own5⟩; obtain ⟨Gp, kp, rfl, -, -⟩ := own_shape own5 hN1; have cy := own_int own5 i hiN HOL.out; rw [← HY.out] at cy; have b1 := g5.blk b1; have b4 := g5.blk b4; have gg := gg.trans g5; have z5 := g5.size) | (refine r_idx 27 _ _ (.slice (some ⟨Gp, 0, none⟩) N kp) (.int .i64 i) _ rfl rfl (Tryd.wix0 Gp N kp i hiN _) rfl ?_) | (refine r_ldc 3 _ ⟨Gp, i, none⟩ (.int .i64 y) rfl (Tryd.isAgg3 _) cy rfl ?_) | (refine r_store_row 45 45 _ _ _ rfl (tg _ _ _) _ rfl b1 Tryd.tsize rfl (tg_one hone) rfl ?_; intro w6 u6 b1'; have z6 := u6.size; have gg := u6.gr gg (by omega); have b4 := u6.blk b4 (by omega); clear b1; have b1 := b1'; clear b1'; obtain ⟨b1_0, b1_1, b1_2⟩ := tcells b1))
        refine bodyPost_ret (results_row_2 rfl _ _ _ _ _ _ rfl b1 Tryd.underlying45 rfl Tryd.tinfo) rfl ⟨gg, .inl ⟨HF.out, _, _, _, hone, rfl⟩⟩
      | true =>
        rw [hb] at HPA
        have hpl2 := HPL.out hb
        obtain ⟨p, rfl⟩ : ∃ p : Nat, y = p := ⟨y.toNat, by omega⟩
        have hpn : p < n := by omega
        have HV := hidI (show pceL s.data.toList i = lbTo o (p : Int) N from by unfold pceL; rw [HPA.out, if_pos rfl, hpl2.1, hg, Int.toNat_natCast, hN])
        have HLS := hidI (fun (b G cap : Nat) w ho => skLists_any o N n p b G cap w HOL.out h36 hn36 hpn ho)
        have HY := hidI hy
        have HG := hidI hg
        have HP := hidI hp
        have HN := hidI hN
        clear hp hg hk ht hN hcl hpl hB ho hn S hb hy HPL HPN hpl2
        go_wp2_with (first | (refine r_alloc (dst := some 7) 45 _ Tryd.tzero rfl ?_; intro w4 B4 N4; have g4 := N4.gr; have b4 : Blk w4 B4 (tg 0 0 (.slice none 0 0)) 45 := N4.blk; have l4 := N4.lo; have t4 := N4.hi; have z4 := g4.size; have b1 := g4.blk b1; obtain ⟨b1_0, b1_1, b1_2⟩ := tcells b1; have gg := gg.trans g4; clear N4; obtain ⟨b4_0, b4_1, b4_2⟩ := tcells b4) | (refine r_store_row 45 45 _ _ _ rfl (tg _ _ _) _ rfl b4 Tryd.tsize rfl (tg_one hone) rfl ?_; intro w3 u3 b4'; have z3 := u3.size; have gg := u3.gr gg (by omega); have b1 := u3.blk b1 (by omega); obtain ⟨b1_0, b1_1, b1_2⟩ := tcells b1; clear b4; have b4 := b4'; clear b4'; obtain ⟨b4_0, b4_1, b4_2⟩ := tcells b4) | (go_at_call 103; refine (HL1.out _).mono ?_; rintro e wSame ⟨rfl, rfl⟩) | (refine r_load_row 45 _ _ rfl _ _ _ b4 Tryd.underlying45 rfl Tryd.tinfo rfl ?_) | (go_at_call 104; refine (HSP.out _ _ (u3.row (g4.row hown) (own_new hown l4))).mono ?_; rintro e w5 ⟨g5, v5, rfl, own5⟩; obtain ⟨Gp, kp, rfl, -, -⟩ := own_shape own5 hN1; have cy := own_int own5 i hiN HOL.out; rw [← HY.out] at cy; have b1 := g5.blk b1; have b4 := g5.blk b4; have gg := gg.trans g5; have z5 := g5.size) | (refine r_idx 27 _ _ (.slice (some ⟨Gp, 0, none⟩) N kp) (.int .i64 i) _ rfl rfl (Tryd.wix0 Gp N kp i hiN _) rfl ?_) | (refine r_ldc 3 _ ⟨Gp, i, none⟩ (.int .i64 p) rfl (Tryd.isAgg3 _) cy rfl ?_))
        have own := g5.row (u3.row (g4.row hown) (own_new hown l4))
        have gd := (Gr.refl w5).drew
        have b1 := gd.blk b1
        have b4 := gd.blk b4
        have own := gd.row own
        have own5 := gd.row own5
        have cy := own_int own5 i hiN HOL.out
        rw [← HY.out] at cy
        have gg := gg.trans gd
        have zd := gd.size
        have hB14 : B1 ≠ B4 := by omega
        refine K_begin (fun w => Blk w B4 (tg g.w g.h (.slice (some ⟨Gc, 0, none⟩) N capc)) 45 ∧ w.cell? ⟨Gp, i, none⟩ = some (.int .i64 p)) 13 13 #[false, false, false, false, false, false, false, false, false, false, false, false, false] rfl (by kernel_rfl) (by kernel_rfl) ?_
        generalize w5.drew = wd at *
        have FF := And.intro b4 cy
        refine K_take (v := .agg (tg g.w g.h (.slice (some ⟨Gc, 0, none⟩) N capc))) 0 #[true, false, false, false, false, false, false, false, false, false, false, false, false] rfl (by kernel_rfl) (fun _ _ _ h => h) rfl (fun w hF => e_load_row 45 (.tmp 7) B4 _ _ _ rfl hF.1 Tryd.underlying45 rfl Tryd.tinfo) (FF) ?_; simp only [Act.put, List.setIfInBounds_toArray, List.set_cons_succ, List.set_cons_zero]
        refine K_take (v := .slice (some ⟨Gp, 0, none⟩) N kp) 1 #[true, true, false, false, false, false, false, false, false, false, false, false, false] rfl (by kernel_rfl) (fun _ _ _ h => h) rfl (fun _ _ => rfl) (FF) ?_; simp only [Act.put, List.setIfInBounds_toArray, List.set_cons_succ, List.set_cons_zero]
        refine K_take (v := .int .i64 n) 2 #[true, true, true, false, false, false, false, false, false, false, false, false, false] rfl (by kernel_rfl) (fun _ _ _ h => h) rfl (fun _ _ => rfl) (FF) ?_; simp only [Act.put, List.setIfInBounds_toArray, List.set_cons_succ, List.set_cons_zero]
        refine K_take (v := .slice (some ⟨Gp, 0, none⟩) N kp) 4 #[true, true, true, false, true, false, false, false, false, false, false, false, false] rfl (by kernel_rfl) (fun _ _ _ h => h) rfl (fun _ _ => rfl) (FF) ?_; simp only [Act.put, List.setIfInBounds_toArray, List.set_cons_succ, List.set_cons_zero]
        refine K_take (v := .int .i64 i) 5 #[true, true, true, false, true, true, false, false, false, false, false, false, false] rfl (by kernel_rfl) (fun _ _ _ h => h) rfl (fun _ _ => rfl) (FF) ?_; simp only [Act.put, List.setIfInBounds_toArray, List.set_cons_succ, List.set_cons_zero]
        refine K_take 6 #[true, true, true, false, true, true, true, false, false, false, false, false, false] rfl (by kernel_rfl) (fun _ _ _ h => h) rfl (fun w hF => e_val _ _ (Tryd.wix0 Gp N kp i hiN _)) (FF) ?_; simp only [Act.put, List.setIfInBounds_toArray, List.set_cons_succ, List.set_cons_zero]
        refine K_take 7 #[true, true, true, false, true, true, true, true, false, false, false, false, false] rfl (by kernel_rfl) (fun _ _ _ h => h) rfl (fun w hF => e_load 3 (.tmp 45) ⟨Gp, i, none⟩ (.int .i64 p) rfl (Tryd.isAgg3 _) hF.2) (FF) ?_; simp only [Act.put, List.setIfInBounds_toArray, List.set_cons_succ, List.set_cons_zero]
        refine K_one 3 #[true, true, true, true, true, true, true, true, false, false, false, false, false] rfl (by kernel_rfl) ?_
        refine r_callx 105 [.tmp 40, .tmp 41] _ [.slice (some ⟨Gp, 0, none⟩) N kp, .int .i64 n] (fun sv w' => Gr wd w' ∧ ∃ (G2 cap2 : Nat) (vs : List Value) (v : Value), sv = .slice (some ⟨G2, 0, none⟩) n cap2 ∧
          w'.ownsRow wd.heap.size 27 1 (.slice (some ⟨G2, 0, none⟩) n cap2) n vs ∧ vs[p]? = some v ∧ w'.ownsRow wd.heap.size 3 1 v (lbTo o (p : Int) N).length (intsV (lbTo o (p : Int) N))) Tryd.call105 rfl rfl (HLS.out _ _ _ wd own5) ?_
        rintro sv w6 ⟨g6, G2, cap2, vs, v, rfl, ownO, hvp, ownV⟩
        rw [← HV.out] at ownV
        have b1 := g6.blk b1
        have b4 := g6.blk b4
        have own := g6.row own
        have own5 := g6.row own5
        have gg := gg.trans g6
        have z6 := g6.size
        have cy := own_int own5 i hiN HOL.out
        rw [← HY.out] at cy
        have cv := own_val ownO p v hpn hvp
        obtain ⟨pv, nv, kv, rfl⟩ := own_slice ownV
        have FF := And.intro (And.intro b4 cy) cv
        simp only [Act.put, List.setIfInBounds_toArray, List.set_cons_succ, List.set_cons_zero]
        refine ⟨fun _ => FF.1, ?_⟩
        refine AnyK.mono (F' := fun w => (Blk w B4 (tg g.w g.h (.slice (some ⟨Gc, 0, none⟩) N capc)) 45 ∧ w.cell? ⟨Gp, i, none⟩ = some (.int .i64 p)) ∧ w.cell? ⟨G2, p, none⟩ = some (.slice pv nv kv)) (fun _ h => h.1) _ _ _ _ ?_
        refine K_take 8 #[true, true, true, true, true, true, true, true, true, false, false, false, false] rfl (by kernel_rfl) (fun _ _ _ h => h) rfl (fun w hF => e_val _ _ (Tryd.ssix G2 n cap2 p hpn _)) (FF) ?_; simp only [Act.put, List.setIfInBounds_toArray, List.set_cons_succ, List.set_cons_zero]
        refine K_take 9 #[true, true, true, true, true, true, true, true, true, true, false, false, false] rfl (by kernel_rfl) (fun _ _ _ h => h) rfl (fun w hF => e_load 27 (.tmp 47) ⟨G2, p, none⟩ (.slice pv nv kv) rfl (Tryd.isAgg27 _) hF.2) (FF) ?_; simp only [Act.put, List.setIfInBounds_toArray, List.set_cons_succ, List.set_cons_zero]
        refine K_one 10 #[true, true, true, true, true, true, true, true, true, true, true, false, false] rfl (by kernel_rfl) ?_
        refine r_store_row 45 45 _ _ B1 rfl (tg g.w g.h (.slice (some ⟨Gc, 0, none⟩) N capc)) _ rfl b1 Tryd.tsize rfl (tg_one hone) rfl ?_
        intro w7 u7 b17
        simp only [Act.put]
        have b4 := u7.blk b4 (by omega)
        have own := u7.row own (own_ne own b1 (by decide))
        have own5 := u7.row own5 (own_ne own5 b1 (by decide))
        have ownO := u7.row ownO (own_ne ownO b1 (by decide))
        have ownV := u7.row ownV (own_ne ownV b1 (by decide))
        have cy := own_int own5 i hiN HOL.out
        rw [← HY.out] at cy
        have cv := own_val ownO p _ hpn hvp
        have FF := And.intro (And.intro b4 cy) cv
        have gg := u7.gr gg (by omega)
        refine ⟨fun _ => FF, ?_⟩
        refine K_one 11 #[true, true, true, true, true, true, true, true, true, true, true, true, false] rfl (by kernel_rfl) ?_
        refine r_val (.slice pv nv kv) rfl rfl ?_
        simp only [Act.put, List.setIfInBounds_toArray, List.set_cons_succ, List.set_cons_zero]
        refine ⟨fun _ => FF, ?_⟩
        refine K_one 12 #[true, true, true, true, true, true, true, true, true, true, true, true, true] rfl (by kernel_rfl) ?_
        refine r_val (.bool true) rfl rfl ?_
        simp only [Act.put, List.setIfInBounds_toArray, List.set_cons_succ, List.set_cons_zero]
        refine ⟨fun _ => FF, ?_⟩
        refine K_done' (by kernel_rfl) ?_
        go_wp2
        have hEN := HN.out
        rw [hEN] at own
        refine bodyPost_ret (results_row_2 rfl _ _ _ _ _ _ rfl b17 Tryd.underlying45 rfl Tryd.tinfo) rfl ⟨gg, .inr ⟨g, Gc, capc, _, HP.out, HG.out, HPA.out, ?_, own_up own (by omega), own_up ownV (by omega)⟩⟩
        rw [← hEN]
        rfl
set_option maxHeartbeats 2000000 in
set_option maxRecDepth 100000 in
theorem sPieceAt (s : ByteArray) (x : Int) (w : World) (hs : s.size ≤ 1048576) : Calls Tryd.prog 25 #[.string s, .int .i64 x] w (RetInts 3 (pceL s.data.toList x) (pceOk s.data.toList x) w) := by
  have gg := Gr.refl w
  go_enter Tryd.func25, Tryd.ntmps25
  go_wp2_with fail
  refine (skAt_any s x _ hs).mono ?_
  rintro e w1 ⟨g1, ⟨hf, a, b, sl, hone, rfl⟩ | ⟨g, G, cap, v, hp, hg, hf, rfl, own, ownV⟩⟩
  · have HF := hidI hf
    have HV := hidI (show pceL s.data.toList x = [] from by unfold pceL; rw [hf]; rfl)
    have gg := gg.trans g1
    have z1 := g1.size
    clear hf
    go_wp2_with (first | (refine r_alloc 45 _ Tryd.tzero rfl ?_; intro w2 B2 N2; have g2 := N2.gr; have b2 : Blk w2 B2 (tg 0 0 (.slice none 0 0)) 45 := N2.blk; have l2 := N2.lo; have t2 := N2.hi; have z2 := g2.size; have gg := gg.trans g2; clear N2; obtain ⟨b2_0, b2_1, b2_2⟩ := tcells b2) | (refine r_store_row 45 45 _ _ _ rfl (tg _ _ _) _ rfl b2 Tryd.tsize rfl (tg_one hone) rfl ?_; intro w3 u3 b2'; have z3 := u3.size; have gg := u3.gr gg (by omega); clear b2; have b2 := b2'; clear b2'; obtain ⟨b2_0, b2_1, b2_2⟩ := tcells b2))
    go_ret2
    exact ⟨gg, .slice none 0 0, fin_vb HF.out.symm, by rw [HV.out]; exact World.ownsRow_nil _ _ _ _⟩
  · have HF := hidI hf
    have gg := gg.trans g1
    have z1 := g1.size
    have hone := own_one own
    clear hp hg hf
    go_wp2_with (first | (refine r_alloc 45 _ Tryd.tzero rfl ?_; intro w2 B2 N2; have g2 := N2.gr; have b2 : Blk w2 B2 (tg 0 0 (.slice none 0 0)) 45 := N2.blk; have l2 := N2.lo; have t2 := N2.hi; have z2 := g2.size; have gg := gg.trans g2; clear N2; obtain ⟨b2_0, b2_1, b2_2⟩ := tcells b2) | (refine r_store_row 45 45 _ _ _ rfl (tg _ _ _) _ rfl b2 Tryd.tsize rfl (tg_one hone) rfl ?_; intro w3 u3 b2'; have z3 := u3.size; have gg := u3.gr gg (by omega); clear b2; have b2 := b2'; clear b2'; obtain ⟨b2_0, b2_1, b2_2⟩ := tcells b2))
    go_ret2
    exact ⟨gg, v, fin_vb HF.out.symm, u3.row (g2.row ownV) (own_new ownV l2)⟩
set_option maxHeartbeats 2000000 in
set_option maxRecDepth 100000 in
theorem lawPieceAt (s : ByteArray) (x : Int) (w : World) (hm : ML w) : Calls Tryd.prog 6 #[.string s, .int .i64 x] w (Ret (.bool true) w) := by
  have gg := Gr.refl w
  by_cases hs : 1048576 < s.size
  · go_enter Tryd.func6, Tryd.ntmps6
    go_wp2
    go_ret
    exact ⟨rfl, gg⟩
  · have hs' : s.size ≤ 1048576 := by omega
    clear hs
    obtain ⟨L, hL⟩ : ∃ L, L = pceL s.data.toList x := ⟨_, rfl⟩
    obtain ⟨ok, hok⟩ : ∃ ok, ok = pceOk s.data.toList x := ⟨_, rfl⟩
    have hle : L.length ≤ 36 := by rw [hL]; exact pceL_le s.data.toList x
    have HL := hidI hL
    have HOK := hidI hok
    clear hL hok
    go_enter Tryd.func6, Tryd.ntmps6
    go_wp2_with fail
    refine (sPieceAt s x _ hs').mono ?_
    rintro e w1 ⟨g1, v1, rfl, own1⟩
    rw [← HL.out] at own1
    have gg := gg.trans g1
    rw [← HOK.out]
    go_wp2_with fail
    refine (iPieceAt s x _ (gg.ml hm) hs').mono ?_
    rintro e w2 ⟨g2, v2, rfl, own2⟩
    rw [← HL.out] at own2
    rw [← HOK.out]
    have gg := gg.trans g2
    have HAP := hidI (own_apart own1 own2 (Nat.le_refl _))
    have own1 := g2.row own1
    go_wp2_with fail
    refine (eqIntS_any v2 v1 L L _ _ _ own2 own1 (by omega)).mono ?_
    rintro e w3 ⟨rfl, g3⟩
    rw [decide_eq_true rfl]
    have own1 := g3.row own1
    have own2 := g3.row own2
    have gg := gg.trans g3
    go_wp2_with fail
    refine (markIntS_any v2 L 1 _ _ own2 (by omega) (by decide)).mono ?_
    rintro e w4 ⟨rfl, own2', g4, z4⟩
    have own1 := g4.row own1 HAP.out
    have gg := g4.gr gg (own_gr own2 (by have := g1.size; omega))
    obtain ⟨n, hn⟩ : ∃ n : Nat, n = 1 + L.length := ⟨_, rfl⟩
    rw [← hn]
    have HN := hidI hn
    have hn2 : n ≤ 37 := by omega
    clear hn
    have own2 := own2'
    clear own2'
    go_wp2_with fail
    refine (heldIntS_any v2 L.length 1 _ _ own2 (by omega) (by decide)).mono ?_
    rintro e w5 ⟨rfl, g5⟩
    rw [← HN.out]
    have own1 := g5.row own1
    have own2 := g5.row own2
    have gg := gg.trans g5
    go_wp2_with fail
    refine (iPieceAt s x _ (gg.ml hm) hs').mono ?_
    rintro e w6 ⟨g6, v6, rfl, own6⟩
    rw [← HL.out] at own6
    rw [← HOK.out]
    have gg := gg.trans g6
    have own1 := g6.row own1
    have own2 := g6.row own2
    go_wp2_with fail
    refine (eqIntS_any v6 v1 L L _ _ _ own6 own1 (by omega)).mono ?_
    rintro e w7 ⟨rfl, g7⟩
    rw [decide_eq_true rfl]
    have own2 := g7.row own2
    have gg := gg.trans g7
    go_wp2_with fail
    refine (heldIntS_any v2 L.length 1 _ _ own2 (by omega) (by decide)).mono ?_
    rintro e w8 ⟨rfl, g8⟩
    rw [← HN.out]
    have gg := gg.trans g8
    go_wp2
    go_ret
    exact ⟨rfl, gg⟩
end Go.Proofs.YtagoipongdnegaaDoor
