/-
  The layers of the trays that a tray reaches: in the program and in the model, and the law.
-/
import Derived.Test.YtcldlnleiiloaaaDoorReachL
import Derived.Test.YtcldlnleiiloaaaDoorBLs
namespace Go.Proofs.YtcldlnleiiloaaaDoor
open Go.RowKit
/-- How many of the first k states lie at distance d. -/
def cntF (S : List (Sta Grid)) : Nat → Nat → Nat
  | 0, _ => 0
  | k + 1, d => cntF S k d + (if (sta S k).far = d then 1 else 0)
theorem cntF_le (S : List (Sta Grid)) (k d : Nat) : cntF S k d ≤ k := by
  induction k with
  | zero => exact Nat.le_refl _
  | succ k ih => unfold cntF; split <;> omega
theorem cntF_zero (S : List (Sta Grid)) (k d : Nat) (h : ∀ j, j < k → (sta S j).far < d) : cntF S k d = 0 := by
  induction k with
  | zero => rfl
  | succ k ih =>
    have := h k (by omega)
    unfold cntF
    rw [ih (fun j hj => h j (by omega)), if_neg (by omega)]
def layP (S : List (Sta Grid)) (m k : Nat) : List Int := (List.range m).map fun d => ((cntF S k d : Nat) : Int)
theorem layP_length (S : List (Sta Grid)) (m k : Nat) : (layP S m k).length = m := by simp [layP]
theorem layP_at (S : List (Sta Grid)) (m k d : Nat) (h : d < m) : gi (layP S m k) d = (cntF S k d : Nat) := by unfold gi layP; simp [List.getD, h]
theorem gi_set' (L : List Int) (i j : Nat) (x : Int) (h : i < L.length) : gi (L.set i x) j = if j = i then x else gi L j := by
  unfold gi
  simp only [List.getD_eq_getElem?_getD, List.getElem?_set]
  by_cases e : i = j
  · subst e; rw [if_pos rfl, if_pos rfl, if_pos h]; rfl
  · rw [if_neg e, if_neg (fun h => e h.symm)]
theorem layP_step (S : List (Sta Grid)) (m k : Nat) (h : (sta S k).far < m) : (layP S m k).set (sta S k).far ((cntF S k (sta S k).far : Nat) + 1) = layP S m (k + 1) := by
  apply int_ext (by rw [List.length_set, layP_length, layP_length])
  intro d hd
  rw [List.length_set, layP_length] at hd
  rw [gi_set' _ _ _ _ (by rw [layP_length]; exact h), layP_at _ _ _ _ hd, layP_at _ _ _ _ hd]
  show _ = ((cntF S k d + (if (sta S k).far = d then 1 else 0) : Nat) : Int)
  by_cases e : d = (sta S k).far
  · rw [if_pos e, if_pos e.symm, e]; rfl
  · rw [if_neg e, if_neg (fun h => e h.symm)]; rfl
theorem layP_grow (S : List (Sta Grid)) (m k : Nat) (h : ∀ j, j < k → (sta S j).far < m) : layP S m k ++ [0] = layP S (m + 1) k := by
  unfold layP
  rw [List.range_succ, List.map_append]
  show _ = _ ++ [((cntF S k m : Nat) : Int)]
  rw [cntF_zero S k m h]
  rfl
theorem layP_zero (S : List (Sta Grid)) (m : Nat) : layP S m 0 = (List.range m).map fun _ => (0 : Int) := rfl
theorem own_zerosN {w w1 : World} {B n : Nat} {T : TypeId} (N : New w w1 B (madeCells (Value.int .i64 0).cells (n * 1)) T) (hn : n ≤ 1073741824) : w1.ownsRow w.heap.size T 1 (.slice (some ⟨B, 0, none⟩) n n) n (intsV ((List.range n).map fun _ => (0 : Int))) := by
  refine ⟨by simp [intsV], .inr ⟨B, n, _, rfl, N.lo, N.blk, Nat.le_refl _, by unfold maxLen; omega, size_madeCells _ _, ?_⟩⟩
  apply List.ext_getElem?
  intro i
  by_cases hi : i < n
  · rw [List.getElem?_take, if_pos (by omega)]
    unfold madeCells intsV
    simp [hi]
    have e : (Value.int .i64 0).cells = #[Value.int .i64 0] := rfl
    rw [e]
    simp [Nat.mod_one]
  · rw [List.getElem?_eq_none (by simp; omega), List.getElem?_eq_none (by simp [intsV]; omega)]
section
variable {P : Program} {w : World} {ops : Array Oper} {rest : List Oper} {a : Act} {Q : Exit → Act → World → Prop} {dst : Option Tmp} {ty : TypeId} {pos : String} {aft : Array Edge} {gd : Option (Nat × Bool)}
theorem r_subI {T yt : TypeId} (x y : Operand) (m n r : Int) (hx : a.eval x = .int .i64 m) (hy : a.eval y = .int .i64 n) (hr : m - n = r) (hb : -9223372036854775808 ≤ r ∧ r ≤ 9223372036854775807)
    (hgd : Region.wanted ⟨dst, .binOp .sub T x y yt, ty, pos, aft, gd⟩ (yielded ops a.tmps) = true) (h : wpList P ops Q rest (a.put dst (.int .i64 r)) w) : wpList P ops Q (⟨dst, .binOp .sub T x y yt, ty, pos, aft, gd⟩ :: rest) a w :=
  r_val (.int .i64 r) (by
    unfold execOp
    simp only [hx, hy, eqGuard_sub, Sem.run_bind, Sem.run_pure, Result.andThen_ok, run_sub T m n r hr hb]) hgd h
end
theorem own_neS {w : World} {b1 b2 : Nat} {e1 e2 : TypeId} {s1 s2 : Nat} {v1 : Value} {n1 n2 g m c : Nat} {x1 x2 : List Value} (h1 : w.ownsRow b1 e1 s1 v1 n1 x1) (h2 : w.ownsRow b2 e2 s2 (.slice (some ⟨g, 0, none⟩) m c) n2 x2) (he : e1 ≠ e2) : v1.ownBlock ≠ some g := fun e => by
  rcases own_ne2 h1 h2 he with h | h
  · rw [h] at e; cases e
  · exact h e
def gstF (S : List (Sta Grid)) : Nat := (sta S (S.length - 1)).far
def layL (l : List UInt8) : List Int := match rcS l with
  | none => []
  | some S => layP S (gstF S + 1) S.length
theorem rcS_inv {l : List UInt8} {S : List (Sta Grid)} (h : rcS l = some S) : ∃ g, parse l = some g ∧ InvS (Sized g.w g.h) tiltG g S.length 0 S := by
  unfold rcS at h
  cases hp : parse l with
  | none => rw [hp] at h; cases h
  | some g =>
    rw [hp] at h
    obtain ⟨hc, -, -, -⟩ := cel_of hp
    exact ⟨g, rfl, reachS_inv Sized.tilt ⟨hc, rfl, rfl⟩ h⟩
theorem layL_le (l : List UInt8) : (layL l).length ≤ 301 := by
  unfold layL
  cases h : rcS l with
  | none => exact Nat.zero_le _
  | some S =>
    obtain ⟨g, -, hi⟩ := rcS_inv h
    show (layP S (gstF S + 1) S.length).length ≤ 301
    rw [layP_length]
    have h1 := hi.pos
    have h2 := hi.far_le (S.length - 1) (by omega)
    have h3 := hi.le
    unfold gstF
    omega
theorem Tryd.isixN (g n cap k : Nat) (hk : k < n) (w : World) : (Instr.indexAt 31 (.slice (some ⟨g, 0, none⟩) n cap) (.int .i64 k)).run Tryd.prog w = .ok (.pointer (some ⟨g, k, none⟩)) w := by
  have he : Tryd.prog.elem 31 = 3 := by kernel_rfl
  have hu : Tryd.prog.underlying 31 = some (.slice (Tryd.prog.elem 31)) := by rw [he]; exact Tryd.underlying31
  have hs : (sizeOf 3).run Tryd.prog w = .ok 1 w := by kernel_rfl
  rw [run_indexAt_slice w 31 ⟨g, 0, none⟩ n cap .i64 k hu, if_pos (by omega), he]
  simp [hs, Result.andThen, add_flat]
theorem Tryd.stzero (w : World) : (zeroValue 58).run Tryd.prog w = .ok (.agg (newL ⟨0, 0, []⟩ 0 0 0 0).toArray) w := by kernel_rfl
theorem Tryd.stinfo : (Tryd.prog.info? 58).map (·.size) = some 43 := by kernel_rfl
theorem Tryd.stRow : ∃ fs, Tryd.prog.underlying 58 = some (.struct fs) := ⟨_, Tryd.underlying58⟩
theorem ISt.whole {base g cap : Nat} {w : World} {S : List (Sta Grid)} {nx : Nat → Value} (h : w.ownsRow base 58 43 (.slice (some ⟨g, 0, none⟩) S.length cap) S.length (rowsI S nx).flatten) {j : Nat} (hj : j < S.length) :
    w.rangeAt g (j * 43) (cellS (sta S j) (nx j)).toArray.toList := by
  have := own_flat_range h (rowsI_wide _ _) (rowsI_length _ _) hj (o := 0) (cs := (cellS (sta S j) (nx j)).toArray.toList) (by simp [cellS_length]) (fun i hi => by
    rw [rowsI_get S nx j hj, Nat.zero_add])
  rwa [Nat.add_zero] at this
set_option maxHeartbeats 1000000 in
set_option maxRecDepth 100000 in
theorem greatest_any (S : List (Sta Grid)) (base g cap : Nat) (nx : Nat → Value) (w : World) (h : w.ownsRow base 58 43 (.slice (some ⟨g, 0, none⟩) S.length cap) S.length (rowsI S nx).flatten) (h0 : 0 < S.length) (h300 : S.length ≤ 300) :
    Calls Tryd.prog 36 #[.slice (some ⟨g, 0, none⟩) S.length cap] w (Ret (.int .i64 (gstF S : Nat)) w) := by
  have gg := Gr.refl w
  obtain ⟨m, hm⟩ : ∃ m, m = S.length - 1 := ⟨_, rfl⟩
  have hlt : m < S.length := by omega
  have c38 := ORel.cell h hlt 0 (by omega)
  have HV := hidI (show (((sta S m).far : Nat) : Int) = (gstF S : Nat) from by unfold gstF; rw [hm])
  have HS := hidI (show (S.length : Int) - 1 = (m : Int) from by omega)
  clear hm
  go_enter Tryd.func36, Tryd.ntmps36
  go_wp2_with (first | (refine r_subI _ _ (S.length : Int) 1 (m : Int) rfl rfl HS.out (by omega) rfl ?_) | (refine r_idx 41 _ _ (.slice (some ⟨g, 0, none⟩) S.length cap) (.int .i64 m) _ rfl rfl (Tryd.stix g S.length cap m hlt _) rfl ?_) | (refine r_fld 58 _ 1 (.pointer (some ⟨g, m * 43, none⟩)) (.pointer (some ⟨g, m * 43 + 38, none⟩)) rfl (Tryd.stf1 g (m * 43) _) rfl ?_) | (refine r_ldc 3 _ ⟨g, m * 43 + 38, none⟩ (.int .i64 (sta S m).far) rfl (Tryd.isAgg3 _) c38 rfl ?_))
  go_ret
  exact ⟨ret_int HV.out, gg⟩
set_option maxHeartbeats 2000000 in
set_option maxRecDepth 100000 in
theorem iLayersOf (s : ByteArray) (w : World) (hm : ML w) (hs : s.size ≤ 1048576) : Calls Tryd.prog 22 #[.string s] w (RetInts 3 (layL s.data.toList) (crOk s.data.toList) w) := by
  have gg := Gr.refl w
  have HA := readStates_any s w hm hs
  unfold RetI at HA
  cases hR : rcS s.data.toList with
  | none =>
    rw [hR] at HA
    have HN := hidI (show layL s.data.toList = [] from by unfold layL; rw [hR])
    have HO := hidI (show crOk s.data.toList = false from by unfold crOk; rw [hR]; rfl)
    clear hR
    go_enter Tryd.func22, Tryd.ntmps22
    go_wp2_with (go_at_call 31; refine HA.mono ?_; rintro e w1 ⟨g1, rfl⟩)
    go_ret2
    exact ⟨g1, _, fin_vb HO.out.symm, by rw [HN.out]; exact World.ownsRow_nil _ _ _ _⟩
  | some S =>
    rw [hR] at HA
    obtain ⟨g, -, hi⟩ := rcS_inv hR
    have h0 := hi.pos
    have h300 := hi.le
    have HF := hidI (fun j (hj : j < S.length) => show (sta S j).far < gstF S + 1 from by have := hi.mono j (S.length - 1) (by omega) (by omega); unfold gstF; omega)
    have hG := hi.far_le (S.length - 1) (by omega)
    obtain ⟨G, hGd⟩ : ∃ G, G = gstF S := ⟨_, rfl⟩
    have hG300 : G ≤ 300 := by rw [hGd]; unfold gstF; omega
    have HN := hidI (show layL s.data.toList = layP S (G + 1) S.length from by unfold layL; rw [hR, hGd])
    have HO := hidI (show crOk s.data.toList = true from by unfold crOk; rw [hR]; rfl)
    rw [← hGd] at HF
    have HGD := hidI hGd
    clear hR hi hG hGd
    have hmk : (G + 1) * 1 ≤ 16777216 := by omega
    have hby : 8 * (G + 1) ≤ 281474976710656 := by omega
    go_enter Tryd.func22, Tryd.ntmps22
    go_wp2_with (first | (go_at_call 31; refine HA.mono ?_; rintro e w1 ⟨g1, v, nx, rfl, IS⟩; obtain ⟨gB, cap, rfl, hlo, hcap⟩ := own_shape IS.row h0; have gg := gg.trans g1; have z1 := g1.size; have row := IS.row) | (go_at_call 36; refine (greatest_any S _ gB cap nx _ row h0 h300).mono ?_; rintro e w2 ⟨rfl, g2⟩; rw [← HGD.out]; have gg := gg.trans g2; have z2 := g2.size; have row := g2.row row) | (refine r_addI _ _ (G : Int) 1 ((G + 1 : Nat) : Int) rfl rfl (by omega) (by omega) rfl ?_) | (refine r_make 31 3 _ _ _ Tryd.intsI (.tmp 18) (.tmp 18) (G + 1) rfl rfl hmk hby (by omega) rfl ?_; intro w3 B3 N3; have own := own_zerosN N3 (by omega); have g3 := N3.gr; have l3 := N3.lo; have z3 := g3.size; have gg := gg.trans g3; have row := g3.row row; clear N3))
    have own0 : w3.ownsRow w.heap.size 3 1 (.slice (some ⟨B3, 0, none⟩) (G + 1) (G + 1)) (G + 1) (intsV (layP S (G + 1) 0)) := own_up own (by omega)
    clear own
    go_loopw [22] (fun iv wr => ∃ j : Nat, j ≤ S.length ∧ iv = .int .i64 j ∧ wr.ownsRow w.heap.size 3 1 (.slice (some ⟨B3, 0, none⟩) (G + 1) (G + 1)) (G + 1) (intsV (layP S (G + 1) j)) ∧ wr.ownsRow w.heap.size 58 43 (.slice (some ⟨gB, 0, none⟩) S.length cap) S.length (rowsI S nx).flatten ∧ Gr w wr) (fun iv _ => S.length - (intOf iv).toNat)
    case atStart => exact ⟨0, Nat.zero_le _, rfl, own0, row, gg⟩
    case round =>
      clear own0 row gg
      obtain ⟨j, hj, rfl, own, row, gg⟩ := hrel
      have zr := gg.size
      by_cases hlt : j < S.length
      · have cr := ISt.whole row hlt
        have hgB := (row.lt gB rfl).2
        obtain ⟨f, hf⟩ : ∃ f, f = (sta S j).far := ⟨_, rfl⟩
        have hfG : f < G + 1 := by rw [hf]; exact HF.out j hlt
        have hcl := cntF_le S j f
        have HB := hidI (show (cellS (sta S j) (nx j)).toArray[38]? = some (.int .i64 (f : Int)) from by rw [List.getElem?_toArray, hf]; exact cellS_tl _ _ 0)
        have HST := hidI (show (layP S (G + 1) j).set f ((cntF S j f : Nat) + 1) = layP S (G + 1) (j + 1) from by rw [hf]; exact layP_step S (G + 1) j (by rw [← hf]; exact hfG))
        have HAT := hidI (show gi (layP S (G + 1) j) f = (cntF S j f : Nat) from layP_at _ _ _ _ hfG)
        have HLL := hidI (layP_length S (G + 1) j)
        have HON := hidI (show ∀ u ∈ (cellS (sta S j) (nx j)).toArray.toList, u.oneCell' = true from cellS_one _ _ (own_one (IS.nxt j hlt)))
        have HSZ := hidI (show (cellS (sta S j) (nx j)).toArray.size = 43 from by rw [List.size_toArray, cellS_length])
        obtain ⟨c, hc⟩ : ∃ c, c = cntF S j f := ⟨_, rfl⟩
        rw [← hc] at hcl HST HAT
        have HC := hidI hc
        have HFF := hidI hf
        clear hc hf
        go_wp2_with (first | (refine r_idx 41 _ _ (.slice (some ⟨gB, 0, none⟩) S.length cap) (.int .i64 j) _ rfl rfl (Tryd.stix gB S.length cap j hlt _) rfl ?_) | (refine r_ldm 58 _ gB (j * 43) (cellS (sta S j) (nx j)).toArray _ rfl cr Tryd.underlying58 rfl (by rw [HSZ.out]; exact Tryd.stinfo) rfl ?_) | (refine r_alloc 58 _ Tryd.stzero rfl ?_; intro w8 B8 N8; have g8 := N8.gr; have b8 : Blk w8 B8 (newL ⟨0, 0, []⟩ 0 0 0 0).toArray 58 := N8.blk; have l8 := N8.lo; have z8 := g8.size; have own := g8.row own; have row := g8.row row; have gg := gg.trans g8; have hB8 : gB ≠ B8 := (by omega); clear N8) | (refine r_store_row 58 58 _ _ B8 rfl (cellS (sta S j) (nx j)).toArray _ rfl b8 (by intro w; rw [HSZ.out]; exact Tryd.sizeOf58 w) (by rw [HSZ.out, List.size_toArray, newL_length]) HON.out rfl ?_; intro w9 u9 b9; have own := u9.row own (own_ne own b8 (by decide)); have row := u9.row row (fun e => by cases e; exact hB8 rfl); have z9 := u9.size; have gg := u9.gr gg (by omega)) | (refine r_fld 58 _ 1 (.pointer (some ⟨B8, 0, none⟩)) (.pointer (some ⟨B8, 0 + 38, none⟩)) rfl (Tryd.stf1 B8 0 _) rfl ?_) | (refine r_ldc 3 _ ⟨B8, 0 + 38, none⟩ (.int .i64 f) rfl (Tryd.isAgg3 _) ((b9.cell 38).trans HB.out) rfl ?_) | (refine r_idx 31 _ _ (.slice (some ⟨B3, 0, none⟩) (G + 1) (G + 1)) (.int .i64 f) _ rfl rfl (Tryd.isixN B3 (G + 1) (G + 1) f hfG _) rfl ?_) | (refine r_ldc 3 _ ⟨B3, f, none⟩ (.int .i64 c) rfl (Tryd.isAgg3 _) ((own_int own f hfG HLL.out.symm).trans (by rw [HAT.out])) rfl ?_) | (refine r_store_own 3 3 _ _ B3 f (G + 1) (G + 1) w.heap.size (intsV (layP S (G + 1) j)) rfl (.int .i64 ((c : Int) + 1)) rfl own hfG Tryd.sizeOf3 rfl rfl ?_; intro w12 u12 own12))
        rw [intsV_set, HST.out] at own12
        have row := u12.row row (own_neS row own (by decide))
        have gg := u12.gr gg (by omega)
        go_roundw
        case rel => exact ⟨j + 1, by omega, by go_num, own12, row, gg⟩
        case measure => simp [intOf]; omega
      · obtain rfl : j = S.length := by omega
        clear hlt
        rw [← HN.out] at own
        have HL2 := hidI (show (layL s.data.toList).length = G + 1 from by rw [HN.out, layP_length])
        go_wp2
        go_ret2
        exact ⟨gg, _, fin_vb HO.out.symm, by rw [HL2.out]; exact own⟩
def lenOf : Value → Nat
  | .slice _ n _ => n
  | _ => 0
def mkF (S : List (Sta Grid)) (j : Nat) : Nat := if j = 0 then 0 else (sta S (j - 1)).far + 1
theorem SSt.keep {base b n : Nat} {w w' : World} {v o : Value} {S : List (Sta Grid)} {bk : Nat → Nat} {sl nx : Nat → Value} {xs : List Value} (h : SSt base w v S bk sl nx) (ho : w.ownsRow b 3 1 o n xs) (g : Grb o.ownBlock w w') : SSt base w' v S bk sl nx :=
  ⟨g.row h.row (own_ne2 h.row ho (by decide)), fun j hj => g.blk (h.blk j hj) (own_ne ho (h.blk j hj) (by decide)), h.lo, h.inj, fun j hj => g.row (h.grd j hj) (own_ne2 (h.grd j hj) ho (by decide))⟩
set_option maxHeartbeats 4000000 in
set_option maxRecDepth 100000 in
theorem sLayersOf (s : ByteArray) (w : World) (hs : s.size ≤ 1048576) : Calls Tryd.prog 21 #[.string s] w (RetInts 3 (layL s.data.toList) (crOk s.data.toList) w) := by
  have gg := Gr.refl w
  have HA := reAll_any s w hs
  unfold RetM at HA
  cases hR : rcS s.data.toList with
  | none =>
    rw [hR] at HA
    have HN := hidI (show layL s.data.toList = [] from by unfold layL; rw [hR])
    have HO := hidI (show crOk s.data.toList = false from by unfold crOk; rw [hR]; rfl)
    clear hR
    go_enter Tryd.func21, Tryd.ntmps21
    go_wp2_with (go_at_call 30; refine HA.mono ?_; rintro e w1 ⟨g1, rfl⟩)
    have gg := gg.trans g1
    go_loopw [6, 16] (fun ov iv wr => ov = .slice none 0 0 ∧ iv = .int .i64 0 ∧ wr = w1) (fun _ _ _ => 0)
    case atStart => exact ⟨rfl, rfl, rfl⟩
    case round =>
      obtain ⟨rfl, rfl, rfl⟩ := hrel
      go_wp2
      go_ret2
      exact ⟨gg, _, fin_vb HO.out.symm, by rw [HN.out]; exact World.ownsRow_nil _ _ _ _⟩
  | some S =>
    rw [hR] at HA
    obtain ⟨g, -, hi⟩ := rcS_inv hR
    have h0 := hi.pos
    have h300 := hi.le
    have HMK := hidI (fun j (hj : j < S.length) => show mkF S j ≤ (sta S j).far + 1 ∧ (∀ i, i < j → (sta S i).far < mkF S j) from by
      unfold mkF
      by_cases e : j = 0
      · rw [if_pos e]; exact ⟨Nat.zero_le _, fun i hi' => by omega⟩
      · rw [if_neg e]
        refine ⟨by have := hi.mono (j - 1) j (by omega) hj; omega, fun i hi' => ?_⟩
        have := hi.mono i (j - 1) (by omega) (by omega)
        omega)
    have HFL := hidI (fun j (hj : j < S.length) => hi.far_le j hj)
    have HN := hidI (show layL s.data.toList = layP S (mkF S S.length) S.length from by
      unfold layL mkF
      rw [hR, if_neg (by omega)]
      rfl)
    have HO := hidI (show crOk s.data.toList = true from by unfold crOk; rw [hR]; rfl)
    clear hR hi
    go_enter Tryd.func21, Tryd.ntmps21
    go_wp2_with (go_at_call 30; refine HA.mono ?_; rintro e w1 ⟨g1, v, bk, sl, nx, rfl, M, -⟩; obtain ⟨gB, cap, rfl, hlo, hcap⟩ := own_shape M.row h0; have gg := gg.trans g1; have z1 := g1.size)
    have own0 : w1.ownsRow w.heap.size 3 1 (.slice none 0 0) (mkF S 0) (intsV (layP S (mkF S 0) 0)) := World.ownsRow_nil _ _ _ _
    go_loopw [6, 16] (fun ov iv wr => ∃ j : Nat, j ≤ S.length ∧ iv = .int .i64 j ∧ wr.ownsRow w.heap.size 3 1 ov (mkF S j) (intsV (layP S (mkF S j) j)) ∧ SSt w.heap.size wr (.slice (some ⟨gB, 0, none⟩) S.length cap) S bk sl nx ∧ Gr w wr) (fun _ iv _ => S.length - (intOf iv).toNat)
    case atStart => exact ⟨0, Nat.zero_le _, rfl, own0, M, gg⟩
    case round =>
      clear own0 M gg
      obtain ⟨j, hj, rfl, own, M, gg⟩ := hrel
      by_cases hlt : j < S.length
      · obtain ⟨f, hf⟩ : ∃ f, f = (sta S j).far := ⟨_, rfl⟩
        obtain ⟨b, hb⟩ : ∃ b, b = bk j := ⟨_, rfl⟩
        obtain ⟨hm1, hm2⟩ := HMK.out j hlt
        have hfl := HFL.out j hlt
        rw [← hf] at hm1 hfl
        have HM2 := hidI hm2
        have cp := M.ptr hlt
        rw [← hb] at cp
        have HC4 := hidI (fun (w' : World) (m : SSt w.heap.size w' (.slice (some ⟨gB, 0, none⟩) S.length cap) S bk sl nx) => show w'.cell? ⟨b, 4, none⟩ = some (.int .i64 (f : Int)) from by rw [hb, hf]; exact m.cell hlt 4)
        have HST := hidI (show (layP S (f + 1) j).set f ((cntF S j f : Nat) + 1) = layP S (mkF S (j + 1)) (j + 1) from by
          have e : mkF S (j + 1) = f + 1 := by unfold mkF; rw [if_neg (by omega), Nat.add_sub_cancel, hf]
          rw [e, hf]; exact layP_step S _ j (by omega))
        have HMJ := hidI (show mkF S (j + 1) = f + 1 from by unfold mkF; rw [if_neg (by omega), Nat.add_sub_cancel, hf])
        have HAT := hidI (show gi (layP S (f + 1) j) f = (cntF S j f : Nat) from layP_at _ _ _ _ (by omega))
        have hcl := cntF_le S j f
        obtain ⟨c, hc⟩ : ∃ c, c = cntF S j f := ⟨_, rfl⟩
        rw [← hc] at hcl HST HAT
        obtain ⟨m0, hm0⟩ : ∃ m0, m0 = mkF S j := ⟨_, rfl⟩
        rw [← hm0] at own hm1 HM2
        clear hm2 hc hf hb hm0
        go_wp2_with (first | (refine r_idx 38 _ _ (.slice (some ⟨gB, 0, none⟩) S.length cap) (.int .i64 j) _ rfl rfl (Tryd.psix gB S.length cap j hlt _) rfl ?_) | (refine r_ldc 53 _ ⟨gB, j, none⟩ (ptrV b) rfl (Tryd.isAgg53 _) cp rfl ?_))
        go_loopw [6] (fun ov wi => ∃ m : Nat, m0 ≤ m ∧ m ≤ f + 1 ∧ wi.ownsRow w.heap.size 3 1 ov m (intsV (layP S m j)) ∧ SSt w.heap.size wi (.slice (some ⟨gB, 0, none⟩) S.length cap) S bk sl nx ∧ Gr w wi) (fun ov _ => f + 1 - lenOf ov)
        case atStart => exact ⟨m0, Nat.le_refl _, hm1, own, M, gg⟩
        case round =>
          clear own M gg cp
          obtain ⟨m, hm0, hm, own, M, gg⟩ := hrel
          obtain ⟨p, mm, q, rfl⟩ := own_slice own
          obtain rfl : mm = m := own_len own
          have c4 := HC4.out _ M
          have zr := gg.size
          by_cases hle : mm ≤ f
          · have HG := hidI (layP_grow S mm j (fun i hi' => by have := HM2.out i hi'; omega))
            go_wp2_with (first | (refine r_nil _ ⟨b, 0, none⟩ rfl rfl ?_) | (refine r_fld 52 _ 2 (.pointer (some ⟨b, 0, none⟩)) (.pointer (some ⟨b, 4, none⟩)) rfl (Tryd.rf2 _ _) rfl ?_) | (refine r_ldc 3 _ ⟨b, 4, none⟩ (.int .i64 f) rfl (Tryd.isAgg3 _) c4 rfl ?_) | (refine r_slice1 31 3 (.const (.int .i64 0)) (.int .i64 0) rfl (Tryd.bsi1 _ _) rfl ?_; intro w5 B5 N5; have g5 := N5.gr; have own := g5.row own; have M := M.gr g5; have gg := gg.trans g5; have z5 := g5.size) | (refine r_append (.tmp 27) (.tmp 28) 31 3 _ 1 8 w.heap.size Tryd.intsI (.slice p mm q) mm (intsV (layP S mm j)) rfl own ⟨B5, 0, none⟩ 1 1 [.int .i64 0] rfl rfl N5.cell1 (by intro u hu; simp at hu; subst hu; rfl) (by omega) (by decide) (by omega) rfl ?_; intro v6 w6 own6 g6))
            have own7 : w6.ownsRow w.heap.size 3 1 v6 (mm + 1) (intsV (layP S (mm + 1) j)) := by rw [← HG.out, ← intsV_append]; exact own6
            have M := M.keep own g6
            have gg := g6.gr gg (own_gr own (Nat.le_refl _))
            obtain ⟨p7, m7, q7, rfl⟩ := own_slice own7
            obtain rfl : m7 = mm + 1 := own_len own7
            go_roundw
            case rel => exact ⟨mm + 1, by omega, by omega, own7, M, gg⟩
            case measure => simp [lenOf]; omega
          · obtain rfl : mm = f + 1 := by omega
            have hfG : f < f + 1 := by omega
            have HLL := hidI (layP_length S (f + 1) j)
            obtain ⟨B3, q3, e3, hB3, -⟩ := own_shape own (by omega)
            cases e3
            go_wp2_with (first | (refine r_nil _ ⟨b, 0, none⟩ rfl rfl ?_) | (refine r_fld 52 _ 2 (.pointer (some ⟨b, 0, none⟩)) (.pointer (some ⟨b, 4, none⟩)) rfl (Tryd.rf2 _ _) rfl ?_) | (refine r_ldc 3 _ ⟨b, 4, none⟩ (.int .i64 f) rfl (Tryd.isAgg3 _) c4 rfl ?_) | (refine r_idx 31 _ _ (.slice (some ⟨B3, 0, none⟩) (f + 1) q) (.int .i64 f) _ rfl rfl (Tryd.isixN B3 (f + 1) q f hfG _) rfl ?_) | (refine r_ldc 3 _ ⟨B3, f, none⟩ (.int .i64 c) rfl (Tryd.isAgg3 _) ((own_int own f hfG HLL.out.symm).trans (by rw [HAT.out])) rfl ?_) | (refine r_store_own 3 3 _ _ B3 f (f + 1) q w.heap.size (intsV (layP S (f + 1) j)) rfl (.int .i64 ((c : Int) + 1)) rfl own hfG Tryd.sizeOf3 rfl rfl ?_; intro w12 u12 own12))
            rw [intsV_set, HST.out] at own12
            have M := M.keep own u12.grb
            have gg := u12.gr gg (by omega)
            go_roundw
            case rel => exact ⟨j + 1, by omega, by go_num, by rw [HMJ.out] at own12 ⊢; exact own12, M, gg⟩
            case measure => simp [intOf]; omega
      · obtain rfl : j = S.length := by omega
        clear hlt
        rw [← HN.out] at own
        have HL2 := hidI (show (layL s.data.toList).length = mkF S S.length from by rw [HN.out, layP_length])
        go_wp2
        go_ret2
        exact ⟨gg, _, fin_vb HO.out.symm, by rw [HL2.out]; exact own⟩
theorem own_apartN {w1 w2 : World} {b1 b2 : Nat} {e1 e2 : TypeId} {s1 s2 : Nat} {v1 v2 : Value} {n1 n2 : Nat} {x1 x2 : List Value} (h1 : w1.ownsRow b1 e1 s1 v1 n1 x1) (h2 : w2.ownsRow b2 e2 s2 v2 n2 x2) (hb : w1.heap.size ≤ b2) : v1.ownBlock = none ∨ v1.ownBlock ≠ v2.ownBlock := by
  cases h : v1.ownBlock with
  | none => exact .inl rfl
  | some k =>
    refine .inr fun e => ?_
    have a := (h1.lt k h).2
    have b := (h2.lt k e.symm).1
    omega
set_option maxHeartbeats 4000000 in
set_option maxRecDepth 100000 in
theorem lawLayersOf (s : ByteArray) (w : World) (hm : ML w) : Calls Tryd.prog 8 #[.string s] w (Ret (.bool true) w) := by
  have gg := Gr.refl w
  by_cases hs : 1048576 < s.size
  · go_enter Tryd.func8, Tryd.ntmps8
    go_wp2
    go_ret
    exact ⟨rfl, gg⟩
  · have hs' : s.size ≤ 1048576 := by omega
    have hle := layL_le s.data.toList
    clear hs
    obtain ⟨L, hL⟩ : ∃ L, L = layL s.data.toList := ⟨_, rfl⟩
    obtain ⟨ok, hok⟩ : ∃ ok, ok = crOk s.data.toList := ⟨_, rfl⟩
    have HL := hidI hL
    have HOK := hidI hok
    rw [← hL] at hle
    clear hL hok
    go_enter Tryd.func8, Tryd.ntmps8
    go_wp2_with fail
    refine (sLayersOf s _ hs').mono ?_
    rintro e w1 ⟨g1, v1, rfl, own1⟩
    rw [← HL.out] at own1
    have gg := gg.trans g1
    rw [← HOK.out]
    go_wp2_with fail
    refine (iLayersOf s _ (gg.ml hm) hs').mono ?_
    rintro e w2 ⟨g2, v2, rfl, own2⟩
    rw [← HL.out] at own2
    rw [← HOK.out]
    have gg := gg.trans g2
    have HAP := hidI (own_apartN own1 own2 (Nat.le_refl _))
    have own1 := g2.row own1
    go_wp2_with fail
    refine (eqIntS_any v2 v1 L L _ _ _ own2 own1 (by omega)).mono ?_
    rintro e w3 ⟨rfl, g3⟩
    rw [decide_eq_true rfl]
    have own1 := g3.row own1
    have own2 := g3.row own2
    have gg := gg.trans g3
    go_wp2_with fail
    refine (markIntS_any v2 L 1 _ _ own2 (by omega) (by decide)).mono ?_
    rintro e w4 ⟨rfl, own2', g4, z4⟩
    have own1 := g4.row own1 HAP.out
    have gg := g4.gr gg (own_gr own2 (by have := g1.size; omega))
    obtain ⟨n, hn⟩ : ∃ n : Nat, n = 1 + L.length := ⟨_, rfl⟩
    rw [← hn]
    have HN := hidI hn
    have hn2 : n ≤ 302 := by omega
    clear hn
    have own2 := own2'
    clear own2'
    go_wp2_with fail
    refine (heldIntS_any v2 L.length 1 _ _ own2 (by omega) (by decide)).mono ?_
    rintro e w5 ⟨rfl, g5⟩
    rw [← HN.out]
    have own1 := g5.row own1
    have own2 := g5.row own2
    have gg := gg.trans g5
    go_wp2_with fail
    refine (iLayersOf s _ (gg.ml hm) hs').mono ?_
    rintro e w6 ⟨g6, v6, rfl, own6⟩
    rw [← HL.out] at own6
    rw [← HOK.out]
    have gg := gg.trans g6
    have own1 := g6.row own1
    have own2 := g6.row own2
    go_wp2_with fail
    refine (eqIntS_any v6 v1 L L _ _ _ own6 own1 (by omega)).mono ?_
    rintro e w7 ⟨rfl, g7⟩
    rw [decide_eq_true rfl]
    have own2 := g7.row own2
    have gg := gg.trans g7
    go_wp2_with fail
    refine (heldIntS_any v2 L.length 1 _ _ own2 (by omega) (by decide)).mono ?_
    rintro e w8 ⟨rfl, g8⟩
    rw [← HN.out]
    have gg := gg.trans g8
    go_wp2
    go_ret
    exact ⟨rfl, gg⟩
end Go.Proofs.YtcldlnleiiloaaaDoor
