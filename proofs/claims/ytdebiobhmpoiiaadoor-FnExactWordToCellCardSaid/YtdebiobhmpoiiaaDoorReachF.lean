/-
  A tray among those that another one reaches: found in the program and in the model.
-/
import Derived.Test.YtdebiobhmpoiiaaDoorReachN
import Derived.Test.YtdebiobhmpoiiaaDoorShelfX
import Derived.Test.YtdebiobhmpoiiaaDoorBTy
namespace Go.Proofs.YtdebiobhmpoiiaaDoor
open Go.RowKit
def fndS (l u : List UInt8) : Option (List (Sta Grid) × Grid) := match rcS l with
  | none => none
  | some S => match parse u with
    | none => none
    | some m => some (S, m)
theorem same_eq {g m : Grid} (hg : Cel g) (hm : Cel m) (g1 : 1 ≤ g.w) (gh : 1 ≤ g.h) (m1 : 1 ≤ m.w) (mh : 1 ≤ m.h) : sameB g m = decide (g = m) := by
  rw [same_txt hg hm g1 gh m1 mh, Bool.eq_iff_iff, decide_eq_true_eq, decide_eq_true_eq]
  constructor
  · intro h
    have e : txtL g.w g.c g.h = txtL m.w m.c m.h := by rw [← txtB_data, ← txtB_data, h]
    obtain ⟨e1, e2, e3⟩ := txt_inj g1 gh mh hg.len hm.len (cell_plain hg.cells) (cell_plain hm.cells) e
    obtain ⟨gw, gh, gc⟩ := g
    obtain ⟨kw, kh, kc⟩ := m
    simp only at e1 e2 e3
    rw [e1, e2, e3]
  · rintro rfl; rfl
theorem txt_eq2 {g m : Grid} (hg : Cel g) (hm : Cel m) (g1 : 1 ≤ g.w) (gh : 1 ≤ g.h) (mh : 1 ≤ m.h) : txtG g = txtG m ↔ g = m := by
  constructor
  · intro h
    have e : txtL g.w g.c g.h = txtL m.w m.c m.h := by rw [← txtB_data, ← txtB_data]; exact congrArg (fun s => s.data.toList) h
    obtain ⟨e1, e2, e3⟩ := txt_inj g1 gh mh hg.len hm.len (cell_plain hg.cells) (cell_plain hm.cells) e
    obtain ⟨gw, gh, gc⟩ := g
    obtain ⟨kw, kh, kc⟩ := m
    simp only at e1 e2 e3
    rw [e1, e2, e3]
  · rintro rfl; rfl
/-- What is known of the states of a text. -/
theorem rcS_known {l : List UInt8} {S : List (Sta Grid)} (h : rcS l = some S) : 0 < S.length ∧ S.length ≤ 300 ∧ ∀ j, j < S.length → Cel (sta S j).t ∧ 1 ≤ (sta S j).t.w ∧ 1 ≤ (sta S j).t.h := by
  obtain ⟨g, hp, hi⟩ := rcS_inv h
  obtain ⟨-, h1, h2, -⟩ := cel_of hp
  exact ⟨hi.pos, hi.le, fun j hj => by
    have := hi.good j hj
    exact ⟨this.cel, by rw [this.w]; exact h1, by rw [this.h]; exact h2⟩⟩
def zipS (S : List (Sta Grid)) (nx : Nat → Value) : List (Sta Grid × Value) := (List.range S.length).map fun j => (sta S j, nx j)
theorem zipS_length (S : List (Sta Grid)) (nx : Nat → Value) : (zipS S nx).length = S.length := by simp [zipS]
instance : Inhabited (Sta Grid × Value) := ⟨(default, undef)⟩
theorem zipS_at (S : List (Sta Grid)) (nx : Nat → Value) (j : Nat) (hj : j < S.length) : (zipS S nx)[j]! = (sta S j, nx j) := by
  unfold zipS
  rw [List.getElem!_eq_getElem?_getD, List.getElem?_map, List.getElem?_range hj]
  rfl
theorem zipS_idx (S : List (Sta Grid)) (nx : Nat → Value) (p : Sta Grid × Value → Bool) (m : Grid) (hp : ∀ j, j < S.length → p (sta S j, nx j) = decide ((sta S j).t = m)) (d : Sta Grid × Value) : Lib.idxBy (fun _ y => p y) ((zipS S nx).take S.length) d = plV S m := by
  unfold plV
  cases hf : findS S m with
  | none =>
    refine Lib.idxBy_miss _ _ _ _ fun j hj => ?_
    rw [zipS_at S nx j hj, hp j hj, decide_eq_false_iff_not]
    exact findS_none hf j hj
  | some k =>
    obtain ⟨h1, h2, h3⟩ := findS_some hf
    refine Lib.idxBy_hit _ _ _ k _ h1 (by rw [zipS_length]; exact Nat.le_refl _) ?_ fun j hj => ?_
    · rw [zipS_at S nx k h1, hp k h1, decide_eq_true_eq]; exact h2
    · rw [zipS_at S nx j (by omega), hp j (by omega), decide_eq_false_iff_not]; exact h3 j hj
theorem zipS_cells {base g cap : Nat} {w : World} {S : List (Sta Grid)} {nx : Nat → Value} (h : w.ownsRow base 74 43 (.slice (some ⟨g, 0, none⟩) S.length cap) S.length (rowsI S nx).flatten) :
    ∀ j, j < (zipS S nx).length → ∀ i v, (cellS (zipS S nx)[j]!.1 (zipS S nx)[j]!.2)[i]? = some v → w.cell? ⟨g, 0 + j * 43 + i, none⟩ = some v := by
  intro j hj i v hv
  rw [zipS_length] at hj
  rw [zipS_at S nx j hj] at hv
  have hi : i < 43 := by
    rcases Nat.lt_or_ge i 43 with h | h
    · exact h
    · rw [List.getElem?_eq_none (by rw [cellS_length]; exact h)] at hv; cases hv
  rw [Nat.zero_add, own_flat_at h (rowsI_wide _ _) (rowsI_length _ _) hj hi, rowsI_get S nx j hj]
  exact hv
set_option maxHeartbeats 1000000 in
set_option maxRecDepth 100000 in
theorem findPred (m : Grid) (B : Nat) (w : World) (hb : Blk w B (gvG m) 72) : PredBelow Tryd.prog 63 #[.pointer (some ⟨B, 0, none⟩)] (fun x : Sta Grid × Value => .agg (cellS x.1 x.2).toArray) (fun x => sameB x.1.t m) w := fun W x hB => by
  have gg := Gr.refl W
  have b9 : Blk W B (gvG m) 72 := (Below.block hB B hb.lt).trans hb
  show Calls Tryd.prog 63 #[.agg (cellS x.1 x.2).toArray, .pointer (some ⟨B, 0, none⟩)] W _
  obtain ⟨s, v⟩ := x
  have HR := hidI (fun (W' : World) (A : Nat) (b : Blk W' A (cellS s v).toArray 74) => show W'.rangeAt A 0 (gvG s.t).toList from fun j u hj => by
    have h38 : j < 38 := by
      rcases Nat.lt_or_ge j 38 with h | h
      · exact h
      · rw [List.getElem?_eq_none (by rw [gvl]; exact h)] at hj; cases hj
    rw [Nat.zero_add, b.cell j, List.getElem?_toArray, cellS_hd s v j h38, hj])
  go_enter Tryd.func63, Tryd.ntmps63
  go_wp2_with (first | (refine r_box 74 _ (cellS s v).toArray rfl rfl ?_; intro w1 B1 N1; have g1 := N1.gr; have b1 := N1.blk; have b9 := g1.blk b9; have gg := gg.trans g1; clear N1) | (refine r_fld 74 _ 0 (.pointer (some ⟨B1, 0, none⟩)) (.pointer (some ⟨B1, 0, none⟩)) rfl (Tryd.stf0 B1 0 _) rfl ?_) | (refine r_ldm 72 _ B1 0 (gvG s.t) _ rfl (HR.out _ _ b1) Tryd.underlying72 rfl (Tryd.ginfo' _ _ _) rfl ?_) | (refine r_load_row 72 _ _ rfl _ _ _ b9 Tryd.underlying72 rfl (Tryd.ginfo' _ _ _) rfl ?_) | (go_at_call 64; refine (isSame_any s.t m _).mono ?_; rintro e w2 ⟨rfl, g2⟩; have gg := gg.trans g2))
  go_ret
  exact ⟨rfl, hB.trans (Below.mono gg hB.size)⟩
/-- It returns the states, and the number of one of them. -/
def RetF (o : Option (List (Sta Grid) × Grid)) (w : World) (e : Ending) (w' : World) : Prop :=
  Gr w w' ∧ match o with
    | none => e = .returned (.tuple #[.slice none 0 0, .int .i64 (-1), .bool false])
    | some (S, m) => ∃ v nx, e = .returned (.tuple #[v, .int .i64 (plV S m), .bool true]) ∧ ISt w.heap.size w' v S nx
set_option maxHeartbeats 2000000 in
set_option maxRecDepth 100000 in
theorem findState_any (s u : ByteArray) (w : World) (hm : ML w) (hs : s.size ≤ 1048576) (hu : u.size ≤ 1048576) : Calls Tryd.prog 33 #[.string s, .string u] w (RetF (fndS s.data.toList u.data.toList) w) := by
  have gg := Gr.refl w
  have HA := readStates_any s w hm hs
  unfold RetI at HA
  rcases rd_cases u.data.toList with ⟨hp, hg, hk⟩ | ⟨g, hp, hg, hk⟩
  · have HV := hidI (show fndS s.data.toList u.data.toList = none from by unfold fndS; rw [hp]; cases rcS s.data.toList <;> rfl)
    have HK := hidI hk
    clear hg hp hk
    cases hR : rcS s.data.toList with
    | none =>
      rw [hR] at HA
      clear hR
      go_enter Tryd.func33, Tryd.ntmps33
      go_wp2_with (first | (go_at_call 62; refine HA.mono ?_; rintro e w1 ⟨g1, rfl⟩; have gg := gg.trans g1; have z1 := g1.size) | (go_at_call 57; refine (readTray_any u _ (gg.ml hm) hu).mono ?_; rintro e w2 ⟨rfl, g2⟩; rw [HK.out]; have z2 := g2.size; have gg := gg.trans g2) | (refine r_alloc 72 _ Tryd.gzero rfl ?_; intro w3 B3 N3; have g3 := N3.gr; have b3 : Blk w3 B3 (gv 0 0 []) 72 := N3.blk; have l3 := N3.lo; have t3 := N3.hi; have z3 := g3.size; have gg := gg.trans g3; clear N3; obtain ⟨b3_0, b3_1, b3_2⟩ := gcells b3) | (refine r_store_row 72 72 _ _ _ rfl (gv _ _ _) _ rfl b3 (Tryd.gsize' _ _ _) (by simp only [gv_size]) (gv_one _ _ _) rfl ?_; intro w4 u4 b3'; have z4 := u4.size; have gg := u4.gr gg (by omega); clear b3; have b3 := b3'; clear b3'; obtain ⟨b3_0, b3_1, b3_2⟩ := gcells b3))
      go_ret3
      exact ⟨gg, by rw [HV.out]; exact rfl⟩
    | some S =>
      rw [hR] at HA
      clear hR
      go_enter Tryd.func33, Tryd.ntmps33
      go_wp2_with (first | (go_at_call 62; refine HA.mono ?_; rintro e w1 ⟨g1, v, nx, rfl, IS⟩; have gg := gg.trans g1; have z1 := g1.size) | (go_at_call 57; refine (readTray_any u _ (gg.ml hm) hu).mono ?_; rintro e w2 ⟨rfl, g2⟩; rw [HK.out]; have z2 := g2.size; have gg := gg.trans g2) | (refine r_alloc 72 _ Tryd.gzero rfl ?_; intro w3 B3 N3; have g3 := N3.gr; have b3 : Blk w3 B3 (gv 0 0 []) 72 := N3.blk; have l3 := N3.lo; have t3 := N3.hi; have z3 := g3.size; have gg := gg.trans g3; clear N3; obtain ⟨b3_0, b3_1, b3_2⟩ := gcells b3) | (refine r_store_row 72 72 _ _ _ rfl (gv _ _ _) _ rfl b3 (Tryd.gsize' _ _ _) (by simp only [gv_size]) (gv_one _ _ _) rfl ?_; intro w4 u4 b3'; have z4 := u4.size; have gg := u4.gr gg (by omega); clear b3; have b3 := b3'; clear b3'; obtain ⟨b3_0, b3_1, b3_2⟩ := gcells b3))
      go_ret3
      exact ⟨gg, by rw [HV.out]; exact rfl⟩
  · have HK := hidI hk
    have HG := hidI hg
    obtain ⟨hc, c1, c2, -⟩ := cel_of hp
    cases hR : rcS s.data.toList with
    | none =>
      have HV := hidI (show fndS s.data.toList u.data.toList = none from by unfold fndS; rw [hR])
      rw [hR] at HA
      clear hR hg hp hk hc
      go_enter Tryd.func33, Tryd.ntmps33
      go_wp2_with (first | (go_at_call 62; refine HA.mono ?_; rintro e w1 ⟨g1, rfl⟩; have gg := gg.trans g1; have z1 := g1.size) | (go_at_call 57; refine (readTray_any u _ (gg.ml hm) hu).mono ?_; rintro e w2 ⟨rfl, g2⟩; rw [HK.out, HG.out, gvG]; have z2 := g2.size; have gg := gg.trans g2) | (refine r_alloc 72 _ Tryd.gzero rfl ?_; intro w3 B3 N3; have g3 := N3.gr; have b3 : Blk w3 B3 (gv 0 0 []) 72 := N3.blk; have l3 := N3.lo; have t3 := N3.hi; have z3 := g3.size; have gg := gg.trans g3; clear N3; obtain ⟨b3_0, b3_1, b3_2⟩ := gcells b3) | (refine r_store_row 72 72 _ _ _ rfl (gv g.w g.h g.c) _ rfl b3 (Tryd.gsize' _ _ _) (by simp only [gv_size]) (gv_one _ _ _) rfl ?_; intro w4 u4 b3'; have z4 := u4.size; have gg := u4.gr gg (by omega); clear b3; have b3 := b3'; clear b3'; obtain ⟨b3_0, b3_1, b3_2⟩ := gcells b3))
      go_ret3
      exact ⟨gg, by rw [HV.out]; exact rfl⟩
    | some S =>
      have HV := hidI (show fndS s.data.toList u.data.toList = some (S, g) from by unfold fndS; rw [hR, hp])
      obtain ⟨h0, h300, hS⟩ := rcS_known hR
      rw [hR] at HA
      have HP := hidI (fun (nx : Nat → Value) d => zipS_idx S nx (fun x => sameB x.1.t g) g (fun j hj => by obtain ⟨a1, a2, a3⟩ := hS j hj; exact same_eq a1 hc a2 a3 c1 c2) d)
      have eg : ∀ args w, (callFunc 63 args).run Tryd.prog w = .ok (.enter 63 args) w := enters_of Tryd.func63 (by kernel_rfl) rfl
      have HIX := hidI (fun (w' : World) (gB cap B : Nat) (nx : Nat → Value) (hr : w'.ownsRow w.heap.size 74 43 (.slice (some ⟨gB, 0, none⟩) S.length cap) S.length (rowsI S nx).flatten) (hb : Blk w' B (gvG g) 72) =>
        show Calls Tryd.prog 39 #[.slice (some ⟨gB, 0, none⟩) S.length cap, .func (.func 63) #[] #[.pointer (some ⟨B, 0, none⟩)]] w' (Ret (.int .i64 (plV S g)) w') from by
          have h := AnyQ.slices_IndexFunc Tryd.ixL 43 Tryd.isAgg74 Tryd.sizeOf74 (fun x : Sta Grid × Value => cellS x.1 x.2) (fun x => cellS_length _ _) (fun x => sameB x.1.t g) 63 #[.pointer (some ⟨B, 0, none⟩)] eg gB 0 S.length cap (zipS S nx) w' (findPred g B w' hb) (by rw [zipS_length]; exact Nat.le_refl _) (by omega) (hr.lt gB rfl).2 (zipS_cells hr)
          change Calls Tryd.prog 39 _ _ _ at h
          rw [HP.out] at h
          exact h)
      clear hR hg hp hk hc hS eg
      go_enter Tryd.func33, Tryd.ntmps33
      go_wp2_with (first | (go_at_call 62; refine HA.mono ?_; rintro e w1 ⟨g1, v, nx, rfl, IS⟩; obtain ⟨gB, cap, rfl, hlo, hcap⟩ := own_shape IS.row h0; have gg := gg.trans g1; have z1 := g1.size) | (go_at_call 57; refine (readTray_any u _ (gg.ml hm) hu).mono ?_; rintro e w2 ⟨rfl, g2⟩; rw [HK.out, HG.out, gvG]; have z2 := g2.size; have gg := gg.trans g2) | (refine r_alloc 72 _ Tryd.gzero rfl ?_; intro w3 B3 N3; have g3 := N3.gr; have b3 : Blk w3 B3 (gv 0 0 []) 72 := N3.blk; have l3 := N3.lo; have t3 := N3.hi; have z3 := g3.size; have gg := gg.trans g3; clear N3; obtain ⟨b3_0, b3_1, b3_2⟩ := gcells b3) | (refine r_store_row 72 72 _ _ _ rfl (gv g.w g.h g.c) _ rfl b3 (Tryd.gsize' _ _ _) (by simp only [gv_size]) (gv_one _ _ _) rfl ?_; intro w4 u4 b3'; have z4 := u4.size; have gg := u4.gr gg (by omega); clear b3; have b3 := b3'; clear b3'; obtain ⟨b3_0, b3_1, b3_2⟩ := gcells b3) | (go_at_call 39; refine (HIX.out _ gB cap B3 nx (u4.row (g3.row (g2.row IS.row)) (fun e => by have h1 := (IS.row.lt gB rfl).2; have e2 : gB = B3 := (by simpa [Value.ownBlock] using e); omega)) b3).mono ?_; rintro e w5 ⟨rfl, g5⟩; have gg := gg.trans g5))
      go_ret3
      refine ⟨gg, ?_⟩
      rw [HV.out]
      have k1 := g2.trans g3
      have IS2 : ISt w.heap.size w5 (.slice (some ⟨gB, 0, none⟩) S.length cap) S nx :=
        ⟨g5.row (u4.row (g3.row (g2.row IS.row)) (fun e => by have h1 := (IS.row.lt gB rfl).2; have e2 : gB = B3 := (by simpa [Value.ownBlock] using e); omega)), fun j hj => g5.row (u4.row (g3.row (g2.row (IS.nxt j hj))) (fun e => by have h1 := ((IS.nxt j hj).lt _ e).2; omega))⟩
      exact ⟨_, nx, rfl, IS2⟩
end Go.Proofs.YtdebiobhmpoiiaaDoor
