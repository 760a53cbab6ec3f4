/-
  Walls that are needless: in the program and in the model, and the law.
  Walls that are needless: the model's walk, and the law.
-/
import Derived.Test.YtamdmhclhjkogaaDoorBPv
import Derived.Deep.Cut
namespace Go.Proofs.YtamdmhclhjkogaaDoor
open Go.RowKit
theorem flat_rowsW {W : Nat} : ∀ {H : Nat} {c : List UInt8}, c.length = nn W H → (rowsL W c H).flatten = c := by
  intro H c hl
  have h1 : ((rowsL W c H).flatten).length = nn W H := by
    rw [flatten_len (w := W) (by
      intro r hr
      unfold rowsL at hr
      obtain ⟨y, _, rfl⟩ := List.mem_map.1 hr
      exact rowL_length _ _ _), rowsL_length]
    rfl
  have e := rows_flatten (p := rowsL W c H) (w := W) (by
    intro r hr
    unfold rowsL at hr
    obtain ⟨y, _, rfl⟩ := List.mem_map.1 hr
    exact rowL_length _ _ _)
  rw [rowsL_length] at e
  refine list_ext (by rw [h1, hl]) fun i hi => ?_
  rw [h1] at hi
  have hW : 0 < W := by
    rcases Nat.eq_zero_or_pos W with h | h
    · subst h; unfold nn at hi; omega
    · exact h
  have hy : i / W < H := row_lt hi
  have hx : i % W < W := Nat.mod_lt _ hW
  have e1 := rowsL_get W (rowsL W c H).flatten H (i / W) hy
  rw [e, rowsL_get W c H (i / W) hy] at e1
  have e2 := Option.some.inj e1
  have e3 : nn W (i / W) + i % W = i := by unfold nn; exact Nat.div_add_mod i W
  have a := rows_at (c := (rowsL W c H).flatten) (y := i / W) hx
  have b := rows_at (c := c) (y := i / W) hx
  rw [e3] at a b
  rw [← a, ← b, e2]
/-- The tray with a wall taken out. -/
def opG (g : Grid) (i : Nat) : Grid := ⟨g.w, g.h, g.c.set i 46⟩
theorem op_at (g : Grid) (i j : Nat) (hi : i < g.c.length) : at0 (opG g i).c j = if i = j then 46 else at0 g.c j := at0_set _ _ _ _ hi
theorem op_cel {g : Grid} (h : Cel g) {i : Nat} (hi : i < g.c.length) : Cel (opG g i) := by
  refine ⟨h.w7, h.h7, h.n36, by show (g.c.set i 46).length = _; rw [List.length_set]; exact h.len, fun j hj => ?_⟩
  have hj' : j < g.c.length := by
    have : (opG g i).c.length = g.c.length := by show (g.c.set i 46).length = _; rw [List.length_set]
    omega
  rw [op_at g i j hi]
  by_cases e : i = j
  · rw [if_pos e]; decide
  · rw [if_neg e]; exact h.cells j hj'
theorem op_cnt {g : Grid} {i : Nat} (hi : i < g.c.length) (hw : at0 g.c i = 35) {b : UInt8} (h1 : b ≠ 35) (h2 : b ≠ 46) : ∀ n, cnt (opG g i).c b n = cnt g.c b n
  | 0 => rfl
  | n + 1 => by
    rw [cnt, cnt, op_cnt hi hw h1 h2 n, op_at g i n hi]
    by_cases e : i = n
    · subst e; rw [if_pos rfl, hw, if_neg (fun h => h2 h.symm), if_neg (fun h => h1 h.symm)]
    · rw [if_neg e]
theorem op_len (g : Grid) (i : Nat) : (opG g i).c.length = g.c.length := by show (g.c.set i 46).length = _; rw [List.length_set]
theorem op_once {g : Grid} {i : Nat} (hi : i < g.c.length) (hw : at0 g.c i = 35) (ho : onceB g.c = true) : onceB (opG g i).c = true := by
  unfold onceB at ho ⊢
  rw [List.all_eq_true] at ho ⊢
  intro b hb
  have := of_decide_eq_true (ho b hb)
  apply decide_eq_true
  rw [← cnt_all] at this ⊢
  rw [op_len]
  have hne : b ≠ 35 ∧ b ≠ 46 := by
    simp at hb
    rcases hb with rfl | rfl | rfl | rfl | rfl | rfl <;> decide
  rw [op_cnt hi hw hne.1 hne.2]
  exact this
theorem parse_once {l : List UInt8} {g : Grid} (h : parse l = some g) : onceB g.c = true := by
  obtain ⟨k, -, hc⟩ := parse_some h
  rw [hc]
  exact k.once
theorem rd_celW {g : Grid} (hg : Cel g) (h1 : 1 ≤ g.w) (h2 : 1 ≤ g.h) (ho : onceB g.c = true) : parse (txtL g.w g.c g.h) = some g := by
  have hp := pieces_txt h2 hg.len (cell_plain hg.cells)
  have hf := flat_rowsW hg.len
  have ok : OkR (pieces (txtL g.w g.c g.h)) g.w := by
    rw [hp]
    refine ⟨h1, hg.w7, by rw [rowsL_length]; exact h2, by rw [rowsL_length]; exact hg.h7, by rw [rowsL_length]; exact hg.n36, ?_, ?_, ?_⟩
    · intro r hr
      unfold rowsL at hr
      obtain ⟨y, _, rfl⟩ := List.mem_map.1 hr
      exact rowL_length _ _ _
    · rw [hf]
      intro b hb
      obtain ⟨i, hi, e⟩ := List.getElem_of_mem hb
      have := hg.cells i hi
      unfold at0 at this
      rw [List.getD_eq_getElem?_getD, List.getElem?_eq_getElem hi, e] at this
      exact this
    · rw [hf]; exact ho
  rw [parse_of ok, hp, rowsL_length, hf]
theorem op_pz {l : List UInt8} {n : ByteArray} {z : Int} {g : Grid} {b : UInt8} {k i : Nat} (h : Pz l n z g b k) (hi : i < g.c.length) (hw : at0 g.c i = 35) : pzS (txtL g.w (opG g i).c g.h) n z = some (opG g i, b, k) := by
  obtain ⟨hc, h1, h2, -⟩ := pz_tray h
  have hp : parse (txtL g.w (opG g i).c g.h) = some (opG g i) := rd_celW (g := opG g i) (op_cel hc hi) h1 h2 (op_once hi hw (parse_once h.pr))
  have hb := h.isN
  have hne : b ≠ 35 ∧ b ≠ 46 := by
    constructor <;> rintro rfl <;> exact absurd hb (by decide)
  have ho : pzOk (opG g i) n z = true := by
    rw [h.ze]
    refine pz_ok h.nm ?_ (by rw [op_len]; exact h.kl) ?_
    · rw [h.hd, op_len, op_cnt hi hw hne.1 hne.2]
      intro e
      have := ix_cnt g.c b g.c.length
      rw [e, decide_eq_true h.ix] at this
      cases this
    · rw [op_at g i k hi]
      by_cases e : i = k
      · rw [if_pos e]; decide
      · rw [if_neg e]; exact h.cell
  rw [pz_good hp ho, h.hd, h.ze, Int.toNat_natCast]
def nwB (g : Grid) (b : UInt8) (k far i : Nat) : Bool := (at0 g.c i == 35) && (match slvG (opG g i) b k with
  | none => false
  | some (S, j) => decide ((sta S j).far = far))
/-- The needless walls below m. -/
def nwTo (g : Grid) (b : UInt8) (k far m : Nat) : List Int := ((List.range m).filter (nwB g b k far)).map fun i : Nat => (i : Int)
theorem nwTo_succ (g : Grid) (b : UInt8) (k far m : Nat) : nwTo g b k far (m + 1) = if nwB g b k far m then nwTo g b k far m ++ [(m : Int)] else nwTo g b k far m := by
  unfold nwTo
  rw [List.range_succ, List.filter_append, List.map_append]
  by_cases h : nwB g b k far m = true
  · rw [if_pos h]; simp [h]
  · rw [if_neg h]; simp [h]
theorem nwTo_le (g : Grid) (b : UInt8) (k far m : Nat) : (nwTo g b k far m).length ≤ m := by
  unfold nwTo
  rw [List.length_map]
  exact Nat.le_trans (List.length_filter_le _ _) (by simp)
theorem nwB_no {g : Grid} {b : UInt8} {k far i : Nat} (h : at0 g.c i ≠ 35) : nwB g b k far i = false := by unfold nwB; rw [beq_eq_false_iff_ne.2 h]; rfl
theorem nwB_none {g : Grid} {b : UInt8} {k far i : Nat} (h : slvG (opG g i) b k = none) : nwB g b k far i = false := by unfold nwB; rw [h]; simp
theorem nwB_some {g : Grid} {b : UInt8} {k far i j : Nat} {S : List (Sta Grid)} (h0 : at0 g.c i = 35) (h : slvG (opG g i) b k = some (S, j)) : nwB g b k far i = decide ((sta S j).far = far) := by unfold nwB; rw [h, h0]; rfl
def nwL (l : List UInt8) (n : ByteArray) (z : Int) : List Int := match pzS l n z with
  | none => []
  | some (g, b, k) => match slvG g b k with
    | none => []
    | some (S, j) => nwTo g b k (sta S j).far g.c.length
theorem nwL_n1 {l : List UInt8} {n : ByteArray} {z : Int} (h : pzS l n z = none) : nwL l n z = [] ∧ lnOk l n z = false := by
  refine ⟨by unfold nwL; rw [h], ?_⟩
  unfold lnOk; rw [slvS_bad h]; rfl
theorem nwL_n2 {l : List UInt8} {n : ByteArray} {z : Int} {g : Grid} {b : UInt8} {k : Nat} (h : pzS l n z = some (g, b, k)) (hs : slvG g b k = none) : nwL l n z = [] ∧ lnOk l n z = false := by
  refine ⟨by unfold nwL; rw [h]; show (match slvG g b k with | none => _ | some (S, j) => _) = _; rw [hs], ?_⟩
  unfold lnOk; rw [slvS_none h hs]; rfl
theorem nwL_y {l : List UInt8} {n : ByteArray} {z : Int} {g : Grid} {b : UInt8} {k j : Nat} {S : List (Sta Grid)} (h : pzS l n z = some (g, b, k)) (hs : slvG g b k = some (S, j)) : nwL l n z = nwTo g b k (sta S j).far g.c.length ∧ lnOk l n z = true := by
  refine ⟨by unfold nwL; rw [h]; show (match slvG g b k with | none => _ | some (S, j) => _) = _; rw [hs], ?_⟩
  unfold lnOk; rw [slvS_of h hs]; rfl
theorem nwL_le (l : List UInt8) (n : ByteArray) (z : Int) : (nwL l n z).length ≤ 36 := by
  cases hp : pzS l n z with
  | none => rw [(nwL_n1 hp).1]; exact Nat.zero_le _
  | some x =>
    obtain ⟨g, b, k⟩ := x
    cases hs : slvG g b k with
    | none => rw [(nwL_n2 hp hs).1]; exact Nat.zero_le _
    | some y =>
      obtain ⟨S, j⟩ := y
      rw [(nwL_y hp hs).1]
      obtain ⟨hc, -, -, -⟩ := pz_tray (pz_some hp)
      have := nwTo_le g b k (sta S j).far g.c.length
      have := hc.len
      have := hc.n36
      omega
theorem fin_vW {v : Value} {a b : Bool} (h : a = b) : Ending.returned (.tuple #[v, .bool a]) = .returned (.tuple #[v, .bool b]) := by rw [h]
def RetW (T : TypeId) (L : List Int) (ok : Bool) (w : World) (e : Ending) (w' : World) : Prop :=
  Gr w w' ∧ ∃ v, e = .returned (.tuple #[v, .bool ok]) ∧ w'.ownsRow w.heap.size T 1 v L.length (intsV L)
set_option maxHeartbeats 2000000 in
set_option maxRecDepth 100000 in
theorem withCellW_any (W H i : Nat) (c : List UInt8) (b : UInt8) (w : World) (hi : i < nn W H) (h36 : nn W H ≤ 36) (hl : c.length = nn W H) : Calls Tryd.prog 65 #[.agg (gv W H c), .int .i64 i, .int .u8 b.toNat] w (Ret (.agg (gv W H (c.set i b))) w) := by
  have gg := Gr.refl w
  have hix := fun B w => Tryd.gix B i (by omega) w
  have HSET := hidI (gv_set W H c i b (by omega) (by omega))
  clear hl
  go_enter Tryd.func65, Tryd.ntmps65
  go_wp2_with (first | (refine r_box 51 _ (gv W H c) rfl rfl ?_; intro w1 B1 N1; have g1 := N1.gr; have b1 : Blk w1 B1 (gv W H c) 51 := N1.blk; have l1 := N1.lo; have t1 := N1.hi; have z1 := g1.size; have gg := gg.trans g1; clear N1; obtain ⟨b1_0, b1_1, b1_2⟩ := gcells b1) | (refine r_alloc 51 _ Tryd.gzero rfl ?_; intro w2 B2 N2; have g2 := N2.gr; have b2 : Blk w2 B2 (gv 0 0 []) 51 := N2.blk; have l2 := N2.lo; have t2 := N2.hi; have z2 := g2.size; have b1 := g2.blk b1; obtain ⟨b1_0, b1_1, b1_2⟩ := gcells b1; have gg := gg.trans g2; clear N2; obtain ⟨b2_0, b2_1, b2_2⟩ := gcells b2) | (refine r_store_cell 5 51 _ _ B1 (2 + i) rfl (byteV b) rfl _ b1 (by rw [gv_size]; omega) Tryd.sizeOf5 rfl rfl ?_; intro w10 u10 b10; rw [HSET.out] at b10; have z10 := u10.size; have b2 := u10.blk b2 (by omega); have gg := u10.gr gg (by omega)) | (refine r_load_row 51 _ _ rfl _ _ _ b10 Tryd.underlying51 rfl (Tryd.ginfo' _ _ _) rfl ?_) | (refine r_store_row 51 51 _ _ _ rfl (gv _ _ _) _ rfl b2 (Tryd.gsize' _ _ _) (by simp only [gv_size]) (gv_one _ _ _) rfl ?_; intro w6 u6 b2'; have z6 := u6.size; have gg := u6.gr gg (by omega); clear b2; have b2 := b2'; clear b2'; obtain ⟨b2_0, b2_1, b2_2⟩ := gcells b2))
  refine bodyPost_ret (results_row rfl _ _ _ _ _ _ rfl b2 Tryd.underlying51 rfl (Tryd.ginfo' _ _ _)) rfl ⟨?_, gg⟩
  rfl
set_option maxHeartbeats 8000000 in
set_option maxRecDepth 100000 in
theorem iNeedlessWalls (s n : ByteArray) (z : Int) (w : World) (hm : ML w) (hs : s.size ≤ 1048576) : Calls Tryd.prog 31 #[.agg (pv s n z)] w (RetW 3 (nwL s.data.toList n z) (lnOk s.data.toList n z) w) := by
  have gg := Gr.refl w
  cases hp : pzS s.data.toList n z with
  | none =>
    have HV := hidI (nwL_n1 hp)
    have HA := hidI (fun w (hm : ML w) => hp ▸ readPuzzle_any s n z w hm hs)
    clear hp
    go_enter Tryd.func31, Tryd.ntmps31
    go_wp2_with (first | (refine r_box 26 _ (pv (s) (n) (z)) rfl rfl ?_; intro w1 B1 N1; have g1 := N1.gr; have b1 : Blk w1 B1 (pv (s) (n) (z)) 26 := N1.blk; have l1 := N1.lo; have t1 := N1.hi; have z1 := g1.size; have gg := gg.trans g1; clear N1; obtain ⟨b1_0, b1_1, b1_2⟩ := pcells b1) | (refine r_load_row 26 _ _ rfl _ _ _ b1 Tryd.underlying26 rfl Tryd.ipinfo rfl ?_) | (go_at_call 40; refine (HA.out _ (gg.ml hm)).mono ?_; rintro e w3 ⟨rfl, g3⟩; have z3 := g3.size; have gg := gg.trans g3) | (refine r_alloc (dst := some 4) 53 _ Tryd.qzero rfl ?_; intro w4 B4 N4; have g4 := N4.gr; have b4 : Blk w4 B4 (qv g00 0 0) 53 := N4.blk; have l4 := N4.lo; have t4 := N4.hi; have z4 := g4.size; have gg := gg.trans g4; clear N4) | (refine r_store_row 53 53 _ _ _ rfl (qv (g00) (0) (0)) _ rfl b4 (Tryd.qsize _ _ _) (by simp only [qv_size]) (qv_one _ _ _) rfl ?_; intro w5 u5 b4'; have z5 := u5.size; have gg := u5.gr gg (by omega); clear b4; have b4 := b4'; clear b4'))
    go_ret2
    exact ⟨gg, _, fin_vW HV.out.2.symm, by rw [HV.out.1]; exact World.ownsRow_nil _ _ _ _⟩
  | some x =>
    obtain ⟨g, b, k⟩ := x
    have hz := pz_some hp
    obtain ⟨hc, hw1, hh1, hl⟩ := pz_tray hz
    have w7 := hc.w7
    have h7 := hc.h7
    have n36 := hc.n36
    have hlen := hc.len
    have hk36 : k < 36 := by have := hz.kl; omega
    have HA := hidI (fun w (hm : ML w) => hp ▸ readPuzzle_any s n z w hm hs)
    have HS := fun w => solve_any g b k w hc hk36
    unfold RetSl at HS
    cases hr : slvG g b k with
    | none =>
      rw [hr] at HS
      have HV := hidI (nwL_n2 hp hr)
      clear hp hz hc hr
      go_enter Tryd.func31, Tryd.ntmps31
      go_wp2_with (first | (refine r_box 26 _ (pv (s) (n) (z)) rfl rfl ?_; intro w1 B1 N1; have g1 := N1.gr; have b1 : Blk w1 B1 (pv (s) (n) (z)) 26 := N1.blk; have l1 := N1.lo; have t1 := N1.hi; have z1 := g1.size; have gg := gg.trans g1; clear N1; obtain ⟨b1_0, b1_1, b1_2⟩ := pcells b1) | (refine r_load_row 26 _ _ rfl _ _ _ b1 Tryd.underlying26 rfl Tryd.ipinfo rfl ?_) | (go_at_call 40; refine (HA.out _ (gg.ml hm)).mono ?_; rintro e w3 ⟨rfl, g3⟩; have z3 := g3.size; have gg := gg.trans g3) | (refine r_alloc (dst := some 4) 53 _ Tryd.qzero rfl ?_; intro w4 B4 N4; have g4 := N4.gr; have b4 : Blk w4 B4 (qv g00 0 0) 53 := N4.blk; have l4 := N4.lo; have t4 := N4.hi; have z4 := g4.size; have gg := gg.trans g4; clear N4) | (refine r_store_row 53 53 _ _ _ rfl (qv (g) (b) (k)) _ rfl b4 (Tryd.qsize _ _ _) (by simp only [qv_size]) (qv_one _ _ _) rfl ?_; intro w5 u5 b4'; have z5 := u5.size; have gg := u5.gr gg (by omega); clear b4; have b4 := b4'; clear b4') | (refine r_load_row 53 _ _ rfl _ _ _ b4 Tryd.underlying53 rfl (Tryd.qinfo _ _ _) rfl ?_) | (go_at_call 63; refine (HS _).mono ?_; rintro e w7 ⟨g7, rfl⟩; have z7 := g7.size; have gg := gg.trans g7; have b4 := g7.blk b4) | (refine r_alloc (dst := some 6) 79 _ Tryd.slvzero rfl ?_; intro w6 B6 N6; have g6 := N6.gr; have b6 : Blk w6 B6 (slV (.slice none 0 0) (.slice none 0 0)) 79 := N6.blk; have l6 := N6.lo; have t6 := N6.hi; have z6 := g6.size; have gg := gg.trans g6; clear N6) | (refine r_store_row 79 79 _ _ _ rfl (slV (.slice none 0 0) (.slice none 0 0)) _ rfl b6 Tryd.slvsize rfl (slV_one rfl rfl) rfl ?_; intro w8 u8 b6'; have gg := u8.gr gg (by omega)))
      go_ret2
      exact ⟨gg, _, fin_vW HV.out.2.symm, by rw [HV.out.1]; exact World.ownsRow_nil _ _ _ _⟩
    | some y =>
      obtain ⟨S, j⟩ := y
      rw [hr] at HS
      dsimp only at HS
      have HV := hidI (nwL_y hp hr)
      obtain ⟨hrs, hfs, -⟩ := slvG_some hr
      obtain ⟨hj, -, -⟩ := fsS_some hfs
      obtain ⟨r, hrr⟩ := sdTo_head hfs
      have h0 : 0 < S.length := by omega
      obtain ⟨far, hfar⟩ : ∃ far, far = (sta S j).far := ⟨_, rfl⟩
      obtain ⟨L0, hL0⟩ : ∃ L0, L0 = sdTo S b k (sta S j).far S.length := ⟨_, rfl⟩
      rw [← hL0] at HS hrr
      have HL1 := hidI (fun (w' : World) (v u : Value) (nx : Nat → Value) (b1 b2 : Nat) (row : w'.ownsRow b1 103 43 v S.length (rowsI S nx).flatten) (own : w'.ownsRow b2 3 1 u L0.length (natsV L0)) => show Calls Tryd.prog 54 #[.agg (slV v u)] w' (Ret (.int .i64 (far : Int)) w') from hfar ▸ length_any b1 b2 S L0 j r v u nx w' hrr hj h0 row own)
      rw [← hfar] at HV
      have HCA := hidI (fun w' => show Calls Tryd.prog 64 #[.agg (gvG g)] w' (Ret (.int .i64 (g.c.length : Int)) w') from by rw [hlen]; exact countAll_any g.w g.h g.c w' w7 h7)
      have HC := hidI hc
      have hl36 : g.c.length ≤ 36 := by omega
      have HWCL := hidI (fun m (hm : m < g.c.length) w' => show Calls Tryd.prog 65 #[.agg (gv g.w g.h g.c), .int .i64 m, .int .u8 46] w' (Ret (.agg (gvG (opG g m))) w') from withCellW_any g.w g.h m g.c 46 w' (by rw [← hlen]; exact hm) n36 hlen)
      clear hp hz hc hr hrs hfs hrr hL0 hfar hlen
      go_enter Tryd.func31, Tryd.ntmps31
      go_wp2_with (first | (refine r_box 26 _ (pv (s) (n) (z)) rfl rfl ?_; intro w1 B1 N1; have g1 := N1.gr; have b1 : Blk w1 B1 (pv (s) (n) (z)) 26 := N1.blk; have l1 := N1.lo; have t1 := N1.hi; have z1 := g1.size; have gg := gg.trans g1; clear N1; obtain ⟨b1_0, b1_1, b1_2⟩ := pcells b1) | (refine r_load_row 26 _ _ rfl _ _ _ b1 Tryd.underlying26 rfl Tryd.ipinfo rfl ?_) | (go_at_call 40; refine (HA.out _ (gg.ml hm)).mono ?_; rintro e w3 ⟨rfl, g3⟩; have z3 := g3.size; have gg := gg.trans g3) | (refine r_alloc (dst := some 4) 53 _ Tryd.qzero rfl ?_; intro w4 B4 N4; have g4 := N4.gr; have b4 : Blk w4 B4 (qv g00 0 0) 53 := N4.blk; have l4 := N4.lo; have t4 := N4.hi; have z4 := g4.size; have gg := gg.trans g4; clear N4) | (refine r_store_row 53 53 _ _ _ rfl (qv (g) (b) (k)) _ rfl b4 (Tryd.qsize _ _ _) (by simp only [qv_size]) (qv_one _ _ _) rfl ?_; intro w5 u5 b4'; have z5 := u5.size; have gg := u5.gr gg (by omega); clear b4; have b4 := b4'; clear b4') | (refine r_load_row 53 _ _ rfl _ _ _ b4 Tryd.underlying53 rfl (Tryd.qinfo _ _ _) rfl ?_) | (have zb := gg.size; go_at_call 63; refine (HS _).mono ?_; rintro e w7 ⟨g7, v, u, nx, rfl, IS, own7⟩; have z7 := g7.size; have gg := gg.trans g7; have b4 := g7.blk b4; have row := IS.row; have ov := own_one row; have ou := own_one own7) | ((refine r_alloc (dst := some 6) 79 _ Tryd.slvzero rfl ?_; intro w6 B6 N6; have g6 := N6.gr; have b6 : Blk w6 B6 (slV (.slice none 0 0) (.slice none 0 0)) 79 := N6.blk; have l6 := N6.lo; have t6 := N6.hi; have z6 := g6.size; have b4 := g6.blk b4; have gg := gg.trans g6; clear N6); have row := g6.row row; have own7 := g6.row own7) | (refine r_store_row 79 79 _ _ _ rfl (slV v u) _ rfl b6 Tryd.slvsize rfl (slV_one ov ou) rfl ?_; intro w8 u8 b66; have row := u8.row row (own_ne row b6 (by decide)); have own7 := u8.row own7 (own_ne own7 b6 (by decide)); have b4 := u8.blk b4 (blk_ne b4 b6 (by decide)); have gg := u8.gr gg (by omega); have z8 := u8.size) | (refine r_fld 53 _ 0 (.pointer (some ⟨B4, 0, none⟩)) (.pointer (some ⟨B4, 0, none⟩)) rfl (Tryd.qf0 B4 _) rfl ?_) | (refine r_ldm 51 _ B4 0 (gvG g) _ rfl (qcells b4).1 Tryd.underlying51 rfl (Tryd.ginfo' _ _ _) rfl ?_) | ((go_at_call 64; refine (HCA.out _).mono ?_; rintro e w9 ⟨rfl, g9⟩; have z9 := g9.size; have b4 := g9.blk b4; have b66 := g9.blk b66; have gg := gg.trans g9); have row := g9.row row; have own7 := g9.row own7))
      have row6 := row
      have own6 := own7
      have b46 := b4
      have gg6 := gg
      have zz6 := gg.size
      clear gg row own7 b4
      generalize w9 = w6 at *
      have own0 : w6.ownsRow w6.heap.size 3 1 (.slice none 0 0) (nwTo g b k far 0).length (intsV (nwTo g b k far 0)) := World.ownsRow_nil _ _ _ _
      go_loopw [7, 28] (fun ov iv wr => ∃ m : Nat, m ≤ g.c.length ∧ iv = .int .i64 m ∧ wr.ownsRow w6.heap.size 3 1 ov (nwTo g b k far m).length (intsV (nwTo g b k far m)) ∧ Gr w6 wr) (fun _ iv _ => g.c.length - (intOf iv).toNat)
      case atStart => exact ⟨0, Nat.zero_le _, rfl, own0, Gr.refl _⟩
      case round =>
        clear own0
        obtain ⟨m, hm, rfl, own, gg⟩ := hrel
        have b4 := gg.blk b46
        have zr := gg.size
        by_cases hlt : m < g.c.length
        · have HNW := hidI (nwTo_succ g b k far m)
          have hnl := nwTo_le g b k far m
          obtain ⟨L, hL⟩ : ∃ L, L = nwTo g b k far m := ⟨_, rfl⟩
          rw [← hL] at own HNW hnl
          obtain ⟨p5, n5, k5, rfl⟩ := own_slice own
          obtain rfl : n5 = L.length := own_len own
          have hm36 : m < 36 := by omega
          have hcl : wr.cell? ⟨B4, 2 + m, none⟩ = some (.int .u8 (at0 g.c m).toNat) := by
            have := (qcells b4).1 (2 + m) (.int .u8 (at0 g.c m).toNat) (by rw [Array.getElem?_toList]; exact gv_c g.w g.h g.c m hm36)
            rwa [Nat.zero_add] at this
          clear hL
          by_cases hw : at0 g.c m = 35
          · have e1 : (((at0 g.c m).toNat : Int) == 35) = true := by rw [hw]; rfl
            have HWC := hidI (HWCL.out m hlt)
            have htc := op_cel HC.out hlt
            have HSO := fun w' => solve_any (opG g m) b k w' htc hk36
            unfold RetSl at HSO
            have HW := hidI hw
            obtain ⟨t, ht⟩ : ∃ t, t = opG g m := ⟨_, rfl⟩
            rw [← ht] at HWC HSO
            cases hs2 : slvG t b k with
            | none =>
              rw [hs2] at HSO
              have HSV := hidI (fun w' => show Calls Tryd.prog 63 #[.agg (qv t b k)] w' (Ret (.tuple #[.agg (slV (.slice none 0 0) (.slice none 0 0)), .bool false]) w') from (HSO w').mono fun e w'' h => ⟨h.2, h.1⟩)
              have HS2 := hidI (show L = nwTo g b k far (m + 1) from by rw [HNW.out, nwB_none (ht ▸ hs2)]; rfl)
              clear hs2 HSO htc ht hw
              go_upto_region 12 with (first | (refine r_fld 53 _ 0 (.pointer (some ⟨B4, 0, none⟩)) (.pointer (some ⟨B4, 0, none⟩)) rfl (Tryd.qf0 B4 _) rfl ?_) | (refine r_fld 51 _ 2 (.pointer (some ⟨B4, 0, none⟩)) (.pointer (some ⟨B4, 2, none⟩)) rfl (Tryd.gf2 B4 _) rfl ?_) | (refine r_idx 49 _ _ (.pointer (some ⟨B4, 2, none⟩)) (.int .i64 m) _ rfl rfl (Tryd.gix B4 m hm36 _) rfl ?_))
              refine F_begin (fun w => (Blk w B4 (qv g b k) 53)) 14 16 #[false, false, false, false, false, false, false, false, false, false, false, false, false, false, false, false] rfl (by kernel_rfl) (by kernel_rfl) ?_
              have gd := (Gr.refl wr).drew
              have b4 := gd.blk b4
              have own := gd.row own
              have gg := gg.trans gd
              have zd := gd.size
              generalize wr.drew = wd at *
              refine F_free (v := .pointer (some ⟨B4, 0, none⟩)) 0 #[true, false, false, false, false, false, false, false, false, false, false, false, false, false, false, false] rfl (by kernel_rfl) (fun _ _ _ h => h) rfl (fun _ => e_val _ _ (Tryd.qf0 _ _)) (b4) ?_; simp only [Act.put, List.setIfInBounds_toArray, List.set_cons_succ, List.set_cons_zero]
              refine F_take (v := .agg (gv g.w g.h g.c)) 1 #[true, true, false, false, false, false, false, false, false, false, false, false, false, false, false, false] rfl (by kernel_rfl) (fun _ _ _ h => h) rfl (fun w hF => e_load_mid 51 (.tmp 38) B4 0 (gvG g).toList _ rfl (qcells hF).1 Tryd.underlying51 rfl (by rw [gvl]; exact Tryd.ginfo)) (b4) ?_; simp only [Act.put, List.setIfInBounds_toArray, List.set_cons_succ, List.set_cons_zero]
              refine F_free (v := .int .i64 m) 2 #[true, true, true, false, false, false, false, false, false, false, false, false, false, false, false, false] rfl (by kernel_rfl) (fun _ _ _ h => h) rfl (fun _ => rfl) (b4) ?_; simp only [Act.put, List.setIfInBounds_toArray, List.set_cons_succ, List.set_cons_zero]
              refine F_free (v := .pointer (some ⟨B4, 38, none⟩)) 4 #[true, true, true, false, true, false, false, false, false, false, false, false, false, false, false, false] rfl (by kernel_rfl) (fun _ _ _ h => h) rfl (fun _ => e_val _ _ (Tryd.qf1 _ _)) (b4) ?_; simp only [Act.put, List.setIfInBounds_toArray, List.set_cons_succ, List.set_cons_zero]
              refine F_take (v := .int .u8 b.toNat) 5 #[true, true, true, false, true, true, false, false, false, false, false, false, false, false, false, false] rfl (by kernel_rfl) (fun _ _ _ h => h) rfl (fun w hF => e_load 5 (.tmp 42) _ _ rfl (Tryd.isAgg5 _) (qcells hF).2.1) (b4) ?_; simp only [Act.put, List.setIfInBounds_toArray, List.set_cons_succ, List.set_cons_zero]
              refine F_free (v := .pointer (some ⟨B4, 39, none⟩)) 6 #[true, true, true, false, true, true, true, false, false, false, false, false, false, false, false, false] rfl (by kernel_rfl) (fun _ _ _ h => h) rfl (fun _ => e_val _ _ (Tryd.qf2 _ _)) (b4) ?_; simp only [Act.put, List.setIfInBounds_toArray, List.set_cons_succ, List.set_cons_zero]
              refine F_take (v := .int .i64 k) 7 #[true, true, true, false, true, true, true, true, false, false, false, false, false, false, false, false] rfl (by kernel_rfl) (fun _ _ _ h => h) rfl (fun w hF => e_load 3 (.tmp 44) _ _ rfl (Tryd.isAgg3 _) (qcells hF).2.2) (b4) ?_; simp only [Act.put, List.setIfInBounds_toArray, List.set_cons_succ, List.set_cons_zero]
              refine F_two 3 13 #[true, true, true, true, true, true, true, true, false, false, false, false, false, false, false, false] #[true, true, true, false, true, true, true, true, false, false, false, false, false, true, false, false] rfl rfl (by kernel_rfl) ?_ ?_
              case' refine_1 =>
                refine r_call 65 [.tmp 39, .tmp 40, .const (.int .u8 46)] _ [.agg (gv g.w g.h g.c), .int .i64 m, .int .u8 46] (.agg (gvG t)) (fun w' => Gr wd w') Tryd.call65 rfl rfl (HWC.out wd) ?_
                intro wc gc
                have b4 := gc.blk b4
                have own := gc.row own
                have gg := gg.trans gc
                have zc := gc.size
                (try have b9 := gc.blk b9)
                refine ⟨fun _ => b4, ?_⟩
                simp only [Act.put, List.setIfInBounds_toArray, List.set_cons_succ, List.set_cons_zero]
                refine F_free (v := .agg (qv t b k)) 8 #[true, true, true, true, true, true, true, true, true, false, false, false, false, false, false, false] rfl (by kernel_rfl) (fun _ _ _ h => h) rfl (fun _ => e_buildP 53 [(0, .tmp 41), (1, .tmp 43), (2, .tmp 45)] [(0, .agg (gvG t)), (1, .int .u8 b.toNat), (2, .int .i64 k)] _ (Tryd.qbuild _ _ _ _) rfl) (b4) ?_; simp only [Act.put, List.setIfInBounds_toArray, List.set_cons_succ, List.set_cons_zero]
                refine F_two 9 13 #[true, true, true, true, true, true, true, true, true, true, false, false, false, false, false, false] #[true, true, true, true, true, true, true, true, true, false, false, false, false, true, false, false] rfl rfl (by kernel_rfl) ?_ ?_
                case' refine_1 =>
                  refine r_call 63 [.tmp 46] _ [.agg (qv t b k)] (.tuple #[.agg (slV (.slice none 0 0) (.slice none 0 0)), .bool false]) (fun w' => Gr wc w') Tryd.call63 rfl rfl (HSV.out wc) ?_
                  intro ws gs
                  have b4 := gs.blk b4
                  have own := gs.row own
                  have gg := gg.trans gs
                  have zs := gs.size
                  (try have b9 := gs.blk b9)
                  refine ⟨fun _ => b4, ?_⟩
                  simp only [Act.put, List.setIfInBounds_toArray, List.set_cons_succ, List.set_cons_zero]
                  refine F_free (v := .tuple #[.agg (slV (.slice none 0 0) (.slice none 0 0)), .bool false]) 10 #[true, true, true, true, true, true, true, true, true, true, true, false, false, false, false, false] rfl (by kernel_rfl) (fun _ _ _ h => h) rfl (fun _ => by first | rfl | (unfold execOp; simp [go_sem, Act.eval])) (b4) ?_; simp only [Act.put, List.setIfInBounds_toArray, List.set_cons_succ, List.set_cons_zero]
                  refine F_free (v := .agg (slV (.slice none 0 0) (.slice none 0 0))) 11 #[true, true, true, true, true, true, true, true, true, true, true, true, false, false, false, false] rfl (by kernel_rfl) (fun _ _ _ h => h) rfl (fun _ => by first | rfl | (unfold execOp; simp [go_sem, Act.eval])) (b4) ?_; simp only [Act.put, List.setIfInBounds_toArray, List.set_cons_succ, List.set_cons_zero]
                  refine F_free (v := .bool false) 12 #[true, true, true, true, true, true, true, true, true, true, true, true, true, false, false, false] rfl (by kernel_rfl) (fun _ _ _ h => h) rfl (fun _ => by first | rfl | (unfold execOp; simp [go_sem, Act.eval])) (b4) ?_; simp only [Act.put, List.setIfInBounds_toArray, List.set_cons_succ, List.set_cons_zero]
                  refine F_one 13 #[true, true, true, true, true, true, true, true, true, true, true, true, true, true, false, false] rfl (by kernel_rfl) ?_
                  (refine r_alloc 79 _ Tryd.slvzero rfl ?_; intro w9 B9 N9; have g9 := N9.gr; have b9 : Blk w9 B9 (slV (.slice none 0 0) (.slice none 0 0)) 79 := N9.blk; have l9 := N9.lo; have t9 := N9.hi; have z9 := g9.size; have b4 := g9.blk b4; have gg := gg.trans g9; clear N9)
                  have own := g9.row own
                  (try have row2 := g9.row row2)
                  (try have own2 := g9.row own2)
                  refine ⟨fun _ => b4, ?_⟩
                  simp only [Act.put, List.setIfInBounds_toArray, List.set_cons_succ, List.set_cons_zero]
                  refine F_one 14 #[true, true, true, true, true, true, true, true, true, true, true, true, true, true, true, false] rfl (by kernel_rfl) ?_
                  refine r_store_row 79 79 _ _ _ rfl (slV (.slice none 0 0) (.slice none 0 0)) _ rfl b9 Tryd.slvsize rfl (slV_one rfl rfl) rfl ?_
                  intro w10 u10 b10
                  have own := u10.row own (own_ne own b9 (by decide))
                  have gg := u10.gr gg (by omega)
                  refine ⟨fun h => (by cases h), ?_⟩
                  simp only [Act.put]
                  refine F_one 15 #[true, true, true, true, true, true, true, true, true, true, true, true, true, true, true, true] rfl (by kernel_rfl) ?_
                  refine r_val (.bool false) rfl rfl ?_
                  refine ⟨fun h => (by cases h), ?_⟩
                  simp only [Act.put, List.setIfInBounds_toArray, List.set_cons_succ, List.set_cons_zero]
                  refine F_done (by kernel_rfl) ?_
                  go_wp2
                  refine q_whole (by kernel_rfl) (by kernel_rfl) ?_
                  refine q_move _ (.bool false) rfl rfl ?_; simp only [Act.put, List.setIfInBounds_toArray, List.set_cons_succ, List.set_cons_zero]
                  refine q_move _ (.bool false) rfl rfl ?_; simp only [Act.put, List.setIfInBounds_toArray, List.set_cons_succ, List.set_cons_zero]
                  go_big_quiet_skip
                  go_big_quiet_skip
                  go_big_quiet_skip
                  go_big_quiet_skip
                  go_big_quiet_skip
                  refine q_take (.bool false) rfl (fun w' hw' => by first | rfl | (unfold execOp; simp [go_sem, Act.eval])) ?_
                  simp only [Act.put, List.setIfInBounds_toArray, List.set_cons_succ, List.set_cons_zero]
                  refine wpQuiet_nil ?_
                  intro wq gq
                  have gg := gg.trans gq
                  have own := gq.row own
                  go_wp2
                  go_roundw
                  case rel => exact ⟨m + 1, by omega, by go_num, by rw [← HS2.out]; exact own, gg⟩
                  case measure => simp [intOf]; omega
                case' refine_2 =>
                  (refine r_alloc 79 _ Tryd.slvzero rfl ?_; intro w9 B9 N9; have g9 := N9.gr; have b9 : Blk w9 B9 (slV (.slice none 0 0) (.slice none 0 0)) 79 := N9.blk; have l9 := N9.lo; have t9 := N9.hi; have z9 := g9.size; have b4 := g9.blk b4; have gg := gg.trans g9; clear N9)
                  have own := g9.row own
                  (try have row2 := g9.row row2)
                  (try have own2 := g9.row own2)
                  refine ⟨fun _ => b4, ?_⟩
                  simp only [Act.put, List.setIfInBounds_toArray, List.set_cons_succ, List.set_cons_zero]
                  refine F_one 9 #[true, true, true, true, true, true, true, true, true, true, false, false, false, true, false, false] rfl (by kernel_rfl) ?_
                  refine r_call 63 [.tmp 46] _ [.agg (qv t b k)] (.tuple #[.agg (slV (.slice none 0 0) (.slice none 0 0)), .bool false]) (fun w' => Gr w9 w') Tryd.call63 rfl rfl (HSV.out w9) ?_
                  intro ws gs
                  have b4 := gs.blk b4
                  have own := gs.row own
                  have gg := gg.trans gs
                  have zs := gs.size
                  (try have b9 := gs.blk b9)
                  refine ⟨fun _ => b4, ?_⟩
                  simp only [Act.put, List.setIfInBounds_toArray, List.set_cons_succ, List.set_cons_zero]
                  refine F_free (v := .tuple #[.agg (slV (.slice none 0 0) (.slice none 0 0)), .bool false]) 10 #[true, true, true, true, true, true, true, true, true, true, true, false, false, true, false, false] rfl (by kernel_rfl) (fun _ _ _ h => h) rfl (fun _ => by first | rfl | (unfold execOp; simp [go_sem, Act.eval])) (b4) ?_; simp only [Act.put, List.setIfInBounds_toArray, List.set_cons_succ, List.set_cons_zero]
                  refine F_free (v := .agg (slV (.slice none 0 0) (.slice none 0 0))) 11 #[true, true, true, true, true, true, true, true, true, true, true, true, false, true, false, false] rfl (by kernel_rfl) (fun _ _ _ h => h) rfl (fun _ => by first | rfl | (unfold execOp; simp [go_sem, Act.eval])) (b4) ?_; simp only [Act.put, List.setIfInBounds_toArray, List.set_cons_succ, List.set_cons_zero]
                  refine F_free (v := .bool false) 12 #[true, true, true, true, true, true, true, true, true, true, true, true, true, true, false, false] rfl (by kernel_rfl) (fun _ _ _ h => h) rfl (fun _ => by first | rfl | (unfold execOp; simp [go_sem, Act.eval])) (b4) ?_; simp only [Act.put, List.setIfInBounds_toArray, List.set_cons_succ, List.set_cons_zero]
                  refine F_one 14 #[true, true, true, true, true, true, true, true, true, true, true, true, true, true, true, false] rfl (by kernel_rfl) ?_
                  refine r_store_row 79 79 _ _ _ rfl (slV (.slice none 0 0) (.slice none 0 0)) _ rfl b9 Tryd.slvsize rfl (slV_one rfl rfl) rfl ?_
                  intro w10 u10 b10
                  have own := u10.row own (own_ne own b9 (by decide))
                  have gg := u10.gr gg (by omega)
                  refine ⟨fun h => (by cases h), ?_⟩
                  simp only [Act.put]
                  refine F_one 15 #[true, true, true, true, true, true, true, true, true, true, true, true, true, true, true, true] rfl (by kernel_rfl) ?_
                  refine r_val (.bool false) rfl rfl ?_
                  refine ⟨fun h => (by cases h), ?_⟩
                  simp only [Act.put, List.setIfInBounds_toArray, List.set_cons_succ, List.set_cons_zero]
                  refine F_done (by kernel_rfl) ?_
                  go_wp2
                  refine q_whole (by kernel_rfl) (by kernel_rfl) ?_
                  refine q_move _ (.bool false) rfl rfl ?_; simp only [Act.put, List.setIfInBounds_toArray, List.set_cons_succ, List.set_cons_zero]
                  refine q_move _ (.bool false) rfl rfl ?_; simp only [Act.put, List.setIfInBounds_toArray, List.set_cons_succ, List.set_cons_zero]
                  go_big_quiet_skip
                  go_big_quiet_skip
                  go_big_quiet_skip
                  go_big_quiet_skip
                  go_big_quiet_skip
                  refine q_take (.bool false) rfl (fun w' hw' => by first | rfl | (unfold execOp; simp [go_sem, Act.eval])) ?_
                  simp only [Act.put, List.setIfInBounds_toArray, List.set_cons_succ, List.set_cons_zero]
                  refine wpQuiet_nil ?_
                  intro wq gq
                  have gg := gg.trans gq
                  have own := gq.row own
                  go_wp2
                  go_roundw
                  case rel => exact ⟨m + 1, by omega, by go_num, by rw [← HS2.out]; exact own, gg⟩
                  case measure => simp [intOf]; omega
              case' refine_2 =>
                (refine r_alloc 79 _ Tryd.slvzero rfl ?_; intro w9 B9 N9; have g9 := N9.gr; have b9 : Blk w9 B9 (slV (.slice none 0 0) (.slice none 0 0)) 79 := N9.blk; have l9 := N9.lo; have t9 := N9.hi; have z9 := g9.size; have b4 := g9.blk b4; have gg := gg.trans g9; clear N9)
                have own := g9.row own
                (try have row2 := g9.row row2)
                (try have own2 := g9.row own2)
                refine ⟨fun _ => b4, ?_⟩
                simp only [Act.put, List.setIfInBounds_toArray, List.set_cons_succ, List.set_cons_zero]
                refine F_one 3 #[true, true, true, true, true, true, true, true, false, false, false, false, false, true, false, false] rfl (by kernel_rfl) ?_
                refine r_call 65 [.tmp 39, .tmp 40, .const (.int .u8 46)] _ [.agg (gv g.w g.h g.c), .int .i64 m, .int .u8 46] (.agg (gvG t)) (fun w' => Gr w9 w') Tryd.call65 rfl rfl (HWC.out w9) ?_
                intro wc gc
                have b4 := gc.blk b4
                have own := gc.row own
                have gg := gg.trans gc
                have zc := gc.size
                (try have b9 := gc.blk b9)
                refine ⟨fun _ => b4, ?_⟩
                simp only [Act.put, List.setIfInBounds_toArray, List.set_cons_succ, List.set_cons_zero]
                refine F_free (v := .agg (qv t b k)) 8 #[true, true, true, true, true, true, true, true, true, false, false, false, false, true, false, false] rfl (by kernel_rfl) (fun _ _ _ h => h) rfl (fun _ => e_buildP 53 [(0, .tmp 41), (1, .tmp 43), (2, .tmp 45)] [(0, .agg (gvG t)), (1, .int .u8 b.toNat), (2, .int .i64 k)] _ (Tryd.qbuild _ _ _ _) rfl) (b4) ?_; simp only [Act.put, List.setIfInBounds_toArray, List.set_cons_succ, List.set_cons_zero]
                refine F_one 9 #[true, true, true, true, true, true, true, true, true, true, false, false, false, true, false, false] rfl (by kernel_rfl) ?_
                refine r_call 63 [.tmp 46] _ [.agg (qv t b k)] (.tuple #[.agg (slV (.slice none 0 0) (.slice none 0 0)), .bool false]) (fun w' => Gr wc w') Tryd.call63 rfl rfl (HSV.out wc) ?_
                intro ws gs
                have b4 := gs.blk b4
                have own := gs.row own
                have gg := gg.trans gs
                have zs := gs.size
                (try have b9 := gs.blk b9)
                refine ⟨fun _ => b4, ?_⟩
                simp only [Act.put, List.setIfInBounds_toArray, List.set_cons_succ, List.set_cons_zero]
                refine F_free (v := .tuple #[.agg (slV (.slice none 0 0) (.slice none 0 0)), .bool false]) 10 #[true, true, true, true, true, true, true, true, true, true, true, false, false, true, false, false] rfl (by kernel_rfl) (fun _ _ _ h => h) rfl (fun _ => by first | rfl | (unfold execOp; simp [go_sem, Act.eval])) (b4) ?_; simp only [Act.put, List.setIfInBounds_toArray, List.set_cons_succ, List.set_cons_zero]
                refine F_free (v := .agg (slV (.slice none 0 0) (.slice none 0 0))) 11 #[true, true, true, true, true, true, true, true, true, true, true, true, false, true, false, false] rfl (by kernel_rfl) (fun _ _ _ h => h) rfl (fun _ => by first | rfl | (unfold execOp; simp [go_sem, Act.eval])) (b4) ?_; simp only [Act.put, List.setIfInBounds_toArray, List.set_cons_succ, List.set_cons_zero]
                refine F_free (v := .bool false) 12 #[true, true, true, true, true, true, true, true, true, true, true, true, true, true, false, false] rfl (by kernel_rfl) (fun _ _ _ h => h) rfl (fun _ => by first | rfl | (unfold execOp; simp [go_sem, Act.eval])) (b4) ?_; simp only [Act.put, List.setIfInBounds_toArray, List.set_cons_succ, List.set_cons_zero]
                refine F_one 14 #[true, true, true, true, true, true, true, true, true, true, true, true, true, true, true, false] rfl (by kernel_rfl) ?_
                refine r_store_row 79 79 _ _ _ rfl (slV (.slice none 0 0) (.slice none 0 0)) _ rfl b9 Tryd.slvsize rfl (slV_one rfl rfl) rfl ?_
                intro w10 u10 b10
                have own := u10.row own (own_ne own b9 (by decide))
                have gg := u10.gr gg (by omega)
                refine ⟨fun h => (by cases h), ?_⟩
                simp only [Act.put]
                refine F_one 15 #[true, true, true, true, true, true, true, true, true, true, true, true, true, true, true, true] rfl (by kernel_rfl) ?_
                refine r_val (.bool false) rfl rfl ?_
                refine ⟨fun h => (by cases h), ?_⟩
                simp only [Act.put, List.setIfInBounds_toArray, List.set_cons_succ, List.set_cons_zero]
                refine F_done (by kernel_rfl) ?_
                go_wp2
                refine q_whole (by kernel_rfl) (by kernel_rfl) ?_
                refine q_move _ (.bool false) rfl rfl ?_; simp only [Act.put, List.setIfInBounds_toArray, List.set_cons_succ, List.set_cons_zero]
                refine q_move _ (.bool false) rfl rfl ?_; simp only [Act.put, List.setIfInBounds_toArray, List.set_cons_succ, List.set_cons_zero]
                go_big_quiet_skip
                go_big_quiet_skip
                go_big_quiet_skip
                go_big_quiet_skip
                go_big_quiet_skip
                refine q_take (.bool false) rfl (fun w' hw' => by first | rfl | (unfold execOp; simp [go_sem, Act.eval])) ?_
                simp only [Act.put, List.setIfInBounds_toArray, List.set_cons_succ, List.set_cons_zero]
                refine wpQuiet_nil ?_
                intro wq gq
                have gg := gg.trans gq
                have own := gq.row own
                go_wp2
                go_roundw
                case rel => exact ⟨m + 1, by omega, by go_num, by rw [← HS2.out]; exact own, gg⟩
                case measure => simp [intOf]; omega
            | some y2 =>
              obtain ⟨S2, j2⟩ := y2
              rw [hs2] at HSO
              dsimp only at HSO
              obtain ⟨-, hfs2, -⟩ := slvG_some hs2
              obtain ⟨hj2, -, -⟩ := fsS_some hfs2
              obtain ⟨r2, hrr2⟩ := sdTo_head hfs2
              have h02 : 0 < S2.length := by omega
              obtain ⟨far2, hfar2⟩ : ∃ far2, far2 = (sta S2 j2).far := ⟨_, rfl⟩
              obtain ⟨L2, hL2⟩ : ∃ L2, L2 = sdTo S2 b k (sta S2 j2).far S2.length := ⟨_, rfl⟩
              rw [← hL2] at HSO hrr2
              have HSV := hidI HSO
              have HL2 := hidI (fun (w' : World) (v u : Value) (nx : Nat → Value) (b1 b2 : Nat) (row : w'.ownsRow b1 103 43 v S2.length (rowsI S2 nx).flatten) (own : w'.ownsRow b2 3 1 u L2.length (natsV L2)) => show Calls Tryd.prog 54 #[.agg (slV v u)] w' (Ret (.int .i64 (far2 : Int)) w') from hfar2 ▸ length_any b1 b2 S2 L2 j2 r2 v u nx w' hrr2 hj2 h02 row own)
              have HB2 := hidI (show nwB g b k far m = decide (far2 = far) from by rw [hfar2]; exact nwB_some hw (ht ▸ hs2))
              clear hs2 HSO htc ht hw hfs2 hrr2 hL2 hfar2
              go_upto_region 12 with (first | (refine r_fld 53 _ 0 (.pointer (some ⟨B4, 0, none⟩)) (.pointer (some ⟨B4, 0, none⟩)) rfl (Tryd.qf0 B4 _) rfl ?_) | (refine r_fld 51 _ 2 (.pointer (some ⟨B4, 0, none⟩)) (.pointer (some ⟨B4, 2, none⟩)) rfl (Tryd.gf2 B4 _) rfl ?_) | (refine r_idx 49 _ _ (.pointer (some ⟨B4, 2, none⟩)) (.int .i64 m) _ rfl rfl (Tryd.gix B4 m hm36 _) rfl ?_))
              refine F_begin (fun w => (Blk w B4 (qv g b k) 53)) 14 16 #[false, false, false, false, false, false, false, false, false, false, false, false, false, false, false, false] rfl (by kernel_rfl) (by kernel_rfl) ?_
              have gd := (Gr.refl wr).drew
              have b4 := gd.blk b4
              have own := gd.row own
              have gg := gg.trans gd
              have zd := gd.size
              generalize wr.drew = wd at *
              refine F_free (v := .pointer (some ⟨B4, 0, none⟩)) 0 #[true, false, false, false, false, false, false, false, false, false, false, false, false, false, false, false] rfl (by kernel_rfl) (fun _ _ _ h => h) rfl (fun _ => e_val _ _ (Tryd.qf0 _ _)) (b4) ?_; simp only [Act.put, List.setIfInBounds_toArray, List.set_cons_succ, List.set_cons_zero]
              refine F_take (v := .agg (gv g.w g.h g.c)) 1 #[true, true, false, false, false, false, false, false, false, false, false, false, false, false, false, false] rfl (by kernel_rfl) (fun _ _ _ h => h) rfl (fun w hF => e_load_mid 51 (.tmp 38) B4 0 (gvG g).toList _ rfl (qcells hF).1 Tryd.underlying51 rfl (by rw [gvl]; exact Tryd.ginfo)) (b4) ?_; simp only [Act.put, List.setIfInBounds_toArray, List.set_cons_succ, List.set_cons_zero]
              refine F_free (v := .int .i64 m) 2 #[true, true, true, false, false, false, false, false, false, false, false, false, false, false, false, false] rfl (by kernel_rfl) (fun _ _ _ h => h) rfl (fun _ => rfl) (b4) ?_; simp only [Act.put, List.setIfInBounds_toArray, List.set_cons_succ, List.set_cons_zero]
              refine F_free (v := .pointer (some ⟨B4, 38, none⟩)) 4 #[true, true, true, false, true, false, false, false, false, false, false, false, false, false, false, false] rfl (by kernel_rfl) (fun _ _ _ h => h) rfl (fun _ => e_val _ _ (Tryd.qf1 _ _)) (b4) ?_; simp only [Act.put, List.setIfInBounds_toArray, List.set_cons_succ, List.set_cons_zero]
              refine F_take (v := .int .u8 b.toNat) 5 #[true, true, true, false, true, true, false, false, false, false, false, false, false, false, false, false] rfl (by kernel_rfl) (fun _ _ _ h => h) rfl (fun w hF => e_load 5 (.tmp 42) _ _ rfl (Tryd.isAgg5 _) (qcells hF).2.1) (b4) ?_; simp only [Act.put, List.setIfInBounds_toArray, List.set_cons_succ, List.set_cons_zero]
              refine F_free (v := .pointer (some ⟨B4, 39, none⟩)) 6 #[true, true, true, false, true, true, true, false, false, false, false, false, false, false, false, false] rfl (by kernel_rfl) (fun _ _ _ h => h) rfl (fun _ => e_val _ _ (Tryd.qf2 _ _)) (b4) ?_; simp only [Act.put, List.setIfInBounds_toArray, List.set_cons_succ, List.set_cons_zero]
              refine F_take (v := .int .i64 k) 7 #[true, true, true, false, true, true, true, true, false, false, false, false, false, false, false, false] rfl (by kernel_rfl) (fun _ _ _ h => h) rfl (fun w hF => e_load 3 (.tmp 44) _ _ rfl (Tryd.isAgg3 _) (qcells hF).2.2) (b4) ?_; simp only [Act.put, List.setIfInBounds_toArray, List.set_cons_succ, List.set_cons_zero]
              refine F_two 3 13 #[true, true, true, true, true, true, true, true, false, false, false, false, false, false, false, false] #[true, true, true, false, true, true, true, true, false, false, false, false, false, true, false, false] rfl rfl (by kernel_rfl) ?_ ?_
              case' refine_1 =>
                refine r_call 65 [.tmp 39, .tmp 40, .const (.int .u8 46)] _ [.agg (gv g.w g.h g.c), .int .i64 m, .int .u8 46] (.agg (gvG t)) (fun w' => Gr wd w') Tryd.call65 rfl rfl (HWC.out wd) ?_
                intro wc gc
                have b4 := gc.blk b4
                have own := gc.row own
                have gg := gg.trans gc
                have zc := gc.size
                (try have b9 := gc.blk b9)
                refine ⟨fun _ => b4, ?_⟩
                simp only [Act.put, List.setIfInBounds_toArray, List.set_cons_succ, List.set_cons_zero]
                refine F_free (v := .agg (qv t b k)) 8 #[true, true, true, true, true, true, true, true, true, false, false, false, false, false, false, false] rfl (by kernel_rfl) (fun _ _ _ h => h) rfl (fun _ => e_buildP 53 [(0, .tmp 41), (1, .tmp 43), (2, .tmp 45)] [(0, .agg (gvG t)), (1, .int .u8 b.toNat), (2, .int .i64 k)] _ (Tryd.qbuild _ _ _ _) rfl) (b4) ?_; simp only [Act.put, List.setIfInBounds_toArray, List.set_cons_succ, List.set_cons_zero]
                refine F_two 9 13 #[true, true, true, true, true, true, true, true, true, true, false, false, false, false, false, false] #[true, true, true, true, true, true, true, true, true, false, false, false, false, true, false, false] rfl rfl (by kernel_rfl) ?_ ?_
                case' refine_1 =>
                  refine r_callx 63 [.tmp 46] _ [.agg (qv t b k)] (fun v w' => Gr wc w' ∧ ∃ v2 u2 nx2, v = .tuple #[.agg (slV v2 u2), .bool true] ∧ ISt (wc).heap.size w' v2 S2 nx2 ∧ w'.ownsRow (wc).heap.size 3 1 u2 L2.length (natsV L2)) Tryd.call63 rfl rfl ((HSV.out wc).mono fun e w' h => by obtain ⟨g, v2, u2, nx2, h1, h2, h3⟩ := h; exact ⟨_, h1, g, v2, u2, nx2, rfl, h2, h3⟩) ?_
                  rintro _ ws ⟨gs, v2, u2, nx2, rfl, IS2, own2⟩
                  have b4 := gs.blk b4
                  have own := gs.row own
                  have gg := gg.trans gs
                  have zs := gs.size
                  have row2 := IS2.row
                  (try have b9 := gs.blk b9)
                  refine ⟨fun _ => b4, ?_⟩
                  simp only [Act.put, List.setIfInBounds_toArray, List.set_cons_succ, List.set_cons_zero]
                  refine F_free (v := .tuple #[.agg (slV v2 u2), .bool true]) 10 #[true, true, true, true, true, true, true, true, true, true, true, false, false, false, false, false] rfl (by kernel_rfl) (fun _ _ _ h => h) rfl (fun _ => by first | rfl | (unfold execOp; simp [go_sem, Act.eval])) (b4) ?_; simp only [Act.put, List.setIfInBounds_toArray, List.set_cons_succ, List.set_cons_zero]
                  refine F_free (v := .agg (slV v2 u2)) 11 #[true, true, true, true, true, true, true, true, true, true, true, true, false, false, false, false] rfl (by kernel_rfl) (fun _ _ _ h => h) rfl (fun _ => by first | rfl | (unfold execOp; simp [go_sem, Act.eval])) (b4) ?_; simp only [Act.put, List.setIfInBounds_toArray, List.set_cons_succ, List.set_cons_zero]
                  refine F_free (v := .bool true) 12 #[true, true, true, true, true, true, true, true, true, true, true, true, true, false, false, false] rfl (by kernel_rfl) (fun _ _ _ h => h) rfl (fun _ => by first | rfl | (unfold execOp; simp [go_sem, Act.eval])) (b4) ?_; simp only [Act.put, List.setIfInBounds_toArray, List.set_cons_succ, List.set_cons_zero]
                  refine F_one 13 #[true, true, true, true, true, true, true, true, true, true, true, true, true, true, false, false] rfl (by kernel_rfl) ?_
                  (refine r_alloc 79 _ Tryd.slvzero rfl ?_; intro w9 B9 N9; have g9 := N9.gr; have b9 : Blk w9 B9 (slV (.slice none 0 0) (.slice none 0 0)) 79 := N9.blk; have l9 := N9.lo; have t9 := N9.hi; have z9 := g9.size; have b4 := g9.blk b4; have gg := gg.trans g9; clear N9)
                  have own := g9.row own
                  (try have row2 := g9.row row2)
                  (try have own2 := g9.row own2)
                  refine ⟨fun _ => b4, ?_⟩
                  simp only [Act.put, List.setIfInBounds_toArray, List.set_cons_succ, List.set_cons_zero]
                  refine F_one 14 #[true, true, true, true, true, true, true, true, true, true, true, true, true, true, true, false] rfl (by kernel_rfl) ?_
                  have ov2 := own_one row2
                  have ou2 := own_one own2
                  refine r_store_row 79 79 _ _ _ rfl (slV v2 u2) _ rfl b9 Tryd.slvsize rfl (slV_one ov2 ou2) rfl ?_
                  intro w10 u10 b10
                  have row2 := u10.row row2 (own_ne row2 b9 (by decide))
                  have own2 := u10.row own2 (own_ne own2 b9 (by decide))
                  have own := u10.row own (own_ne own b9 (by decide))
                  have gg := u10.gr gg (by omega)
                  refine ⟨fun h => (by cases h), ?_⟩
                  simp only [Act.put]
                  refine F_one 15 #[true, true, true, true, true, true, true, true, true, true, true, true, true, true, true, true] rfl (by kernel_rfl) ?_
                  refine r_val (.bool true) rfl rfl ?_
                  refine ⟨fun h => (by cases h), ?_⟩
                  simp only [Act.put, List.setIfInBounds_toArray, List.set_cons_succ, List.set_cons_zero]
                  refine F_done (by kernel_rfl) ?_
                  go_wp2
                  have b6 := gg.blk b66
                  have rowS := gg.row row6
                  have ownS := gg.row own6
                  refine q_whole (by kernel_rfl) (by kernel_rfl) ?_
                  refine q_move _ (.bool true) rfl rfl ?_; simp only [Act.put, List.setIfInBounds_toArray, List.set_cons_succ, List.set_cons_zero]
                  refine q_move _ (.bool true) rfl rfl ?_; simp only [Act.put, List.setIfInBounds_toArray, List.set_cons_succ, List.set_cons_zero]
                  refine q_take (.agg (slV v2 u2)) rfl (fun w' hw' => e_load_row 79 (.tmp 9) _ _ _ _ rfl (hw'.blk b10) Tryd.underlying79 rfl Tryd.slvinfo) ?_
                  simp only [Act.put, List.setIfInBounds_toArray, List.set_cons_succ, List.set_cons_zero]
                  refine q_call 54 [.tmp 52] _ [.agg (slV v2 u2)] (.int .i64 (far2 : Int)) Tryd.call54 rfl rfl (fun w' hw' => ((HL2.out w' v2 u2 nx2 _ _ (hw'.row row2) (hw'.row own2)).mono fun e w'' h => ⟨h.1, hw'.trans h.2⟩)) ?_; simp only [Act.put, List.setIfInBounds_toArray, List.set_cons_succ, List.set_cons_zero]
                  refine q_take (.agg (slV v u)) rfl (fun w' hw' => e_load_row 79 (.tmp 6) _ _ _ _ rfl (hw'.blk b6) Tryd.underlying79 rfl Tryd.slvinfo) ?_
                  simp only [Act.put, List.setIfInBounds_toArray, List.set_cons_succ, List.set_cons_zero]
                  refine q_call 54 [.tmp 54] _ [.agg (slV v u)] (.int .i64 (far : Int)) Tryd.call54 rfl rfl (fun w' hw' => ((HL1.out w' v u nx _ _ (hw'.row rowS) (hw'.row ownS)).mono fun e w'' h => ⟨h.1, hw'.trans h.2⟩)) ?_; simp only [Act.put, List.setIfInBounds_toArray, List.set_cons_succ, List.set_cons_zero]
                  by_cases hff : far2 = far
                  · have hdec : decide ((far2 : Int) = (far : Int)) = true := decide_eq_true (by omega)
                    have HS2 := hidI (show intsV L ++ [.int .i64 (m : Int)] = intsV (nwTo g b k far (m + 1)) ∧ L.length + 1 = (nwTo g b k far (m + 1)).length from by
                      rw [HNW.out, HB2.out, if_pos (decide_eq_true hff)]
                      exact ⟨by unfold intsV; simp, by simp⟩)
                    refine q_take (.bool true) rfl (fun w' hw' => e_eqK _ _ _ _ _ rfl rfl hdec) ?_
                    simp only [Act.put, List.setIfInBounds_toArray, List.set_cons_succ, List.set_cons_zero]
                    refine q_take (.bool true) rfl (fun w' hw' => by first | rfl | (unfold execOp; simp [go_sem, Act.eval])) ?_
                    simp only [Act.put, List.setIfInBounds_toArray, List.set_cons_succ, List.set_cons_zero]
                    clear hff hdec
                    refine wpQuiet_nil ?_
                    intro wq gq
                    have gg := gg.trans gq
                    have own := gq.row own
                    have zq := gg.size
                    go_wp2_with (first | (refine r_slice1 41 3 (.tmp 59) (.int .i64 m) rfl (Tryd.bsiZ _ _) rfl ?_; intro we Be Ne; have ge := Ne.gr; have own := ge.row own; have gg := gg.trans ge; have ze := ge.size) | (refine r_append (.tmp 58) (.tmp 60) 41 3 _ 1 8 w6.heap.size Tryd.intsZ (.slice p5 L.length k5) L.length (intsV L) rfl own ⟨Be, 0, none⟩ 1 1 [.int .i64 m] rfl rfl Ne.cell1 (by intro u hu; simp at hu; subst hu; rfl) (by omega) (by decide) (by omega) rfl ?_; intro vf wf ownf gf; have gg := gf.gr gg (own_gr own (Nat.le_refl _))))
                    rw [HS2.out.1, HS2.out.2] at ownf
                    go_roundw
                    case rel => exact ⟨m + 1, by omega, by go_num, ownf, gg⟩
                    case measure => simp [intOf]; omega
                  · have hdec : decide ((far2 : Int) = (far : Int)) = false := decide_eq_false (by omega)
                    have HS2 := hidI (show L = nwTo g b k far (m + 1) from by rw [HNW.out, HB2.out, decide_eq_false hff]; rfl)
                    refine q_take (.bool false) rfl (fun w' hw' => e_eqK _ _ _ _ _ rfl rfl hdec) ?_
                    simp only [Act.put, List.setIfInBounds_toArray, List.set_cons_succ, List.set_cons_zero]
                    refine q_take (.bool false) rfl (fun w' hw' => by first | rfl | (unfold execOp; simp [go_sem, Act.eval])) ?_
                    simp only [Act.put, List.setIfInBounds_toArray, List.set_cons_succ, List.set_cons_zero]
                    clear hff hdec
                    refine wpQuiet_nil ?_
                    intro wq gq
                    have gg := gg.trans gq
                    have own := gq.row own
                    go_wp2
                    go_roundw
                    case rel => exact ⟨m + 1, by omega, by go_num, by rw [← HS2.out]; exact own, gg⟩
                    case measure => simp [intOf]; omega
                case' refine_2 =>
                  (refine r_alloc 79 _ Tryd.slvzero rfl ?_; intro w9 B9 N9; have g9 := N9.gr; have b9 : Blk w9 B9 (slV (.slice none 0 0) (.slice none 0 0)) 79 := N9.blk; have l9 := N9.lo; have t9 := N9.hi; have z9 := g9.size; have b4 := g9.blk b4; have gg := gg.trans g9; clear N9)
                  have own := g9.row own
                  (try have row2 := g9.row row2)
                  (try have own2 := g9.row own2)
                  refine ⟨fun _ => b4, ?_⟩
                  simp only [Act.put, List.setIfInBounds_toArray, List.set_cons_succ, List.set_cons_zero]
                  refine F_one 9 #[true, true, true, true, true, true, true, true, true, true, false, false, false, true, false, false] rfl (by kernel_rfl) ?_
                  refine r_callx 63 [.tmp 46] _ [.agg (qv t b k)] (fun v w' => Gr w9 w' ∧ ∃ v2 u2 nx2, v = .tuple #[.agg (slV v2 u2), .bool true] ∧ ISt (w9).heap.size w' v2 S2 nx2 ∧ w'.ownsRow (w9).heap.size 3 1 u2 L2.length (natsV L2)) Tryd.call63 rfl rfl ((HSV.out w9).mono fun e w' h => by obtain ⟨g, v2, u2, nx2, h1, h2, h3⟩ := h; exact ⟨_, h1, g, v2, u2, nx2, rfl, h2, h3⟩) ?_
                  rintro _ ws ⟨gs, v2, u2, nx2, rfl, IS2, own2⟩
                  have b4 := gs.blk b4
                  have own := gs.row own
                  have gg := gg.trans gs
                  have zs := gs.size
                  have row2 := IS2.row
                  (try have b9 := gs.blk b9)
                  refine ⟨fun _ => b4, ?_⟩
                  simp only [Act.put, List.setIfInBounds_toArray, List.set_cons_succ, List.set_cons_zero]
                  refine F_free (v := .tuple #[.agg (slV v2 u2), .bool true]) 10 #[true, true, true, true, true, true, true, true, true, true, true, false, false, true, false, false] rfl (by kernel_rfl) (fun _ _ _ h => h) rfl (fun _ => by first | rfl | (unfold execOp; simp [go_sem, Act.eval])) (b4) ?_; simp only [Act.put, List.setIfInBounds_toArray, List.set_cons_succ, List.set_cons_zero]
                  refine F_free (v := .agg (slV v2 u2)) 11 #[true, true, true, true, true, true, true, true, true, true, true, true, false, true, false, false] rfl (by kernel_rfl) (fun _ _ _ h => h) rfl (fun _ => by first | rfl | (unfold execOp; simp [go_sem, Act.eval])) (b4) ?_; simp only [Act.put, List.setIfInBounds_toArray, List.set_cons_succ, List.set_cons_zero]
                  refine F_free (v := .bool true) 12 #[true, true, true, true, true, true, true, true, true, true, true, true, true, true, false, false] rfl (by kernel_rfl) (fun _ _ _ h => h) rfl (fun _ => by first | rfl | (unfold execOp; simp [go_sem, Act.eval])) (b4) ?_; simp only [Act.put, List.setIfInBounds_toArray, List.set_cons_succ, List.set_cons_zero]
                  refine F_one 14 #[true, true, true, true, true, true, true, true, true, true, true, true, true, true, true, false] rfl (by kernel_rfl) ?_
                  have ov2 := own_one row2
                  have ou2 := own_one own2
                  refine r_store_row 79 79 _ _ _ rfl (slV v2 u2) _ rfl b9 Tryd.slvsize rfl (slV_one ov2 ou2) rfl ?_
                  intro w10 u10 b10
                  have row2 := u10.row row2 (own_ne row2 b9 (by decide))
                  have own2 := u10.row own2 (own_ne own2 b9 (by decide))
                  have own := u10.row own (own_ne own b9 (by decide))
                  have gg := u10.gr gg (by omega)
                  refine ⟨fun h => (by cases h), ?_⟩
                  simp only [Act.put]
                  refine F_one 15 #[true, true, true, true, true, true, true, true, true, true, true, true, true, true, true, true] rfl (by kernel_rfl) ?_
                  refine r_val (.bool true) rfl rfl ?_
                  refine ⟨fun h => (by cases h), ?_⟩
                  simp only [Act.put, List.setIfInBounds_toArray, List.set_cons_succ, List.set_cons_zero]
                  refine F_done (by kernel_rfl) ?_
                  go_wp2
                  have b6 := gg.blk b66
                  have rowS := gg.row row6
                  have ownS := gg.row own6
                  refine q_whole (by kernel_rfl) (by kernel_rfl) ?_
                  refine q_move _ (.bool true) rfl rfl ?_; simp only [Act.put, List.setIfInBounds_toArray, List.set_cons_succ, List.set_cons_zero]
                  refine q_move _ (.bool true) rfl rfl ?_; simp only [Act.put, List.setIfInBounds_toArray, List.set_cons_succ, List.set_cons_zero]
                  refine q_take (.agg (slV v2 u2)) rfl (fun w' hw' => e_load_row 79 (.tmp 9) _ _ _ _ rfl (hw'.blk b10) Tryd.underlying79 rfl Tryd.slvinfo) ?_
                  simp only [Act.put, List.setIfInBounds_toArray, List.set_cons_succ, List.set_cons_zero]
                  refine q_call 54 [.tmp 52] _ [.agg (slV v2 u2)] (.int .i64 (far2 : Int)) Tryd.call54 rfl rfl (fun w' hw' => ((HL2.out w' v2 u2 nx2 _ _ (hw'.row row2) (hw'.row own2)).mono fun e w'' h => ⟨h.1, hw'.trans h.2⟩)) ?_; simp only [Act.put, List.setIfInBounds_toArray, List.set_cons_succ, List.set_cons_zero]
                  refine q_take (.agg (slV v u)) rfl (fun w' hw' => e_load_row 79 (.tmp 6) _ _ _ _ rfl (hw'.blk b6) Tryd.underlying79 rfl Tryd.slvinfo) ?_
                  simp only [Act.put, List.setIfInBounds_toArray, List.set_cons_succ, List.set_cons_zero]
                  refine q_call 54 [.tmp 54] _ [.agg (slV v u)] (.int .i64 (far : Int)) Tryd.call54 rfl rfl (fun w' hw' => ((HL1.out w' v u nx _ _ (hw'.row rowS) (hw'.row ownS)).mono fun e w'' h => ⟨h.1, hw'.trans h.2⟩)) ?_; simp only [Act.put, List.setIfInBounds_toArray, List.set_cons_succ, List.set_cons_zero]
                  by_cases hff : far2 = far
                  · have hdec : decide ((far2 : Int) = (far : Int)) = true := decide_eq_true (by omega)
                    have HS2 := hidI (show intsV L ++ [.int .i64 (m : Int)] = intsV (nwTo g b k far (m + 1)) ∧ L.length + 1 = (nwTo g b k far (m + 1)).length from by
                      rw [HNW.out, HB2.out, if_pos (decide_eq_true hff)]
                      exact ⟨by unfold intsV; simp, by simp⟩)
                    refine q_take (.bool true) rfl (fun w' hw' => e_eqK _ _ _ _ _ rfl rfl hdec) ?_
                    simp only [Act.put, List.setIfInBounds_toArray, List.set_cons_succ, List.set_cons_zero]
                    refine q_take (.bool true) rfl (fun w' hw' => by first | rfl | (unfold execOp; simp [go_sem, Act.eval])) ?_
                    simp only [Act.put, List.setIfInBounds_toArray, List.set_cons_succ, List.set_cons_zero]
                    clear hff hdec
                    refine wpQuiet_nil ?_
                    intro wq gq
                    have gg := gg.trans gq
                    have own := gq.row own
                    have zq := gg.size
                    go_wp2_with (first | (refine r_slice1 41 3 (.tmp 59) (.int .i64 m) rfl (Tryd.bsiZ _ _) rfl ?_; intro we Be Ne; have ge := Ne.gr; have own := ge.row own; have gg := gg.trans ge; have ze := ge.size) | (refine r_append (.tmp 58) (.tmp 60) 41 3 _ 1 8 w6.heap.size Tryd.intsZ (.slice p5 L.length k5) L.length (intsV L) rfl own ⟨Be, 0, none⟩ 1 1 [.int .i64 m] rfl rfl Ne.cell1 (by intro u hu; simp at hu; subst hu; rfl) (by omega) (by decide) (by omega) rfl ?_; intro vf wf ownf gf; have gg := gf.gr gg (own_gr own (Nat.le_refl _))))
                    rw [HS2.out.1, HS2.out.2] at ownf
                    go_roundw
                    case rel => exact ⟨m + 1, by omega, by go_num, ownf, gg⟩
                    case measure => simp [intOf]; omega
                  · have hdec : decide ((far2 : Int) = (far : Int)) = false := decide_eq_false (by omega)
                    have HS2 := hidI (show L = nwTo g b k far (m + 1) from by rw [HNW.out, HB2.out, decide_eq_false hff]; rfl)
                    refine q_take (.bool false) rfl (fun w' hw' => e_eqK _ _ _ _ _ rfl rfl hdec) ?_
                    simp only [Act.put, List.setIfInBounds_toArray, List.set_cons_succ, List.set_cons_zero]
                    refine q_take (.bool false) rfl (fun w' hw' => by first | rfl | (unfold execOp; simp [go_sem, Act.eval])) ?_
                    simp only [Act.put, List.setIfInBounds_toArray, List.set_cons_succ, List.set_cons_zero]
                    clear hff hdec
                    refine wpQuiet_nil ?_
                    intro wq gq
                    have gg := gg.trans gq
                    have own := gq.row own
                    go_wp2
                    go_roundw
                    case rel => exact ⟨m + 1, by omega, by go_num, by rw [← HS2.out]; exact own, gg⟩
                    case measure => simp [intOf]; omega
              case' refine_2 =>
                (refine r_alloc 79 _ Tryd.slvzero rfl ?_; intro w9 B9 N9; have g9 := N9.gr; have b9 : Blk w9 B9 (slV (.slice none 0 0) (.slice none 0 0)) 79 := N9.blk; have l9 := N9.lo; have t9 := N9.hi; have z9 := g9.size; have b4 := g9.blk b4; have gg := gg.trans g9; clear N9)
                have own := g9.row own
                (try have row2 := g9.row row2)
                (try have own2 := g9.row own2)
                refine ⟨fun _ => b4, ?_⟩
                simp only [Act.put, List.setIfInBounds_toArray, List.set_cons_succ, List.set_cons_zero]
                refine F_one 3 #[true, true, true, true, true, true, true, true, false, false, false, false, false, true, false, false] rfl (by kernel_rfl) ?_
                refine r_call 65 [.tmp 39, .tmp 40, .const (.int .u8 46)] _ [.agg (gv g.w g.h g.c), .int .i64 m, .int .u8 46] (.agg (gvG t)) (fun w' => Gr w9 w') Tryd.call65 rfl rfl (HWC.out w9) ?_
                intro wc gc
                have b4 := gc.blk b4
                have own := gc.row own
                have gg := gg.trans gc
                have zc := gc.size
                (try have b9 := gc.blk b9)
                refine ⟨fun _ => b4, ?_⟩
                simp only [Act.put, List.setIfInBounds_toArray, List.set_cons_succ, List.set_cons_zero]
                refine F_free (v := .agg (qv t b k)) 8 #[true, true, true, true, true, true, true, true, true, false, false, false, false, true, false, false] rfl (by kernel_rfl) (fun _ _ _ h => h) rfl (fun _ => e_buildP 53 [(0, .tmp 41), (1, .tmp 43), (2, .tmp 45)] [(0, .agg (gvG t)), (1, .int .u8 b.toNat), (2, .int .i64 k)] _ (Tryd.qbuild _ _ _ _) rfl) (b4) ?_; simp only [Act.put, List.setIfInBounds_toArray, List.set_cons_succ, List.set_cons_zero]
                refine F_one 9 #[true, true, true, true, true, true, true, true, true, true, false, false, false, true, false, false] rfl (by kernel_rfl) ?_
                refine r_callx 63 [.tmp 46] _ [.agg (qv t b k)] (fun v w' => Gr wc w' ∧ ∃ v2 u2 nx2, v = .tuple #[.agg (slV v2 u2), .bool true] ∧ ISt (wc).heap.size w' v2 S2 nx2 ∧ w'.ownsRow (wc).heap.size 3 1 u2 L2.length (natsV L2)) Tryd.call63 rfl rfl ((HSV.out wc).mono fun e w' h => by obtain ⟨g, v2, u2, nx2, h1, h2, h3⟩ := h; exact ⟨_, h1, g, v2, u2, nx2, rfl, h2, h3⟩) ?_
                rintro _ ws ⟨gs, v2, u2, nx2, rfl, IS2, own2⟩
                have b4 := gs.blk b4
                have own := gs.row own
                have gg := gg.trans gs
                have zs := gs.size
                have row2 := IS2.row
                (try have b9 := gs.blk b9)
                refine ⟨fun _ => b4, ?_⟩
                simp only [Act.put, List.setIfInBounds_toArray, List.set_cons_succ, List.set_cons_zero]
                refine F_free (v := .tuple #[.agg (slV v2 u2), .bool true]) 10 #[true, true, true, true, true, true, true, true, true, true, true, false, false, true, false, false] rfl (by kernel_rfl) (fun _ _ _ h => h) rfl (fun _ => by first | rfl | (unfold execOp; simp [go_sem, Act.eval])) (b4) ?_; simp only [Act.put, List.setIfInBounds_toArray, List.set_cons_succ, List.set_cons_zero]
                refine F_free (v := .agg (slV v2 u2)) 11 #[true, true, true, true, true, true, true, true, true, true, true, true, false, true, false, false] rfl (by kernel_rfl) (fun _ _ _ h => h) rfl (fun _ => by first | rfl | (unfold execOp; simp [go_sem, Act.eval])) (b4) ?_; simp only [Act.put, List.setIfInBounds_toArray, List.set_cons_succ, List.set_cons_zero]
                refine F_free (v := .bool true) 12 #[true, true, true, true, true, true, true, true, true, true, true, true, true, true, false, false] rfl (by kernel_rfl) (fun _ _ _ h => h) rfl (fun _ => by first | rfl | (unfold execOp; simp [go_sem, Act.eval])) (b4) ?_; simp only [Act.put, List.setIfInBounds_toArray, List.set_cons_succ, List.set_cons_zero]
                refine F_one 14 #[true, true, true, true, true, true, true, true, true, true, true, true, true, true, true, false] rfl (by kernel_rfl) ?_
                have ov2 := own_one row2
                have ou2 := own_one own2
                refine r_store_row 79 79 _ _ _ rfl (slV v2 u2) _ rfl b9 Tryd.slvsize rfl (slV_one ov2 ou2) rfl ?_
                intro w10 u10 b10
                have row2 := u10.row row2 (own_ne row2 b9 (by decide))
                have own2 := u10.row own2 (own_ne own2 b9 (by decide))
                have own := u10.row own (own_ne own b9 (by decide))
                have gg := u10.gr gg (by omega)
                refine ⟨fun h => (by cases h), ?_⟩
                simp only [Act.put]
                refine F_one 15 #[true, true, true, true, true, true, true, true, true, true, true, true, true, true, true, true] rfl (by kernel_rfl) ?_
                refine r_val (.bool true) rfl rfl ?_
                refine ⟨fun h => (by cases h), ?_⟩
                simp only [Act.put, List.setIfInBounds_toArray, List.set_cons_succ, List.set_cons_zero]
                refine F_done (by kernel_rfl) ?_
                go_wp2
                have b6 := gg.blk b66
                have rowS := gg.row row6
                have ownS := gg.row own6
                refine q_whole (by kernel_rfl) (by kernel_rfl) ?_
                refine q_move _ (.bool true) rfl rfl ?_; simp only [Act.put, List.setIfInBounds_toArray, List.set_cons_succ, List.set_cons_zero]
                refine q_move _ (.bool true) rfl rfl ?_; simp only [Act.put, List.setIfInBounds_toArray, List.set_cons_succ, List.set_cons_zero]
                refine q_take (.agg (slV v2 u2)) rfl (fun w' hw' => e_load_row 79 (.tmp 9) _ _ _ _ rfl (hw'.blk b10) Tryd.underlying79 rfl Tryd.slvinfo) ?_
                simp only [Act.put, List.setIfInBounds_toArray, List.set_cons_succ, List.set_cons_zero]
                refine q_call 54 [.tmp 52] _ [.agg (slV v2 u2)] (.int .i64 (far2 : Int)) Tryd.call54 rfl rfl (fun w' hw' => ((HL2.out w' v2 u2 nx2 _ _ (hw'.row row2) (hw'.row own2)).mono fun e w'' h => ⟨h.1, hw'.trans h.2⟩)) ?_; simp only [Act.put, List.setIfInBounds_toArray, List.set_cons_succ, List.set_cons_zero]
                refine q_take (.agg (slV v u)) rfl (fun w' hw' => e_load_row 79 (.tmp 6) _ _ _ _ rfl (hw'.blk b6) Tryd.underlying79 rfl Tryd.slvinfo) ?_
                simp only [Act.put, List.setIfInBounds_toArray, List.set_cons_succ, List.set_cons_zero]
                refine q_call 54 [.tmp 54] _ [.agg (slV v u)] (.int .i64 (far : Int)) Tryd.call54 rfl rfl (fun w' hw' => ((HL1.out w' v u nx _ _ (hw'.row rowS) (hw'.row ownS)).mono fun e w'' h => ⟨h.1, hw'.trans h.2⟩)) ?_; simp only [Act.put, List.setIfInBounds_toArray, List.set_cons_succ, List.set_cons_zero]
                by_cases hff : far2 = far
                · have hdec : decide ((far2 : Int) = (far : Int)) = true := decide_eq_true (by omega)
                  have HS2 := hidI (show intsV L ++ [.int .i64 (m : Int)] = intsV (nwTo g b k far (m + 1)) ∧ L.length + 1 = (nwTo g b k far (m + 1)).length from by
                    rw [HNW.out, HB2.out, if_pos (decide_eq_true hff)]
                    exact ⟨by unfold intsV; simp, by simp⟩)
                  refine q_take (.bool true) rfl (fun w' hw' => e_eqK _ _ _ _ _ rfl rfl hdec) ?_
                  simp only [Act.put, List.setIfInBounds_toArray, List.set_cons_succ, List.set_cons_zero]
                  refine q_take (.bool true) rfl (fun w' hw' => by first | rfl | (unfold execOp; simp [go_sem, Act.eval])) ?_
                  simp only [Act.put, List.setIfInBounds_toArray, List.set_cons_succ, List.set_cons_zero]
                  clear hff hdec
                  refine wpQuiet_nil ?_
                  intro wq gq
                  have gg := gg.trans gq
                  have own := gq.row own
                  have zq := gg.size
                  go_wp2_with (first | (refine r_slice1 41 3 (.tmp 59) (.int .i64 m) rfl (Tryd.bsiZ _ _) rfl ?_; intro we Be Ne; have ge := Ne.gr; have own := ge.row own; have gg := gg.trans ge; have ze := ge.size) | (refine r_append (.tmp 58) (.tmp 60) 41 3 _ 1 8 w6.heap.size Tryd.intsZ (.slice p5 L.length k5) L.length (intsV L) rfl own ⟨Be, 0, none⟩ 1 1 [.int .i64 m] rfl rfl Ne.cell1 (by intro u hu; simp at hu; subst hu; rfl) (by omega) (by decide) (by omega) rfl ?_; intro vf wf ownf gf; have gg := gf.gr gg (own_gr own (Nat.le_refl _))))
                  rw [HS2.out.1, HS2.out.2] at ownf
                  go_roundw
                  case rel => exact ⟨m + 1, by omega, by go_num, ownf, gg⟩
                  case measure => simp [intOf]; omega
                · have hdec : decide ((far2 : Int) = (far : Int)) = false := decide_eq_false (by omega)
                  have HS2 := hidI (show L = nwTo g b k far (m + 1) from by rw [HNW.out, HB2.out, decide_eq_false hff]; rfl)
                  refine q_take (.bool false) rfl (fun w' hw' => e_eqK _ _ _ _ _ rfl rfl hdec) ?_
                  simp only [Act.put, List.setIfInBounds_toArray, List.set_cons_succ, List.set_cons_zero]
                  refine q_take (.bool false) rfl (fun w' hw' => by first | rfl | (unfold execOp; simp [go_sem, Act.eval])) ?_
                  simp only [Act.put, List.setIfInBounds_toArray, List.set_cons_succ, List.set_cons_zero]
                  clear hff hdec
                  refine wpQuiet_nil ?_
                  intro wq gq
                  have gg := gg.trans gq
                  have own := gq.row own
                  go_wp2
                  go_roundw
                  case rel => exact ⟨m + 1, by omega, by go_num, by rw [← HS2.out]; exact own, gg⟩
                  case measure => simp [intOf]; omega
          · have e1 : (((at0 g.c m).toNat : Int) == 35) = false := by
              rw [beq_eq_false_iff_ne]
              intro e
              exact hw (UInt8.toNat_inj.1 (by have h35 : (35 : UInt8).toNat = 35 := rfl; omega))
            have HS2 := hidI (show L = nwTo g b k far (m + 1) from by rw [HNW.out, nwB_no hw]; rfl)
            clear hw
            go_wp2_with (first | (refine r_fld 53 _ 0 (.pointer (some ⟨B4, 0, none⟩)) (.pointer (some ⟨B4, 0, none⟩)) rfl (Tryd.qf0 B4 _) rfl ?_) | (refine r_fld 51 _ 2 (.pointer (some ⟨B4, 0, none⟩)) (.pointer (some ⟨B4, 2, none⟩)) rfl (Tryd.gf2 B4 _) rfl ?_) | (refine r_idx 49 _ _ (.pointer (some ⟨B4, 2, none⟩)) (.int .i64 m) _ rfl rfl (Tryd.gix B4 m hm36 _) rfl ?_))
            go_roundw
            case rel => exact ⟨m + 1, by omega, by go_num, by rw [← HS2.out]; exact own, gg⟩
            case measure => simp [intOf]; omega
        · obtain rfl : m = g.c.length := by omega
          clear hlt
          go_wp2
          go_ret2
          exact ⟨gg6.trans gg, _, fin_vW HV.out.2.symm, by rw [HV.out.1]; exact own_up own zz6⟩
end Go.Proofs.YtamdmhclhjkogaaDoor
namespace Go.Proofs.YtamdmhclhjkogaaDoor
open Go.RowKit
theorem cellsV_setY (c : List UInt8) (i : Nat) (b : UInt8) : (cellsV c).set i (byteV b) = cellsV (c.set i b) := by unfold cellsV; rw [List.map_set]
set_option maxHeartbeats 8000000 in
set_option maxRecDepth 100000 in
theorem sNeedlessWalls (s n : ByteArray) (z : Int) (w : World) (hs : s.size ≤ 1048576) : Calls Tryd.prog 30 #[.agg (pv s n z)] w (RetW 3 (nwL s.data.toList n z) (lnOk s.data.toList n z) w) := by
  have gg := Gr.refl w
  have HA := fun w => puStates_any s n z w hs
  unfold RetPu at HA
  cases hR : slvS s.data.toList n z with
  | none =>
    have HV := hidI (show nwL s.data.toList n z = [] ∧ lnOk s.data.toList n z = false from by
      cases hp : pzS s.data.toList n z with
      | none => exact nwL_n1 hp
      | some x =>
        obtain ⟨g, b, k⟩ := x
        cases hs2 : slvG g b k with
        | none => exact nwL_n2 hp hs2
        | some y => obtain ⟨S, j⟩ := y; rw [slvS_of hp hs2] at hR; cases hR)
    rw [hR] at HA
    clear hR
    go_enter Tryd.func30, Tryd.ntmps30
    go_wp2_with (first | (refine r_box 26 _ (pv (s) (n) (z)) rfl rfl ?_; intro w1 B1 N1; have g1 := N1.gr; have b1 : Blk w1 B1 (pv (s) (n) (z)) 26 := N1.blk; have l1 := N1.lo; have t1 := N1.hi; have z1 := g1.size; have gg := gg.trans g1; clear N1; obtain ⟨b1_0, b1_1, b1_2⟩ := pcells b1) | (refine r_load_row 26 _ _ rfl _ _ _ b1 Tryd.underlying26 rfl Tryd.ipinfo rfl ?_) | (go_at_call 52; refine (HA _).mono ?_; rintro e w2 ⟨g2, v, f, rfl⟩; have gg := gg.trans g2))
    go_ret2
    exact ⟨gg, _, fin_vW HV.out.2.symm, by rw [HV.out.1]; exact World.ownsRow_nil _ _ _ _⟩
  | some x =>
    obtain ⟨S, b, k, j⟩ := x
    rw [hR] at HA
    dsimp only at HA
    obtain ⟨g, hp, hs2⟩ := slvS_some hR
    have HV := hidI (nwL_y hp hs2)
    obtain ⟨far, hfar⟩ : ∃ far, far = (sta S j).far := ⟨_, rfl⟩
    rw [← hfar] at HV HA
    have hz := pz_some hp
    obtain ⟨hc, hw1, hh1, hl⟩ := pz_tray hz
    have w7 := hc.w7
    have h7 := hc.h7
    have n36 := hc.n36
    have hlen := hc.len
    have hl36 : g.c.length ≤ 36 := by omega
    obtain rfl : z = k := hz.ze
    obtain rfl : n = ⟨#[b]⟩ := hz.n1
    have HPP := hidI hz.pr
    have HZ := hidI hz
    have HLEN := hidI hlen
    clear hR hp hs2 hfar hz hc hlen
    go_enter Tryd.func30, Tryd.ntmps30
    go_wp2_with (first | (refine r_box 26 _ (pv (s) (⟨#[b]⟩) (k)) rfl rfl ?_; intro w1 B1 N1; have g1 := N1.gr; have b1 : Blk w1 B1 (pv (s) (⟨#[b]⟩) (k)) 26 := N1.blk; have l1 := N1.lo; have t1 := N1.hi; have z1 := g1.size; have gg := gg.trans g1; clear N1; obtain ⟨b1_0, b1_1, b1_2⟩ := pcells b1) | (refine r_load_row 26 _ _ rfl _ _ _ b1 Tryd.underlying26 rfl Tryd.ipinfo rfl ?_) | (go_at_call 52; refine (HA _).mono ?_; rintro e w2 ⟨g2, v, bk, sl, nx, rfl, -, -⟩; have z2 := g2.size; have gg := gg.trans g2; have b1 := g2.blk b1; obtain ⟨b1_0, b1_1, b1_2⟩ := pcells b1))
    refine (tyRead_any s _ hs).mono ?_
    rintro e w4 ⟨g4, ⟨hp', rfl⟩ | ⟨g', sl4, hp', rfl, hown⟩⟩
    · exact absurd (HPP.out.symm.trans hp') (by simp)
    · obtain rfl : g = g' := Option.some.inj (HPP.out.symm.trans hp')
      clear hp'
      have b1 := g4.blk b1
      have z4 := g4.size
      have gg := gg.trans g4
      have hone := own_one hown
      obtain ⟨G, cap, rfl, hG, hcap⟩ := own_shape hown hl
      go_upto_region 6 with (first | (refine r_alloc (dst := some 7) 58 _ Tryd.tzero rfl ?_; intro w70 B70 N70; have g70 := N70.gr; have b70 : Blk w70 B70 (tg 0 0 (.slice none 0 0)) 58 := N70.blk; have l70 := N70.lo; have t70 := N70.hi; have z70 := g70.size; have b1 := g70.blk b1; have gg := gg.trans g70; clear N70; obtain ⟨b70_0, b70_1, b70_2⟩ := tcells b70) | (refine r_store_row 58 58 _ _ _ rfl (tg _ _ _) _ rfl b70 Tryd.tsize rfl (tg_one hone) rfl ?_; intro w71 u71 b70'; have z71 := u71.size; have gg := u71.gr gg (by omega); have b1 := u71.blk b1 (by omega); clear b70; have b70 := b70'; clear b70'; obtain ⟨b70_0, b70_1, b70_2⟩ := tcells b70))
      have ownG6 := u71.row (g70.row hown) (own_new hown l70)
      have b16 := b1
      have b706 := b70
      have gg6 := gg
      have zz6 := gg.size
      clear gg b1 hown
      generalize w71 = w6 at *
      have own0 : w6.ownsRow w6.heap.size 3 1 (.slice none 0 0) (nwTo g b k far 0).length (intsV (nwTo g b k far 0)) := World.ownsRow_nil _ _ _ _
      go_wp2
      go_loopw [9, 33] (fun ov iv wr => ∃ m : Nat, m ≤ g.c.length ∧ iv = .int .i64 m ∧ wr.ownsRow w6.heap.size 3 1 ov (nwTo g b k far m).length (intsV (nwTo g b k far m)) ∧ Gr w6 wr) (fun _ iv _ => g.c.length - (intOf iv).toNat)
      case atStart => exact ⟨0, Nat.zero_le _, rfl, own0, Gr.refl _⟩
      case round =>
        clear own0
        obtain ⟨m, hm, rfl, own, gg⟩ := hrel
        have b70 := gg.blk b706
        have ownG := gg.row ownG6
        have zr := gg.size
        by_cases hlt : m < g.c.length
        · have HNW := hidI (nwTo_succ g b k far m)
          have hnl := nwTo_le g b k far m
          obtain ⟨L, hL⟩ : ∃ L, L = nwTo g b k far m := ⟨_, rfl⟩
          rw [← hL] at own HNW hnl
          obtain ⟨p5, n5, k5, rfl⟩ := own_slice own
          obtain rfl : n5 = L.length := own_len own
          have hck := own_cell ownG m hlt rfl
          have hix := fun w => Tryd.six0 G g.c.length cap m hlt w
          clear hL
          by_cases hw : at0 g.c m = 35
          · have e1 : (((at0 g.c m).toNat : Int) == 35) = true := by rw [hw]; rfl
            have hop := op_pz HZ.out hlt hw
            have HTT := hidI (fun (w' : World) (base : Nat) (sl : Value) (own : w'.ownsRow base 5 1 sl g.c.length (cellsV (opG g m).c)) => show Calls Tryd.prog 42 #[.agg (tg g.w g.h sl)] w' (Ret (.string (txtB g.w g.h (opG g m).c)) w') from tyText_n g.w g.h _ _ (opG g m).c _ w' hw1 hh1 w7 h7 n36 (by rw [op_len]; exact HLEN.out) rfl (by rw [op_len]; exact own))
            have hj := join_len g.w (opG g m).c g.h w7 h7
            have HPU := fun w' => puStates_any (txtB g.w g.h (opG g m).c) ⟨#[b]⟩ k w' (by
              have e : (txtB g.w g.h (opG g m).c).size = (txtL g.w (opG g m).c g.h).length := by unfold txtB; exact List.size_toArray
              omega)
            rw [show (txtB g.w g.h (opG g m).c).data.toList = txtL g.w (opG g m).c g.h from by unfold txtB; simp] at HPU
            unfold RetPu at HPU
            have HSC := hidI (show (cellsV g.c).set m (byteV 46) = cellsV (opG g m).c from cellsV_setY _ _ _)
            obtain ⟨tx, htx⟩ : ∃ tx, tx = txtB g.w g.h (opG g m).c := ⟨_, rfl⟩
            rw [← htx] at HTT HPU
            cases hs2 : slvG (opG g m) b k with
            | none =>
              rw [slvS_none hop hs2] at HPU
              dsimp only at HPU
              have HS2 := hidI (show L = nwTo g b k far (m + 1) from by rw [HNW.out, nwB_none hs2]; rfl)
              clear hs2 hop hw htx hj
              go_upto_region 10 with fail
              go_step
              (refine r_load_row 58 _ _ rfl _ _ _ b70 Tryd.underlying58 rfl Tryd.tinfo rfl ?_)
              simp only [Act.put, List.setIfInBounds_toArray, List.set_cons_succ, List.set_cons_zero]
              refine r_callx 62 [.tmp 40] _ [.agg (tg g.w g.h (.slice (some ⟨G, 0, none⟩) g.c.length cap))] (fun v w' => Gr wr w' ∧ ∃ sl, v = .agg (tg g.w g.h sl) ∧ w'.ownsRow wr.heap.size 5 1 sl g.c.length (cellsV g.c)) Tryd.call62 rfl rfl ((tyCopy_any g.w g.h _ g.c G cap wr hl36 ownG).mono fun e w' h => by obtain ⟨gq, sl, h1, h2⟩ := h; exact ⟨_, h1, gq, sl, rfl, h2⟩) ?_
              rintro _ wc ⟨gc, sl2, rfl, own2⟩
              obtain ⟨G2, cap2, rfl, lG2, -⟩ := own_shape own2 hl
              have hone2 := own_one own2
              have own := gc.row own
              have gg := gg.trans gc
              have zc := gc.size
              simp only [Act.put, List.setIfInBounds_toArray, List.set_cons_succ, List.set_cons_zero]
              (refine r_alloc (dst := some 12) 58 _ Tryd.tzero rfl ?_; intro w80 B80 N80; have g80 := N80.gr; have b80 : Blk w80 B80 (tg 0 0 (.slice none 0 0)) 58 := N80.blk; have l80 := N80.lo; have t80 := N80.hi; have z80 := g80.size; have gg := gg.trans g80; clear N80; obtain ⟨b80_0, b80_1, b80_2⟩ := tcells b80)
              simp only [Act.put, List.setIfInBounds_toArray, List.set_cons_succ, List.set_cons_zero]
              (refine r_store_row 58 58 _ _ _ rfl (tg _ _ _) _ rfl b80 Tryd.tsize rfl (tg_one hone2) rfl ?_; intro w81 u81 b80'; have z81 := u81.size; have gg := u81.gr gg (by omega); clear b80; have b80 := b80'; clear b80'; obtain ⟨b80_0, b80_1, b80_2⟩ := tcells b80)
              simp only [Act.put]
              go_upto_region 11 with fail
              have own2 := u81.row (g80.row own2) (own_new own2 l80)
              have own := u81.row (g80.row own) (own_new own l80)
              have lG2' : w6.heap.size ≤ G2 := by omega
              have hne : B80 ≠ G2 := fun e => own_ne own2 b80 (by decide) (by rw [e]; rfl)
              have hix2 := fun w => Tryd.six0 G2 g.c.length cap2 m hlt w
              go_step
              refine r_fld 58 _ 2 (.pointer (some ⟨B80, 0, none⟩)) (.pointer (some ⟨B80, 2, none⟩)) rfl (Tryd.tf2 _ _) rfl ?_
              simp only [Act.put, List.setIfInBounds_toArray, List.set_cons_succ, List.set_cons_zero]
              refine r_ldc 56 _ ⟨B80, 2, none⟩ (.slice (some ⟨G2, 0, none⟩) g.c.length cap2) rfl (Tryd.isAgg56 _) (tcells b80).2.2 rfl ?_
              simp only [Act.put, List.setIfInBounds_toArray, List.set_cons_succ, List.set_cons_zero]
              refine r_val (.int .i64 m) rfl rfl ?_
              simp only [Act.put, List.setIfInBounds_toArray, List.set_cons_succ, List.set_cons_zero]
              refine r_idx 56 _ _ (.slice (some ⟨G2, 0, none⟩) g.c.length cap2) (.int .i64 m) _ rfl rfl (hix2 _) rfl ?_
              simp only [Act.put, List.setIfInBounds_toArray, List.set_cons_succ, List.set_cons_zero]
              refine r_store_own 5 5 _ _ G2 m g.c.length cap2 wr.heap.size _ rfl (byteV 46) rfl own2 hlt Tryd.sizeOf5 rfl rfl ?_
              intro w82 u82 own3
              rw [HSC.out] at own3
              have b80 := u82.blk b80 hne
              have own := u82.row own (own_neS own own2 (by decide))
              have gg := u82.gr gg lG2'
              simp only [Act.put]
              go_upto_region 12 with fail
              refine F_begin (fun w => (Blk w B80 (tg g.w g.h (.slice (some ⟨G2, 0, none⟩) g.c.length cap2)) 58 ∧ Blk w B1 (pv s ⟨#[b]⟩ k) 26)) 12 15 #[false, false, false, false, false, false, false, false, false, false, false, false, false, false, false] rfl (by kernel_rfl) (by kernel_rfl) ?_
              have gd := (Gr.refl w82).drew
              have b80 := gd.blk b80
              have own := gd.row own
              have own3 := gd.row own3
              have gg := gg.trans gd
              have zd := gd.size
              generalize w82.drew = wd at *
              have hF0 := And.intro b80 (gg.blk b16)
              refine F_take (v := .agg (tg g.w g.h (.slice (some ⟨G2, 0, none⟩) g.c.length cap2))) 0 #[true, false, false, false, false, false, false, false, false, false, false, false, false, false, false] rfl (by kernel_rfl) (fun _ _ _ h => h) rfl (fun w hF => e_load_row 58 (.tmp 12) _ _ _ _ rfl hF.1 Tryd.underlying58 rfl Tryd.tinfo) (hF0) ?_; simp only [Act.put, List.setIfInBounds_toArray, List.set_cons_succ, List.set_cons_zero]
              refine F_free (v := .pointer (some ⟨B1, 1, none⟩)) 2 #[true, false, true, false, false, false, false, false, false, false, false, false, false, false, false] rfl (by kernel_rfl) (fun _ _ _ h => h) rfl (fun _ => e_val _ _ (Tryd.ipf1 _ _)) (hF0) ?_; simp only [Act.put, List.setIfInBounds_toArray, List.set_cons_succ, List.set_cons_zero]
              refine F_take (v := .string ⟨#[b]⟩) 3 #[true, false, true, true, false, false, false, false, false, false, false, false, false, false, false] rfl (by kernel_rfl) (fun _ _ _ h => h) rfl (fun w hF => e_load 9 (.tmp 49) _ _ rfl (Tryd.isAgg9 _) (pcells hF.2).2.1) (hF0) ?_; simp only [Act.put, List.setIfInBounds_toArray, List.set_cons_succ, List.set_cons_zero]
              refine F_free (v := .pointer (some ⟨B1, 2, none⟩)) 4 #[true, false, true, true, true, false, false, false, false, false, false, false, false, false, false] rfl (by kernel_rfl) (fun _ _ _ h => h) rfl (fun _ => e_val _ _ (Tryd.ipf2 _ _)) (hF0) ?_; simp only [Act.put, List.setIfInBounds_toArray, List.set_cons_succ, List.set_cons_zero]
              refine F_take (v := .int .i64 k) 5 #[true, false, true, true, true, true, false, false, false, false, false, false, false, false, false] rfl (by kernel_rfl) (fun _ _ _ h => h) rfl (fun w hF => e_load 3 (.tmp 51) _ _ rfl (Tryd.isAgg3 _) (pcells hF.2).2.2) (hF0) ?_; simp only [Act.put, List.setIfInBounds_toArray, List.set_cons_succ, List.set_cons_zero]
              refine F_one 1 #[true, true, true, true, true, true, false, false, false, false, false, false, false, false, false] rfl (by kernel_rfl) ?_
              refine r_call 42 [.tmp 47] _ [.agg (tg g.w g.h (.slice (some ⟨G2, 0, none⟩) g.c.length cap2))] (.string tx) (fun w' => Gr wd w') Tryd.call42 rfl rfl (HTT.out wd _ _ own3) ?_
              intro w83 g83
              have b80 := g83.blk b80
              have own := g83.row own
              have gg := gg.trans g83
              have hF0 := And.intro b80 (gg.blk b16)
              refine ⟨fun _ => hF0, ?_⟩
              simp only [Act.put, List.setIfInBounds_toArray, List.set_cons_succ, List.set_cons_zero]
              refine F_free (v := .agg (pv tx ⟨#[b]⟩ k)) 6 #[true, true, true, true, true, true, true, false, false, false, false, false, false, false, false] rfl (by kernel_rfl) (fun _ _ _ h => h) rfl (fun _ => e_buildP 26 [(0, .tmp 48), (1, .tmp 50), (2, .tmp 52)] [(0, .string tx), (1, .string ⟨#[b]⟩), (2, .int .i64 k)] _ (Tryd.ipbuild _ _ _ _) rfl) (hF0) ?_; simp only [Act.put, List.setIfInBounds_toArray, List.set_cons_succ, List.set_cons_zero]
              refine F_one 7 #[true, true, true, true, true, true, true, true, false, false, false, false, false, false, false] rfl (by kernel_rfl) ?_
              refine r_callx 52 [.tmp 53] _ [.agg (pv tx ⟨#[b]⟩ k)] (fun v w' => Gr w83 w' ∧ ∃ x f, v = .tuple #[x, .int .i64 f, .bool false]) Tryd.call52 rfl rfl ((HPU w83).mono fun e w' h => by obtain ⟨gq, x, f, h1⟩ := h; exact ⟨_, h1, gq, x, f, rfl⟩) ?_
              rintro _ w84 ⟨g84, xv, f, rfl⟩
              have b80 := g84.blk b80
              have own := g84.row own
              have gg := gg.trans g84
              have zz := gg.size
              have hF0 := And.intro b80 (gg.blk b16)
              refine ⟨fun _ => hF0, ?_⟩
              simp only [Act.put, List.setIfInBounds_toArray, List.set_cons_succ, List.set_cons_zero]
              refine F_free (v := .tuple #[xv, .int .i64 f, .bool false]) 8 #[true, true, true, true, true, true, true, true, true, false, false, false, false, false, false] rfl (by kernel_rfl) (fun _ _ _ h => h) rfl (fun _ => by first | rfl | (unfold execOp; simp [go_sem, Act.eval])) (hF0) ?_; simp only [Act.put, List.setIfInBounds_toArray, List.set_cons_succ, List.set_cons_zero]
              refine F_free (v := xv) 9 #[true, true, true, true, true, true, true, true, true, true, false, false, false, false, false] rfl (by kernel_rfl) (fun _ _ _ h => h) rfl (fun _ => by first | rfl | (unfold execOp; simp [go_sem, Act.eval])) (hF0) ?_; simp only [Act.put, List.setIfInBounds_toArray, List.set_cons_succ, List.set_cons_zero]
              refine F_free (v := .int .i64 f) 10 #[true, true, true, true, true, true, true, true, true, true, true, false, false, false, false] rfl (by kernel_rfl) (fun _ _ _ h => h) rfl (fun _ => by first | rfl | (unfold execOp; simp [go_sem, Act.eval])) (hF0) ?_; simp only [Act.put, List.setIfInBounds_toArray, List.set_cons_succ, List.set_cons_zero]
              refine F_free (v := .bool false) 11 #[true, true, true, true, true, true, true, true, true, true, true, true, false, false, false] rfl (by kernel_rfl) (fun _ _ _ h => h) rfl (fun _ => by first | rfl | (unfold execOp; simp [go_sem, Act.eval])) (hF0) ?_; simp only [Act.put, List.setIfInBounds_toArray, List.set_cons_succ, List.set_cons_zero]
              refine F_one 12 #[true, true, true, true, true, true, true, true, true, true, true, true, true, false, false] rfl (by kernel_rfl) ?_
              refine r_val xv rfl rfl ?_
              refine ⟨fun h => (by cases h), ?_⟩
              simp only [Act.put, List.setIfInBounds_toArray, List.set_cons_succ, List.set_cons_zero]
              refine F_one 13 #[true, true, true, true, true, true, true, true, true, true, true, true, true, true, false] rfl (by kernel_rfl) ?_
              refine r_val (.int .i64 f) rfl rfl ?_
              refine ⟨fun h => (by cases h), ?_⟩
              simp only [Act.put, List.setIfInBounds_toArray, List.set_cons_succ, List.set_cons_zero]
              refine F_one 14 #[true, true, true, true, true, true, true, true, true, true, true, true, true, true, true] rfl (by kernel_rfl) ?_
              refine r_val (.bool false) rfl rfl ?_
              refine ⟨fun h => (by cases h), ?_⟩
              simp only [Act.put, List.setIfInBounds_toArray, List.set_cons_succ, List.set_cons_zero]
              refine F_done (by kernel_rfl) ?_
              go_wp2
              go_roundw
              case rel => exact ⟨m + 1, by omega, by go_num, by rw [← HS2.out]; exact own, gg⟩
              case measure => simp [intOf]; omega
            | some y2 =>
              obtain ⟨S2, j2⟩ := y2
              rw [slvS_of hop hs2] at HPU
              dsimp only at HPU
              obtain ⟨far2, hfar2⟩ : ∃ far2, far2 = (sta S2 j2).far := ⟨_, rfl⟩
              have HB2 := hidI (show nwB g b k far m = decide (far2 = far) from by rw [hfar2]; exact nwB_some hw hs2)
              rw [← hfar2] at HPU
              clear hs2 hop hw htx hj hfar2
              go_upto_region 10 with fail
              go_step
              (refine r_load_row 58 _ _ rfl _ _ _ b70 Tryd.underlying58 rfl Tryd.tinfo rfl ?_)
              simp only [Act.put, List.setIfInBounds_toArray, List.set_cons_succ, List.set_cons_zero]
              refine r_callx 62 [.tmp 40] _ [.agg (tg g.w g.h (.slice (some ⟨G, 0, none⟩) g.c.length cap))] (fun v w' => Gr wr w' ∧ ∃ sl, v = .agg (tg g.w g.h sl) ∧ w'.ownsRow wr.heap.size 5 1 sl g.c.length (cellsV g.c)) Tryd.call62 rfl rfl ((tyCopy_any g.w g.h _ g.c G cap wr hl36 ownG).mono fun e w' h => by obtain ⟨gq, sl, h1, h2⟩ := h; exact ⟨_, h1, gq, sl, rfl, h2⟩) ?_
              rintro _ wc ⟨gc, sl2, rfl, own2⟩
              obtain ⟨G2, cap2, rfl, lG2, -⟩ := own_shape own2 hl
              have hone2 := own_one own2
              have own := gc.row own
              have gg := gg.trans gc
              have zc := gc.size
              simp only [Act.put, List.setIfInBounds_toArray, List.set_cons_succ, List.set_cons_zero]
              (refine r_alloc (dst := some 12) 58 _ Tryd.tzero rfl ?_; intro w80 B80 N80; have g80 := N80.gr; have b80 : Blk w80 B80 (tg 0 0 (.slice none 0 0)) 58 := N80.blk; have l80 := N80.lo; have t80 := N80.hi; have z80 := g80.size; have gg := gg.trans g80; clear N80; obtain ⟨b80_0, b80_1, b80_2⟩ := tcells b80)
              simp only [Act.put, List.setIfInBounds_toArray, List.set_cons_succ, List.set_cons_zero]
              (refine r_store_row 58 58 _ _ _ rfl (tg _ _ _) _ rfl b80 Tryd.tsize rfl (tg_one hone2) rfl ?_; intro w81 u81 b80'; have z81 := u81.size; have gg := u81.gr gg (by omega); clear b80; have b80 := b80'; clear b80'; obtain ⟨b80_0, b80_1, b80_2⟩ := tcells b80)
              simp only [Act.put]
              go_upto_region 11 with fail
              have own2 := u81.row (g80.row own2) (own_new own2 l80)
              have own := u81.row (g80.row own) (own_new own l80)
              have lG2' : w6.heap.size ≤ G2 := by omega
              have hne : B80 ≠ G2 := fun e => own_ne own2 b80 (by decide) (by rw [e]; rfl)
              have hix2 := fun w => Tryd.six0 G2 g.c.length cap2 m hlt w
              go_step
              refine r_fld 58 _ 2 (.pointer (some ⟨B80, 0, none⟩)) (.pointer (some ⟨B80, 2, none⟩)) rfl (Tryd.tf2 _ _) rfl ?_
              simp only [Act.put, List.setIfInBounds_toArray, List.set_cons_succ, List.set_cons_zero]
              refine r_ldc 56 _ ⟨B80, 2, none⟩ (.slice (some ⟨G2, 0, none⟩) g.c.length cap2) rfl (Tryd.isAgg56 _) (tcells b80).2.2 rfl ?_
              simp only [Act.put, List.setIfInBounds_toArray, List.set_cons_succ, List.set_cons_zero]
              refine r_val (.int .i64 m) rfl rfl ?_
              simp only [Act.put, List.setIfInBounds_toArray, List.set_cons_succ, List.set_cons_zero]
              refine r_idx 56 _ _ (.slice (some ⟨G2, 0, none⟩) g.c.length cap2) (.int .i64 m) _ rfl rfl (hix2 _) rfl ?_
              simp only [Act.put, List.setIfInBounds_toArray, List.set_cons_succ, List.set_cons_zero]
              refine r_store_own 5 5 _ _ G2 m g.c.length cap2 wr.heap.size _ rfl (byteV 46) rfl own2 hlt Tryd.sizeOf5 rfl rfl ?_
              intro w82 u82 own3
              rw [HSC.out] at own3
              have b80 := u82.blk b80 hne
              have own := u82.row own (own_neS own own2 (by decide))
              have gg := u82.gr gg lG2'
              simp only [Act.put]
              go_upto_region 12 with fail
              refine F_begin (fun w => (Blk w B80 (tg g.w g.h (.slice (some ⟨G2, 0, none⟩) g.c.length cap2)) 58 ∧ Blk w B1 (pv s ⟨#[b]⟩ k) 26)) 12 15 #[false, false, false, false, false, false, false, false, false, false, false, false, false, false, false] rfl (by kernel_rfl) (by kernel_rfl) ?_
              have gd := (Gr.refl w82).drew
              have b80 := gd.blk b80
              have own := gd.row own
              have own3 := gd.row own3
              have gg := gg.trans gd
              have zd := gd.size
              generalize w82.drew = wd at *
              have hF0 := And.intro b80 (gg.blk b16)
              refine F_take (v := .agg (tg g.w g.h (.slice (some ⟨G2, 0, none⟩) g.c.length cap2))) 0 #[true, false, false, false, false, false, false, false, false, false, false, false, false, false, false] rfl (by kernel_rfl) (fun _ _ _ h => h) rfl (fun w hF => e_load_row 58 (.tmp 12) _ _ _ _ rfl hF.1 Tryd.underlying58 rfl Tryd.tinfo) (hF0) ?_; simp only [Act.put, List.setIfInBounds_toArray, List.set_cons_succ, List.set_cons_zero]
              refine F_free (v := .pointer (some ⟨B1, 1, none⟩)) 2 #[true, false, true, false, false, false, false, false, false, false, false, false, false, false, false] rfl (by kernel_rfl) (fun _ _ _ h => h) rfl (fun _ => e_val _ _ (Tryd.ipf1 _ _)) (hF0) ?_; simp only [Act.put, List.setIfInBounds_toArray, List.set_cons_succ, List.set_cons_zero]
              refine F_take (v := .string ⟨#[b]⟩) 3 #[true, false, true, true, false, false, false, false, false, false, false, false, false, false, false] rfl (by kernel_rfl) (fun _ _ _ h => h) rfl (fun w hF => e_load 9 (.tmp 49) _ _ rfl (Tryd.isAgg9 _) (pcells hF.2).2.1) (hF0) ?_; simp only [Act.put, List.setIfInBounds_toArray, List.set_cons_succ, List.set_cons_zero]
              refine F_free (v := .pointer (some ⟨B1, 2, none⟩)) 4 #[true, false, true, true, true, false, false, false, false, false, false, false, false, false, false] rfl (by kernel_rfl) (fun _ _ _ h => h) rfl (fun _ => e_val _ _ (Tryd.ipf2 _ _)) (hF0) ?_; simp only [Act.put, List.setIfInBounds_toArray, List.set_cons_succ, List.set_cons_zero]
              refine F_take (v := .int .i64 k) 5 #[true, false, true, true, true, true, false, false, false, false, false, false, false, false, false] rfl (by kernel_rfl) (fun _ _ _ h => h) rfl (fun w hF => e_load 3 (.tmp 51) _ _ rfl (Tryd.isAgg3 _) (pcells hF.2).2.2) (hF0) ?_; simp only [Act.put, List.setIfInBounds_toArray, List.set_cons_succ, List.set_cons_zero]
              refine F_one 1 #[true, true, true, true, true, true, false, false, false, false, false, false, false, false, false] rfl (by kernel_rfl) ?_
              refine r_call 42 [.tmp 47] _ [.agg (tg g.w g.h (.slice (some ⟨G2, 0, none⟩) g.c.length cap2))] (.string tx) (fun w' => Gr wd w') Tryd.call42 rfl rfl (HTT.out wd _ _ own3) ?_
              intro w83 g83
              have b80 := g83.blk b80
              have own := g83.row own
              have gg := gg.trans g83
              have hF0 := And.intro b80 (gg.blk b16)
              refine ⟨fun _ => hF0, ?_⟩
              simp only [Act.put, List.setIfInBounds_toArray, List.set_cons_succ, List.set_cons_zero]
              refine F_free (v := .agg (pv tx ⟨#[b]⟩ k)) 6 #[true, true, true, true, true, true, true, false, false, false, false, false, false, false, false] rfl (by kernel_rfl) (fun _ _ _ h => h) rfl (fun _ => e_buildP 26 [(0, .tmp 48), (1, .tmp 50), (2, .tmp 52)] [(0, .string tx), (1, .string ⟨#[b]⟩), (2, .int .i64 k)] _ (Tryd.ipbuild _ _ _ _) rfl) (hF0) ?_; simp only [Act.put, List.setIfInBounds_toArray, List.set_cons_succ, List.set_cons_zero]
              refine F_one 7 #[true, true, true, true, true, true, true, true, false, false, false, false, false, false, false] rfl (by kernel_rfl) ?_
              refine r_callx 52 [.tmp 53] _ [.agg (pv tx ⟨#[b]⟩ k)] (fun v w' => Gr w83 w' ∧ ∃ x, v = .tuple #[x, .int .i64 (far2 : Int), .bool true]) Tryd.call52 rfl rfl ((HPU w83).mono fun e w' h => by obtain ⟨gq, x, _, _, _, h1, -⟩ := h; exact ⟨_, h1, gq, x, rfl⟩) ?_
              rintro _ w84 ⟨g84, xv, rfl⟩
              have b80 := g84.blk b80
              have own := g84.row own
              have gg := gg.trans g84
              have zz := gg.size
              have hF0 := And.intro b80 (gg.blk b16)
              refine ⟨fun _ => hF0, ?_⟩
              simp only [Act.put, List.setIfInBounds_toArray, List.set_cons_succ, List.set_cons_zero]
              refine F_free (v := .tuple #[xv, .int .i64 (far2 : Int), .bool true]) 8 #[true, true, true, true, true, true, true, true, true, false, false, false, false, false, false] rfl (by kernel_rfl) (fun _ _ _ h => h) rfl (fun _ => by first | rfl | (unfold execOp; simp [go_sem, Act.eval])) (hF0) ?_; simp only [Act.put, List.setIfInBounds_toArray, List.set_cons_succ, List.set_cons_zero]
              refine F_free (v := xv) 9 #[true, true, true, true, true, true, true, true, true, true, false, false, false, false, false] rfl (by kernel_rfl) (fun _ _ _ h => h) rfl (fun _ => by first | rfl | (unfold execOp; simp [go_sem, Act.eval])) (hF0) ?_; simp only [Act.put, List.setIfInBounds_toArray, List.set_cons_succ, List.set_cons_zero]
              refine F_free (v := .int .i64 (far2 : Int)) 10 #[true, true, true, true, true, true, true, true, true, true, true, false, false, false, false] rfl (by kernel_rfl) (fun _ _ _ h => h) rfl (fun _ => by first | rfl | (unfold execOp; simp [go_sem, Act.eval])) (hF0) ?_; simp only [Act.put, List.setIfInBounds_toArray, List.set_cons_succ, List.set_cons_zero]
              refine F_free (v := .bool true) 11 #[true, true, true, true, true, true, true, true, true, true, true, true, false, false, false] rfl (by kernel_rfl) (fun _ _ _ h => h) rfl (fun _ => by first | rfl | (unfold execOp; simp [go_sem, Act.eval])) (hF0) ?_; simp only [Act.put, List.setIfInBounds_toArray, List.set_cons_succ, List.set_cons_zero]
              refine F_one 12 #[true, true, true, true, true, true, true, true, true, true, true, true, true, false, false] rfl (by kernel_rfl) ?_
              refine r_val xv rfl rfl ?_
              refine ⟨fun h => (by cases h), ?_⟩
              simp only [Act.put, List.setIfInBounds_toArray, List.set_cons_succ, List.set_cons_zero]
              refine F_one 13 #[true, true, true, true, true, true, true, true, true, true, true, true, true, true, false] rfl (by kernel_rfl) ?_
              refine r_val (.int .i64 (far2 : Int)) rfl rfl ?_
              refine ⟨fun h => (by cases h), ?_⟩
              simp only [Act.put, List.setIfInBounds_toArray, List.set_cons_succ, List.set_cons_zero]
              refine F_one 14 #[true, true, true, true, true, true, true, true, true, true, true, true, true, true, true] rfl (by kernel_rfl) ?_
              refine r_val (.bool true) rfl rfl ?_
              refine ⟨fun h => (by cases h), ?_⟩
              simp only [Act.put, List.setIfInBounds_toArray, List.set_cons_succ, List.set_cons_zero]
              refine F_done (by kernel_rfl) ?_
              by_cases hff : far2 = far
              · have e2 : ((far2 : Int) == (far : Int)) = true := by rw [beq_iff_eq]; omega
                have HS2 := hidI (show intsV L ++ [.int .i64 (m : Int)] = intsV (nwTo g b k far (m + 1)) ∧ L.length + 1 = (nwTo g b k far (m + 1)).length from by
                  rw [HNW.out, HB2.out, if_pos (decide_eq_true hff)]
                  exact ⟨by unfold intsV; simp, by simp⟩)
                clear hff
                go_wp2_with (first | (refine r_slice1 41 3 (.tmp 65) (.int .i64 m) rfl (Tryd.bsiZ _ _) rfl ?_; intro we Be Ne; have ge := Ne.gr; have own := ge.row own; have gg := gg.trans ge; have ze := ge.size) | (refine r_append (.tmp 64) (.tmp 66) 41 3 _ 1 8 w6.heap.size Tryd.intsZ (.slice p5 L.length k5) L.length (intsV L) rfl own ⟨Be, 0, none⟩ 1 1 [.int .i64 m] rfl rfl Ne.cell1 (by intro u hu; simp at hu; subst hu; rfl) (by omega) (by decide) (by omega) rfl ?_; intro vf wf ownf gf; have gg := gf.gr gg (own_gr own (Nat.le_refl _))))
                rw [HS2.out.1, HS2.out.2] at ownf
                go_roundw
                case rel => exact ⟨m + 1, by omega, by go_num, ownf, gg⟩
                case measure => simp [intOf]; omega
              · have e2 : ((far2 : Int) == (far : Int)) = false := by rw [beq_eq_false_iff_ne]; omega
                have HS2 := hidI (show L = nwTo g b k far (m + 1) from by rw [HNW.out, HB2.out, decide_eq_false hff]; rfl)
                clear hff
                go_wp2
                go_roundw
                case rel => exact ⟨m + 1, by omega, by go_num, by rw [← HS2.out]; exact own, gg⟩
                case measure => simp [intOf]; omega
          · have e1 : (((at0 g.c m).toNat : Int) == 35) = false := by
              rw [beq_eq_false_iff_ne]
              intro e
              exact hw (UInt8.toNat_inj.1 (by have h35 : (35 : UInt8).toNat = 35 := rfl; omega))
            have HS2 := hidI (show L = nwTo g b k far (m + 1) from by rw [HNW.out, nwB_no hw]; rfl)
            clear hw
            go_wp2
            go_roundw
            case rel => exact ⟨m + 1, by omega, by go_num, by rw [← HS2.out]; exact own, gg⟩
            case measure => simp [intOf]; omega
        · obtain rfl : m = g.c.length := by omega
          clear hlt
          go_wp2
          go_ret2
          exact ⟨gg6.trans gg, _, fin_vW HV.out.2.symm, by rw [HV.out.1]; exact own_up own zz6⟩
set_option maxHeartbeats 4000000 in
set_option maxRecDepth 100000 in
theorem lawNeedlessWalls (s n : ByteArray) (z : Int) (w : World) (hbs : s.size ≤ maxLen) (hbn : n.size ≤ maxLen) (hm : ML w) : Calls Tryd.prog 10 #[.agg (pv s n z)] w (Ret (.bool true) w) := by
  have gg := Gr.refl w
  by_cases hl : 1048576 < s.size + n.size
  · have HZ := hidI (show szZ s.size n.size = -1 from if_pos hl)
    go_enter Tryd.func10, Tryd.ntmps10
    go_wp2_with (first | (refine r_box 23 _ (pv (s) (n) (z)) rfl rfl ?_; intro w1 B1 N1; have g1 := N1.gr; have b1 : Blk w1 B1 (pv (s) (n) (z)) 23 := N1.blk; have l1 := N1.lo; have t1 := N1.hi; have z1 := g1.size; have gg := gg.trans g1; clear N1; obtain ⟨b1_0, b1_1, b1_2⟩ := pcells b1) | (refine r_load_row 23 _ _ rfl _ _ _ b1 Tryd.underlying23 rfl Tryd.lpinfo rfl ?_) | (go_at_call 13; refine (szPuzzle_any s n z _ hbs hbn).mono ?_; rintro e w2 ⟨rfl, g2⟩; rw [HZ.out]; have z2 := g2.size; have gg := gg.trans g2))
    go_ret
    exact ⟨rfl, gg⟩
  · have hs : s.size ≤ 1048576 := by omega
    have HZ := hidI (show szZ s.size n.size = 1048576 - (s.size : Int) - n.size from if_neg hl)
    have hz0 : ¬ (1048576 - (s.size : Int) - n.size < 0) := by omega
    obtain ⟨L, hL⟩ : ∃ L, L = nwL s.data.toList n z := ⟨_, rfl⟩
    obtain ⟨ok, hok⟩ : ∃ ok, ok = lnOk s.data.toList n z := ⟨_, rfl⟩
    have hle : L.length ≤ 36 := by rw [hL]; exact nwL_le _ _ _
    have HL := hidI hL
    have HOK := hidI hok
    clear hl hL hok
    go_enter Tryd.func10, Tryd.ntmps10
    go_wp2_with (first | (refine r_box 23 _ (pv (s) (n) (z)) rfl rfl ?_; intro w1 B1 N1; have g1 := N1.gr; have b1 : Blk w1 B1 (pv (s) (n) (z)) 23 := N1.blk; have l1 := N1.lo; have t1 := N1.hi; have z1 := g1.size; have gg := gg.trans g1; clear N1; obtain ⟨b1_0, b1_1, b1_2⟩ := pcells b1) | (refine r_load_row 23 _ _ rfl _ _ _ b1 Tryd.underlying23 rfl Tryd.lpinfo rfl ?_) | (go_at_call 13; refine (szPuzzle_any s n z _ hbs hbn).mono ?_; rintro e w2 ⟨rfl, g2⟩; rw [HZ.out]; have z2 := g2.size; have b1 := g2.blk b1; have gg := gg.trans g2) | (go_at_call 15; refine (toPuzzle_any s n z _).mono ?_; rintro e w3 ⟨rfl, g3⟩; have gg := gg.trans g3; have b1 := g3.blk b1; have z3 := g3.size))
    refine (sNeedlessWalls s n z _ hs).mono ?_
    rintro e w11 ⟨g11, v1, rfl, own1⟩
    rw [← HL.out] at own1
    rw [← HOK.out]
    have b1 := g11.blk b1
    have gg := gg.trans g11
    have z11 := gg.size
    go_wp2_with (first | (refine r_load_row 23 _ _ rfl _ _ _ b1 Tryd.underlying23 rfl Tryd.lpinfo rfl ?_) | (go_at_call 15; refine (toPuzzle_any s n z _).mono ?_; rintro e w3 ⟨rfl, g3⟩; have gg := gg.trans g3; have b1 := g3.blk b1; have z3 := g3.size; (try have own1 := g3.row own1); (try have own2 := g3.row own2)))
    have hzi := gg.size
    refine (iNeedlessWalls s n z _ (gg.ml hm) hs).mono ?_
    rintro e w12 ⟨g12, v2, rfl, own2⟩
    rw [← HL.out] at own2
    rw [← HOK.out]
    have HAP := hidI (own_apart own1 own2 (by omega))
    have own1 := g12.row own1
    have b1 := g12.blk b1
    have gg := gg.trans g12
    go_wp2_with fail
    refine (eqIntS_any v2 v1 L L _ _ _ own2 own1 (by omega)).mono ?_
    rintro e w13 ⟨rfl, g13⟩
    rw [decide_eq_true rfl]
    have own1 := g13.row own1
    have own2 := g13.row own2
    have b1 := g13.blk b1
    have gg := gg.trans g13
    go_wp2_with fail
    have hn1 := own_ne own2 b1 (by decide)
    refine (markIntS_any v2 L 1 _ _ own2 (by omega) (by decide)).mono ?_
    rintro e w14 ⟨rfl, own2', g14, z14⟩
    have own1 := g14.row own1 HAP.out
    have b1 := g14.blk b1 hn1
    have gg := g14.gr gg (own_gr own2 hzi)
    obtain ⟨N, hn⟩ : ∃ N : Nat, N = 1 + L.length := ⟨_, rfl⟩
    rw [← hn]
    have HN := hidI hn
    have hn2 : N ≤ 37 := by omega
    clear hn
    have own2 := own2'
    clear own2'
    go_wp2_with fail
    refine (heldIntS_any v2 L.length 1 _ _ own2 (by omega) (by decide)).mono ?_
    rintro e w15 ⟨rfl, g15⟩
    rw [← HN.out]
    have own1 := g15.row own1
    have own2 := g15.row own2
    have b1 := g15.blk b1
    have gg := gg.trans g15
    go_wp2_with (first | (refine r_load_row 23 _ _ rfl _ _ _ b1 Tryd.underlying23 rfl Tryd.lpinfo rfl ?_) | (go_at_call 15; refine (toPuzzle_any s n z _).mono ?_; rintro e w3 ⟨rfl, g3⟩; have gg := gg.trans g3; have b1 := g3.blk b1; have z3 := g3.size; (try have own1 := g3.row own1); (try have own2 := g3.row own2)))
    refine (iNeedlessWalls s n z _ (gg.ml hm) hs).mono ?_
    rintro e w16 ⟨g16, v6, rfl, own6⟩
    rw [← HL.out] at own6
    rw [← HOK.out]
    have gg := gg.trans g16
    have own1 := g16.row own1
    have own2 := g16.row own2
    go_wp2_with fail
    refine (eqIntS_any v6 v1 L L _ _ _ own6 own1 (by omega)).mono ?_
    rintro e w17 ⟨rfl, g17⟩
    rw [decide_eq_true rfl]
    have own2 := g17.row own2
    have gg := gg.trans g17
    go_wp2_with fail
    refine (heldIntS_any v2 L.length 1 _ _ own2 (by omega) (by decide)).mono ?_
    rintro e w18 ⟨rfl, g18⟩
    rw [← HN.out]
    have gg := gg.trans g18
    go_wp2
    go_ret
    exact ⟨rfl, gg⟩
end Go.Proofs.YtamdmhclhjkogaaDoor
