/-
  The text of a board in the program: the range over slices.Chunk.
-/
import Derived.Test.YtdebiobhmpoiiaaDoorBtxI
import Derived.Test.YtdebiobhmpoiiaaDoorChkI
import Derived.Test.YtdebiobhmpoiiaaDoorBBb
import Derived.Test.YtdebiobhmpoiiaaDoorOps
import Derived.RangeFuncWrites
namespace Go.Proofs.YtdebiobhmpoiiaaDoor
open Go.RowKit Go.Shelf
attribute [local go_sem] Oper.semAt_some
def btS (z : Int) (L : List Int) : ByteArray := if bdOk z L then ⟨(brdT L z.toNat (L.length / z.toNat)).toArray⟩ else ⟨#[]⟩
theorem btS_bad {z : Int} {L : List Int} (h : bdOk z L = false) : btS z L = ⟨#[]⟩ := by unfold btS; rw [h]; rfl
theorem btS_good {W H : Nat} {L : List Int} (hl : L.length = nn W H) (hW : 1 ≤ W) (h : bdOk W L = true) : btS W L = ⟨(brdT L W H).toArray⟩ := by
  unfold btS
  rw [if_pos h, Int.toNat_natCast, hl, nn_div hW]
theorem Gr.othersC {w w' : World} (g : Gr w w') : KeepsOthers w w' := ⟨g.size, fun _ _ h _ => Gr.keep g h⟩
theorem Upd.othersC {B : Nat} {w w' : World} {cs : Array Value} {T : TypeId} (u : Upd B w w') (h : Blk w B cs T) : KeepsOthers w w' :=
  ⟨by rw [u.size]; exact Nat.le_refl _, fun k o hk ho => by
    by_cases e : k = B
    · subst e
      unfold Blk at h
      rw [h] at hk
      cases hk
      cases ho
    · exact u.keep hk e⟩
theorem row_block {w : World} {base : Nat} {e : TypeId} {size : Nat} {v : Value} {n : Nat} {xs : List Value} (hr : w.ownsRow base e size v n xs) {k : Nat} (hk : v.ownBlock = some k) {o : Obj} (ho : w.heap[k]? = some o) : o.isCells = true := by
  obtain ⟨h1, h2 | ⟨g, cap, cur, rfl, b, c, d⟩⟩ := hr
  · rw [h2.1] at hk; cases hk
  · cases hk
    rw [c] at ho
    cases ho
    rfl
theorem Grb.othersC {w w' : World} {base : Nat} {e : TypeId} {size : Nat} {v : Value} {n : Nat} {xs : List Value} (g : Grb v.ownBlock w w') (hr : w.ownsRow base e size v n xs) : KeepsOthers w w' :=
  ⟨g.size, fun k o hk ho => g.keep hk (fun e => by rw [row_block hr e hk] at ho; cases ho)⟩
theorem OwnFrom.ex {β γ : Type} {B : Nat} {J : γ → β → World → Prop} (h : ∀ g, OwnFrom B (J g)) : OwnFrom B (fun (s : β) W => ∃ g, J g s W) := fun s W W' row ⟨g, hs⟩ hg hr => ⟨g, h g s W W' row hs hg hr⟩
theorem OwnFrom.blkC {β : Type} {B : Nat} {k : Nat} {cs : β → Array Value} {T : TypeId} : OwnFrom B (fun (s : β) W => Blk W k (cs s) T) := fun s W W' row hs hg hr =>
  Grb.blk (⟨hg⟩ : Grb row W W') hs (fun e => by
    obtain ⟨-, o, ho, hc⟩ := hr k e
    have hs' : W.heap[k]? = some (.cells (cs s) T (0, 0)) := hs
    rw [hs'] at ho
    cases ho
    cases hc)
theorem OwnFrom.rowC {β : Type} {B base : Nat} {e : TypeId} {size : Nat} {v : Value} {n : β → Nat} {xs : β → List Value} : OwnFrom B (fun (s : β) W => W.ownsRow base e size v (n s) (xs s)) := fun s W W' row hs hg hr =>
  Grb.row (⟨hg⟩ : Grb row W W') hs (by
    cases hv : v.ownBlock with
    | none => exact .inl rfl
    | some k =>
      refine .inr (fun e => ?_)
      obtain ⟨-, o, ho, hc⟩ := hr k e.symm
      rw [row_block hs hv ho] at hc
      cases hc)
theorem blk_neC {w : World} {B C : Nat} {cs ds : Array Value} {T U : TypeId} (h : Blk w B cs T) (k : Blk w C ds U) (hne : T ≠ U) : B ≠ C := fun e => by
  subst e
  unfold Blk at h k
  rw [h] at k
  injection k with k
  injection k with _ k
  exact hne k
def rowsP {H : Nat} (L : List Int) (W : Nat) (pre : List (CX H)) : List (List UInt8) := pre.map fun x => rowT L (x.1 * W) W
theorem ret_bt {a a' : ByteArray} {b b' : Bool} (h : a = a') (h2 : b = b') : Ending.returned (.tuple #[.string a, .bool b]) = .returned (.tuple #[.string a', .bool b']) := by rw [h, h2]
theorem Tryd.lf0T (B : Nat) (w : World) : (Instr.fieldAt 93 (.pointer (some ⟨B, 0, none⟩)) 0).run Tryd.prog w = .ok (.pointer (some ⟨B, 0, none⟩)) w := by kernel_rfl
theorem Tryd.btzero (w : World) : (zeroValue 96).run Tryd.prog w = .ok (.slice none 0 0) w := by kernel_rfl
set_option maxHeartbeats 1000000 in
set_option maxRecDepth 100000 in
theorem iBoardText (z : Int) (L : List Int) (v : Value) (base : Nat) (w : World) (hown : w.ownsRow base 3 1 v L.length (intsV L)) (hl : L.length ≤ 1048576) :
    Calls Tryd.prog 26 #[.agg (bv z v)] w (Ret (.tuple #[.string (btS z L), .bool (bdOk z L)]) w) := by
  have gg := Gr.refl w
  have hone := own_one hown
  by_cases hok : bdOk z L = true
  · obtain ⟨⟨W, H, rfl, hnn, hw1, hw3, hh1, hh3⟩, hall⟩ := bdOk_iff.1 hok
    have HV := hidI (show btS W L = ⟨(brdT L W H).toArray⟩ ∧ bdOk W L = true from ⟨btS_good hnn hw1 hok, hok⟩)
    have HR := hidI (fun w' (ho : w'.ownsRow base 3 1 v L.length (intsV L)) => show Calls Tryd.prog 50 #[.agg (bv W v)] w' (Ret (.tuple #[.agg (lv W H L), .bool true]) w') from by
      have := readBoard_any W L v base w' ho hl
      rwa [rdV_good hnn hw1 hok, hok] at this)
    have h9 : nn W H ≤ 9 := by
      have : W * H ≤ 3 * 3 := Nat.mul_le_mul hw3 hh3
      exact this
    have HCE := hidI (fun w' => cellsOf_any W H L w' h9)
    have HDG := hidI (fun i (hi : i < L.length) => show 0 ≤ gi L i ∧ gi L i < 10 from by
      have := hasAll_lt hall i hi
      omega)
    have hLH : nn W H = H * W := Nat.mul_comm W H
    obtain ⟨len, hlen⟩ : ∃ len, len = nn W H := ⟨_, rfl⟩
    rw [← hlen] at HCE h9 hnn hLH
    have HNN := hidI hnn
    have HLH := hidI hLH
    clear hok hall hnn hlen hLH
    refine (callsIn_wide (n := 9)).1 ?_
    refine callsIn_of_wp_marks Tryd.func26 rfl trivial ?_ rfl
    refine wpIn_wide.2 ?_
    simp only [Tryd.ntmps26, List.size_toArray, List.length_cons, List.length_nil, Nat.reduceAdd, Nat.reduceSub, Array.replicate_succ, Array.replicate_zero, List.push_toArray, List.append_toArray, List.nil_append, List.cons_append]
    go_wp2_with (first | (refine r_box 45 _ (bv (W) (v)) rfl rfl ?_; intro w1 B1 N1; have g1 := N1.gr; have b1 : Blk w1 B1 (bv (W) (v)) 45 := N1.blk; have l1 := N1.lo; have t1 := N1.hi; have z1 := g1.size; have gg := gg.trans g1; clear N1; obtain ⟨b1_0, b1_1⟩ := bcells b1) | (refine r_load_row 45 _ _ rfl _ _ _ b1 Tryd.underlying45 rfl Tryd.ibinfo rfl ?_) | (go_at_call 50; refine (HR.out _ (g1.row hown)).mono ?_; rintro e w2 ⟨rfl, g2⟩; have gg := gg.trans g2; have z2 := g2.size) | (refine r_alloc (dst := some 4) 93 _ Tryd.lzero rfl ?_; intro w4 B4 N4; have g4 := N4.gr; have b4 : Blk w4 B4 (lv 0 0 []) 93 := N4.blk; have l4 := N4.lo; have t4 := N4.hi; have z4 := g4.size; have gg := gg.trans g4; clear N4; obtain ⟨b4_0, b4_1, b4_2⟩ := lcells b4) | (refine r_store_row 93 93 _ _ _ rfl (lv (W) (H) (L)) _ rfl b4 (Tryd.lsize' _ _ _) (by simp only [lv_size]) (lv_one _ _ _) rfl ?_; intro w5 u5 b4'; have z5 := u5.size; have gg := u5.gr gg (by omega); clear b4; have b4 := b4'; clear b4'; obtain ⟨b4_0, b4_1, b4_2⟩ := lcells b4) | (refine r_alloc (dst := some 6) 96 _ Tryd.btzero rfl ?_; intro w6 B6 N6; have g6 := N6.gr; have b6 : Blk w6 B6 (#[.slice none 0 0]) 96 := N6.blk; have l6 := N6.lo; have t6 := N6.hi; have z6 := g6.size; have b4 := g6.blk b4; have gg := gg.trans g6; clear N6))
    simp only [Act.put, List.setIfInBounds_toArray, List.set_cons_succ, List.set_cons_zero]
    have l6L := hidI (show w.heap.size ≤ B6 from by omega)
    have gd := (Gr.refl w6).drew
    have b4 := gd.blk b4
    have b6 := gd.blk b6
    have gg := gg.trans gd
    have zd := gd.size
    refine F_begin (fun w => (Blk w B4 (lv W H L) 93)) 4 5 #[false, false, false, false, false] rfl (by kernel_rfl) (by kernel_rfl) ?_
    generalize w6.drew = wd at *
    refine F_free (v := .pointer (some ⟨B4, 0, Option.none⟩)) 2 #[false, false, true, false, false] rfl (by kernel_rfl) (fun _ _ _ h => h) rfl (fun _ => e_val _ _ (Tryd.lf0T _ _)) (b4) ?_; simp only [Act.put, List.setIfInBounds_toArray, List.set_cons_succ, List.set_cons_zero]
    refine F_take (v := .int .i64 W) 3 #[false, false, true, true, false] rfl (by kernel_rfl) (fun _ _ _ h => h) rfl (fun w hF => e_load 3 (.tmp 17) _ _ rfl (Tryd.isAgg3 _) (lcells hF).1) (b4) ?_; simp only [Act.put, List.setIfInBounds_toArray, List.set_cons_succ, List.set_cons_zero]
    refine F_one 0 #[true, false, true, true, false] rfl (by kernel_rfl) ?_
    (refine r_load_row 93 _ _ rfl _ _ _ b4 Tryd.underlying93 rfl (Tryd.linfo' _ _ _) rfl ?_)
    refine ⟨fun _ => b4, ?_⟩
    simp only [Act.put, List.setIfInBounds_toArray, List.set_cons_succ, List.set_cons_zero]
    refine F_one 1 #[true, true, true, true, false] rfl (by kernel_rfl) ?_
    refine r_callx 52 [.tmp 15] _ [.agg (lv W H L)] (fun v w' => Gr wd w' ∧ ∃ B, v = .slice (some ⟨B, 2, none⟩) len 9 ∧ Blk w' B (lv W H L) 93 ∧ wd.heap.size ≤ B) Tryd.call52 rfl rfl ((HCE.out wd).mono fun e w' h => by obtain ⟨g, B, h1, h2, h3⟩ := h; exact ⟨_, h1, g, B, rfl, h2, h3⟩) ?_
    rintro _ wc ⟨gc, G, rfl, bG, lG⟩
    have b4 := gc.blk b4
    have b6 := gc.blk b6
    have gg := gg.trans gc
    have zc := gc.size
    have tG := bG.lt
    refine ⟨fun _ => b4, ?_⟩
    simp only [Act.put, List.setIfInBounds_toArray, List.set_cons_succ, List.set_cons_zero]
    refine F_one 4 #[true, true, true, true, true] rfl (by kernel_rfl) ?_
    refine r_call 51 [.tmp 16, .tmp 18] _ [.slice (some ⟨G, 2, none⟩) len 9, .int .i64 W] (.func (.func 87) #[] #[.pointer (some ⟨wc.heap.size, 0, none⟩), .pointer (some ⟨wc.heap.size + 1, 0, none⟩)]) (fun w' => w' = (wc.alloc (.cells #[.slice (some ⟨G, 2, none⟩) len 9] 34)).alloc (.cells #[.int .i64 W] 3)) Tryd.call51 rfl rfl (Tryd.chk_any _ _ _ W hw1 wc) ?_
    rintro _ rfl
    have hs1 : Blk (wc.alloc (.cells #[.slice (some ⟨G, 2, none⟩) len 9] 34)) wc.heap.size #[.slice (some ⟨G, 2, none⟩) len 9] 34 := heap_alloc_new wc _
    have e1 : (wc.alloc (.cells #[.slice (some ⟨G, 2, none⟩) len 9] 34)).heap.size = wc.heap.size + 1 := World.size_alloc _ _
    have hm1 : Blk ((wc.alloc (.cells #[.slice (some ⟨G, 2, none⟩) len 9] 34)).alloc (.cells #[.int .i64 W] 3)) (wc.heap.size + 1) #[.int .i64 W] 3 := by rw [← e1]; exact heap_alloc_new _ _
    have g1 : Gr wc (wc.alloc (.cells #[.slice (some ⟨G, 2, none⟩) len 9] 34)) := (Gr.refl wc).alloc _
    have g2 : Gr (wc.alloc (.cells #[.slice (some ⟨G, 2, none⟩) len 9] 34)) ((wc.alloc (.cells #[.slice (some ⟨G, 2, none⟩) len 9] 34)).alloc (.cells #[.int .i64 W] 3)) := (Gr.refl _).alloc _
    have hs1 := g2.blk hs1
    have gcc := g1.trans g2
    have b6 := gcc.blk b6
    have bG := gcc.blk bG
    have gg := gg.trans gcc
    have zcc := gcc.size
    have hsz : ((wc.alloc (.cells #[.slice (some ⟨G, 2, none⟩) len 9] 34)).alloc (.cells #[.int .i64 W] 3)).heap.size = wc.heap.size + 2 := by rw [World.size_alloc, e1]
    generalize (wc.alloc (.cells #[.slice (some ⟨G, 2, none⟩) len 9] 34)).alloc (.cells #[.int .i64 W] 3) = wr at *
    clear e1 g1 g2
    refine ⟨fun h => (by cases h), ?_⟩
    simp only [Act.put, List.setIfInBounds_toArray, List.set_cons_succ, List.set_cons_zero]
    refine F_done (by kernel_rfl) ?_
    go_wp2
    have lo6 : w.heap.size ≤ B6 := l6L.out
    have zz := gg.size
    have tG : G < wr.heap.size := bG.lt
    have hBs : wc.heap.size < wr.heap.size := by omega
    have hBn : wc.heap.size + 1 < wr.heap.size := by omega
    generalize wc.heap.size = Bs at *
    refine (wpIn_wide (n := 9)).1 ?_
    refine wpIn_rangeFunc_ownG (hro := rfl) (h1 := by decide) (gf := 87) (lb := #[.pointer (some ⟨Bs, 0, none⟩), .pointer (some ⟨Bs + 1, 0, none⟩)]) rfl trivial (enters_of Tryd.func87 (by kernel_rfl) rfl)
      (Tryd.chk_stops (9 - 1) (by decide) Bs (Bs + 1) G 2 9 W H len hw1 HLH.out (by omega) h9 wr hBs hBn (hs1.cell 0) (hm1.cell 0)) (fun h k => kpC_t h k) (fun W l o o' _ h hc _ => kpC_b W l o o' h hc) (Below.refl _ _) (fun _ => rfl)
      (fun pre W' => (∃ ov, Blk W' B6 #[ov] 96 ∧ W'.ownsRow w.heap.size 9 1 ov pre.length (strV (rowsP L W pre))) ∧ ((Blk W' G (lv W H L) 93 ∧ (Blk W' Bs #[.slice (some ⟨G, 2, none⟩) len 9] 34 ∧ Blk W' (Bs + 1) #[.int .i64 W] 3)) ∧ Below w.heap.size w W'))
      (fun _ _ _ => False)
      (OwnFrom.and (OwnFrom.ex fun ov => OwnFrom.and OwnFrom.blkC OwnFrom.rowC) (OwnFrom.and (OwnFrom.and OwnFrom.blkC (OwnFrom.and OwnFrom.blkC OwnFrom.blkC)) (ownFrom_below (Nat.le_refl _) zz)))
      (fun _ _ _ _ _ hs _ _ => hs)
      ⟨⟨_, b6, World.ownsRow_nil _ _ _ _⟩, ⟨bG, hs1, hm1⟩, gg⟩
      (fun x => { tmps := #[.agg (bv W v), .pointer (some ⟨B1, 0, none⟩), .string ⟨#[]⟩, .bool false, .pointer (some ⟨B4, 0, none⟩), .bool true, .pointer (some ⟨B6, 0, none⟩), .slice (some ⟨G, 2 + x.1 * W, none⟩) W W, .tuple #[.agg (lv W H L), .bool true], .agg (bv W v), .tuple #[.agg (lv W H L), .bool true], .agg (lv W H L), .bool true, .bool true, .bool false, .agg (lv W H L), .slice (some ⟨G, 2, none⟩) len 9, .pointer (some ⟨B4, 0, none⟩), .int .i64 W, .func (.func 87) #[] #[.pointer (some ⟨Bs, 0, none⟩), .pointer (some ⟨Bs + 1, 0, none⟩)], .slice (some ⟨G, 2 + x.1 * W, none⟩) W W, undef, undef, undef, undef, undef, undef, undef], defers := [] }) ?assign ?body ?done ?stop
    case assign =>
      intro l x W' K hK
      gi_wp2
      exact hK
    case body =>
      rintro l pre x W' ⟨⟨ov, hb6, ho⟩, ⟨hG, hbs, hbm⟩, hB⟩ hpl
      have hxW : x.1 * W + W ≤ len := by
        have h1 := HLH.out
        have h2 := Nat.mul_le_mul_right W x.2
        rw [Nat.succ_mul] at h2
        omega
      have HNT := hidI (fun (w' : World) (hb : Blk w' G (lv W H L) 93) => numbersText_any L G (2 + x.1 * W) (x.1 * W) W W w' hw1 (by omega) (fun j hj => by
        have := (lcells hb).2.2 (x.1 * W + j) (by omega)
        rw [← this, Nat.add_assoc]) (fun j hj => HDG.out _ (by rw [HNN.out]; omega)))
      have HRP := hidI (show strV (rowsP L W pre) ++ [.string ⟨(rowT L (x.1 * W) W).toArray⟩] = strV (rowsP L W (pre ++ [x])) from by
        unfold rowsP
        rw [List.map_append, ← strV_append]
        rfl)
      obtain ⟨R, hR⟩ : ∃ R : ByteArray, R = ⟨(rowT L (x.1 * W) W).toArray⟩ := ⟨_, rfl⟩
      rw [← hR] at HNT HRP
      clear hR
      have c6 : W'.drew.cell? ⟨B6, 0, none⟩ = some ov := hb6.cell 0
      have kd : KeepsOthers W' W'.drew := ⟨Nat.le_refl _, fun _ _ h _ => h⟩
      have hb6d : Blk W'.drew B6 #[ov] 96 := hb6
      have hGd : Blk W'.drew G (lv W H L) 93 := hG
      have hsd : Blk W'.drew Bs #[.slice (some ⟨G, 2, none⟩) len 9] 34 := hbs
      have hmd : Blk W'.drew (Bs + 1) #[.int .i64 W] 3 := hbm
      have hod : W'.drew.ownsRow w.heap.size 9 1 ov pre.length (strV (rowsP L W pre)) := ho
      have gd : Gr w W'.drew := (show Gr w W' from hB).trans (Gr.refl W').drew
      refine wpIn_block ?_
      skip
      refine O_begin (OpenF.inRound l) (fun w' => w'.cell? ⟨B6, 0, none⟩ = some ov) 5 6 #[false, false, false, false, false, false] rfl rfl (by kernel_rfl) rfl (fun _ _ h => h) ?_
      generalize W'.drew = wd at *
      refine F_take (v := ov) 0 #[true, false, false, false, false, false] rfl (by kernel_rfl) (fun _ _ _ h => h) rfl (fun w hF => e_load 96 (.tmp 6) _ _ rfl (Tryd.isAgg96 _) hF) (c6) ?_; simp only [Act.put, List.setIfInBounds_toArray, List.set_cons_succ, List.set_cons_zero]
      refine F_free (v := .slice (some ⟨G, 2 + x.1 * W, Option.none⟩) W W) 1 #[true, true, false, false, false, false] rfl (by kernel_rfl) (fun _ _ _ h => h) rfl (fun _ => rfl) (c6) ?_; simp only [Act.put, List.setIfInBounds_toArray, List.set_cons_succ, List.set_cons_zero]
      refine F_one 2 #[true, true, true, false, false, false] rfl (by kernel_rfl) ?_
      refine r_call 53 [.tmp 22] _ [.slice (some ⟨G, 2 + x.1 * W, none⟩) W W] (.string R) (fun w' => Gr wd w') Tryd.call53 rfl rfl (HNT.out wd hGd) ?_
      intro w1 g1
      have c6 := g1.cell c6
      refine ⟨fun _ => c6, ?_⟩
      simp only [Act.put, List.setIfInBounds_toArray, List.set_cons_succ, List.set_cons_zero]
      refine F_one 3 #[true, true, true, true, false, false] rfl (by kernel_rfl) ?_
      refine r_slice1 96 9 (.tmp 23) (.string R) rfl (Tryd.bstrN _ _) rfl ?_
      intro w2 B2 N2
      have g2 := N2.gr
      have c6 := g2.cell c6
      have g12 := g1.trans g2
      have ho2 := g12.row hod
      have hb62 := g12.blk hb6d
      have hG2 := g12.blk hGd
      have hs2 := g12.blk hsd
      have hm2 := g12.blk hmd
      have z2 := (gd.trans g12).size
      have n6 := own_ne ho2 hb62 (by decide)
      have nG := own_ne ho2 hG2 (by decide)
      have ns := own_ne ho2 hs2 (by decide)
      have nm := own_ne ho2 hm2 (by decide)
      refine ⟨fun _ => c6, ?_⟩
      simp only [Act.put, List.setIfInBounds_toArray, List.set_cons_succ, List.set_cons_zero]
      refine F_one 4 #[true, true, true, true, true, false] rfl (by kernel_rfl) ?_
      refine r_append (.tmp 21) (.tmp 24) 96 9 _ 1 16 w.heap.size Tryd.strIN ov pre.length (strV (rowsP L W pre)) rfl ho2 ⟨B2, 0, none⟩ 1 1 [.string R] rfl rfl N2.cell1 (by intro u hu; simp at hu; subst hu; rfl) (by omega) (by decide) (by omega) rfl ?_
      intro v4 w4 own4 g4
      rw [HRP.out] at own4
      have hb64 := g4.blk hb62 n6
      have hG4 := g4.blk hG2 nG
      have hs4 := g4.blk hs2 ns
      have hm4 := g4.blk hm2 nm
      refine ⟨fun _ => hb64.cell 0, ?_⟩
      simp only [Act.put, List.setIfInBounds_toArray, List.set_cons_succ, List.set_cons_zero]
      refine F_one 5 #[true, true, true, true, true, true] rfl (by kernel_rfl) ?_
      have n64 := own_ne own4 hb64 (by decide)
      have nG6 := blk_neC hG4 hb64 (by decide)
      have ns6 := blk_neC hs4 hb64 (by decide)
      have nm6 := blk_neC hm4 hb64 (by decide)
      refine r_store_cell 96 96 (.tmp 6) (.tmp 25) B6 0 rfl v4 rfl _ hb64 (by show 0 < 1; decide) Tryd.sizeOf96 (own_one own4) rfl ?_
      intro w5 u5 b65
      refine ⟨fun h => (by cases h), ?_⟩
      refine F_done (by kernel_rfl) ?_
      have hs5 := u5.blk hs4 ns6
      have hm5 := u5.blk hm4 nm6
      refine ⟨((((kd.trans g1.othersC).trans g2.othersC).trans (g4.othersC ho2)).trans (u5.othersC hb64)).from _, ⟨fun c hc => (hs5.cell 0).trans ((hbs.cell 0).symm.trans hc), fun c hc => (hm5.cell 0).trans ((hbm.cell 0).symm.trans hc)⟩, ⟨v4, b65, ?_⟩, ⟨u5.blk hG4 nG6, hs5, hm5⟩, ?_⟩
      · rw [List.length_append]
        exact u5.row own4 n64
      · exact u5.gr (g4.gr (gd.trans g12) (own_gr ho2 (Nat.le_refl _))) lo6
    case done =>
      rintro D ys W' hD hys ⟨⟨ov, hb6, ho⟩, ⟨hG, hbs, hbm⟩, hB⟩ hK
      have hyl : ys.length = H := by rw [← List.length_map (f := fun x : CX H => x.1), hys, List.length_range]
      have hyr : rowsP L W ys = rowsT L W H := by
        unfold rowsP rowsT
        rw [← hys, List.map_map]
        rfl
      rw [hyl, hyr] at ho
      have HJ := hidI (joinRow_any (rowsT L W H) 47 ov w.heap.size W' (by rw [rowsT_length]; exact ho) (by rw [rowsT_length]; exact hh1) (by
        have := brdT_le L W H
        unfold brdT at this
        have h2 : H * (W * 2 + 1) ≤ 3 * (3 * 2 + 1) := Nat.mul_le_mul hh3 (by omega)
        omega) (by rw [rowsT_length]; omega))
      have HJ := hidI (show Calls Tryd.prog 54 #[ov, .string ⟨#[47]⟩] W' (Ret (.string (btS W L)) W') from by rw [HV.out.1]; exact HJ.out)
      go_wp2_with (first | (refine r_ldc 96 (.tmp 6) ⟨B6, 0, none⟩ ov rfl (Tryd.isAgg96 _) (hb6.cell 0) rfl ?_) | (go_at_call 54; refine HJ.out.mono ?_; rintro e w8 ⟨rfl, g8⟩; have hK := g8.keep hK; have hB := (show Gr w W' from hB).trans g8))
      refine ⟨by simp, .inl ⟨_, _, rfl, run_takeDeferred hK, ?_⟩⟩
      have hgr : Gr w (w8.putObj D (.deferred none)) := (⟨grownBy_putObj' w8 D _⟩ : Grb (some D) w8 (w8.putObj D (.deferred none))).gr hB (fun k e => by
        obtain rfl := Option.some.inj e
        omega)
      exact ⟨.tuple #[.string (btS W L), .bool true], by simp [results, Tryd.f26, go_sem], by rw [HV.out.2], hgr⟩
    case stop =>
      rintro D c pre W' _ _ h _
      exact h.elim
  · have hok : bdOk z L = false := by simpa using hok
    have HV := hidI (show (⟨#[]⟩ : ByteArray) = btS z L ∧ false = bdOk z L from ⟨(btS_bad hok).symm, hok.symm⟩)
    have HR := hidI (fun w' (ho : w'.ownsRow base 3 1 v L.length (intsV L)) => show Calls Tryd.prog 50 #[.agg (bv z v)] w' (Ret (.tuple #[.agg (lv 0 0 []), .bool false]) w') from by
      have := readBoard_any z L v base w' ho hl
      rwa [rdV_bad hok, hok] at this)
    clear hok
    go_enter Tryd.func26, Tryd.ntmps26
    go_wp2_with (first | (refine r_box 45 _ (bv (z) (v)) rfl rfl ?_; intro w1 B1 N1; have g1 := N1.gr; have b1 : Blk w1 B1 (bv (z) (v)) 45 := N1.blk; have l1 := N1.lo; have t1 := N1.hi; have z1 := g1.size; have gg := gg.trans g1; clear N1; obtain ⟨b1_0, b1_1⟩ := bcells b1) | (refine r_load_row 45 _ _ rfl _ _ _ b1 Tryd.underlying45 rfl Tryd.ibinfo rfl ?_) | (go_at_call 50; refine (HR.out _ (g1.row hown)).mono ?_; rintro e w2 ⟨rfl, g2⟩; have gg := gg.trans g2; have z2 := g2.size) | (refine r_alloc (dst := some 4) 93 _ Tryd.lzero rfl ?_; intro w4 B4 N4; have g4 := N4.gr; have b4 : Blk w4 B4 (lv 0 0 []) 93 := N4.blk; have l4 := N4.lo; have t4 := N4.hi; have z4 := g4.size; have gg := gg.trans g4; clear N4; obtain ⟨b4_0, b4_1, b4_2⟩ := lcells b4) | (refine r_store_row 93 93 _ _ _ rfl (lv (0) (0) ([])) _ rfl b4 (Tryd.lsize' _ _ _) (by simp only [lv_size]) (lv_one _ _ _) rfl ?_; intro w5 u5 b4'; have z5 := u5.size; have gg := u5.gr gg (by omega); clear b4; have b4 := b4'; clear b4'; obtain ⟨b4_0, b4_1, b4_2⟩ := lcells b4))
    go_ret2
    exact ⟨ret_bt HV.out.1 HV.out.2, gg⟩
end Go.Proofs.YtdebiobhmpoiiaaDoor
