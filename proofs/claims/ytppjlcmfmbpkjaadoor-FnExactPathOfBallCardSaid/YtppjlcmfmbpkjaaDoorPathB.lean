/-
  The cells of a ball before and behind each tilt of a word: in the program and in the model, and the law.
-/
import Derived.Test.YtppjlcmfmbpkjaaDoorTiltY
import Derived.Test.YtppjlcmfmbpkjaaDoorPlace
namespace Go.Proofs.YtppjlcmfmbpkjaaDoor
open Go.RowKit
def poX (g : Grid) (b : UInt8) (s : ByteArray) (j : Nat) : Int := ixC (runG ((wds s).take j) g).c b 36
def poT (g : Grid) (b : UInt8) (s : ByteArray) (j : Nat) : List Int := (List.range (j + 1)).map (poX g b s)
theorem poT_succ (g : Grid) (b : UInt8) (s : ByteArray) (j : Nat) : poT g b s (j + 1) = poT g b s j ++ [poX g b s (j + 1)] := by
  unfold poT
  rw [List.range_succ, List.map_append]
  rfl
theorem poT_length (g : Grid) (b : UInt8) (s : ByteArray) (j : Nat) : (poT g b s j).length = j + 1 := by simp [poT]
theorem poT_zero (g : Grid) (b : UInt8) (s : ByteArray) : poT g b s 0 = [ixC g.c b 36] := rfl
def poOk (l : List UInt8) (n v : ByteArray) : Bool := rdOk l && nameS n && wordB v && decide (0 ≤ ixC (rdG l).c (hd n) 36)
def poL (l : List UInt8) (n v : ByteArray) : List Int := if poOk l n v then poT (rdG l) (hd n) v v.size else []
theorem po_no {l : List UInt8} {n v : ByteArray} (h : poOk l n v = false) : poL l n v = [] := by unfold poL; rw [h]; rfl
theorem poL_le (l : List UInt8) (n v : ByteArray) : (poL l n v).length ≤ 41 := by
  unfold poL
  cases h : poOk l n v
  · exact Nat.zero_le _
  · rw [if_pos rfl, poT_length]
    unfold poOk at h
    rw [Bool.and_eq_true, Bool.and_eq_true] at h
    have := (wordB_iff.1 h.1.2).1
    omega
theorem ixC_ge (c : List UInt8) (b : UInt8) (n : Nat) : -1 ≤ ixC c b n ∧ ixC c b n ≤ n := by
  rcases ixC_cases c b n with ⟨h, -⟩ | ⟨k, hk, h, -, -⟩ <;> omega
def RetP (T : TypeId) (L : List Int) (ok : Bool) (w : World) (e : Ending) (w' : World) : Prop :=
  Gr w w' ∧ ∃ v, e = .returned (.tuple #[v, .bool ok]) ∧ w'.ownsRow w.heap.size T 1 v L.length (intsV L)
theorem byte_at {s : ByteArray} {j : Nat} (h : j < s.size) : s[j]'h = at0 s.data.toList j := by
  rw [ByteArray.getElem_eq_getElem_data]
  show _ = s.data.toList.getD j 0
  rw [List.getD_eq_getElem?_getD, List.getElem?_eq_getElem (by rw [show s.data.toList.length = s.size from Array.length_toList]; exact h)]
  simp
theorem nameB_iff {b : UInt8} : isNameB b = true ↔ 97 ≤ (b.toNat : Int) ∧ (b.toNat : Int) ≤ 102 := by
  unfold isNameB
  rw [Bool.and_eq_true, decide_eq_true_eq, decide_eq_true_eq, UInt8.le_iff_toNat_le, UInt8.le_iff_toNat_le]
  have h1 : (97 : UInt8).toNat = 97 := rfl
  have h2 : (102 : UInt8).toNat = 102 := rfl
  omega
theorem own_neF {w : World} {base : Nat} {e : TypeId} {size : Nat} {v : Value} {n : Nat} {xs : List Value} (hr : w.ownsRow base e size v n xs) {B : Nat} {cs : Array Value} {T : TypeId} {fr : Nat × Nat} (hB : w.heap[B]? = some (.cells cs T fr)) (hT : T ≠ e) : v.ownBlock ≠ some B := by
  obtain ⟨_, ⟨rfl, _⟩ | ⟨g, cap, cur, rfl, _, hg, _⟩⟩ := hr
  · intro h; cases h
  · intro h
    obtain rfl : g = B := by simpa [Value.ownBlock] using h
    rw [hB] at hg
    injection hg with hg
    injection hg with _ he _
    exact hT he
set_option maxHeartbeats 4000000 in
set_option maxRecDepth 100000 in
theorem iPathOfBall (s n v : ByteArray) (w : World) (hm : ML w) (hs : s.size ≤ 1048576) : Calls Tryd.prog 34 #[.string s, .string n, .string v] w (RetP 3 (poL s.data.toList n v) (poOk s.data.toList n v) w) := by
  have gg := Gr.refl w
  have none (h : poOk s.data.toList n v = false) : ∀ w', Gr w w' → RetP 3 (poL s.data.toList n v) (poOk s.data.toList n v) w (.returned (.tuple #[.slice none 0 0, .bool false])) w' := fun w' g => ⟨g, .slice none 0 0, by rw [h], by rw [po_no h]; exact World.ownsRow_nil _ _ _ _⟩
  have NONE := hidI none
  clear none
  rcases rd_cases s.data.toList with ⟨hg, hp, hk⟩ | ⟨g, hp, hg, hk⟩
  · have HY := hidI (show poOk s.data.toList n v = false from by unfold poOk; rw [hk]; rfl)
    have HK := hidI hk
    clear hg hp hk
    go_enter Tryd.func34, Tryd.ntmps34
    go_wp2_with (first | (go_at_call 54; refine (readTray_any s _ (gg.ml hm) hs).mono ?_; rintro e w1 ⟨rfl, g1⟩; rw [HK.out]; have z1 := g1.size; have gg := gg.trans g1) | (refine r_alloc 53 _ Tryd.gzero rfl ?_; intro w2 B2 N2; have g2 := N2.gr; have b2 : Blk w2 B2 (gv 0 0 []) 53 := N2.blk; have l2 := N2.lo; have t2 := N2.hi; have z2 := g2.size; have gg := gg.trans g2; clear N2; obtain ⟨b2_0, b2_1, b2_2⟩ := gcells b2) | (refine r_store_row 53 53 _ _ _ rfl (gv _ _ _) _ rfl b2 (Tryd.gsize' _ _ _) (by simp only [gv_size]) (gv_one _ _ _) rfl ?_; intro w3 u3 b2'; have z3 := u3.size; have gg := u3.gr gg (by omega); clear b2; have b2 := b2'; clear b2'; obtain ⟨b2_0, b2_1, b2_2⟩ := gcells b2))
    go_ret2
    exact NONE.out HY.out _ gg
  · have HK := hidI hk
    have HG := hidI hg
    by_cases hn : nameS n = true
    · have hn' := hn
      unfold nameS at hn'
      rw [Bool.and_eq_true, decide_eq_true_eq] at hn'
      have hone := one_of n hn'.1
      obtain ⟨b, hb⟩ : ∃ b, hd n = b := ⟨_, rfl⟩
      rw [hb] at hone
      have hbn := hn'.2
      subst hone
      have HO := hidI hn
      by_cases hv : wordB v = true
      · have HW := hidI hv
        have h40 := (wordB_iff.1 hv).1
        obtain ⟨hc, -, -, -⟩ := cel_of hp
        have HYE := hidI (show poOk s.data.toList ⟨#[b]⟩ v = decide (0 ≤ ixC g.c b 36) from by unfold poOk; rw [hk, hn, hv, hg, hb]; rfl)
        have HLE := hidI (show decide (0 ≤ ixC g.c b 36) = true → poL s.data.toList ⟨#[b]⟩ v = poT g b v v.size from fun h => by unfold poL; rw [HYE.out, h, hg, hb]; rfl)
        have HAT := hidI (fun j (hj : j < v.size) => wds_at hv hj)
        have HC := hidI (fun j => hc.run ((wds v).take j) (fun d hd => wds_lt hv d (List.mem_of_mem_take hd)))
        have HRW := hidI (fun j => runG_w ((wds v).take j) g)
        have hvl : v.data.toList.length = v.size := Array.length_toList
        have hix := fun w => s_idx0 (P := Tryd.prog) Tryd.underlying9 b w
        clear hg hp hk hn hv hn' hc hb
        go_enter Tryd.func34, Tryd.ntmps34
        go_wp2_with (first | (go_at_call 54; refine (readTray_any s _ (gg.ml hm) hs).mono ?_; rintro e w1 ⟨rfl, g1⟩; rw [HK.out, HG.out, gvG]; have z1 := g1.size; have gg := gg.trans g1) | (refine r_alloc 53 _ Tryd.gzero rfl ?_; intro w2 B2 N2; have g2 := N2.gr; have b2 : Blk w2 B2 (gv 0 0 []) 53 := N2.blk; have l2 := N2.lo; have t2 := N2.hi; have z2 := g2.size; have gg := gg.trans g2; clear N2; obtain ⟨b2_0, b2_1, b2_2⟩ := gcells b2) | (refine r_store_row 53 53 _ _ _ rfl (gv g.w g.h g.c) _ rfl b2 (Tryd.gsize' _ _ _) (by simp only [gv_size]) (gv_one _ _ _) rfl ?_; intro w3 u3 b2'; have z3 := u3.size; have gg := u3.gr gg (by omega); clear b2; have b2 := b2'; clear b2'; obtain ⟨b2_0, b2_1, b2_2⟩ := gcells b2) | (go_at_call 65; refine (isName_any _ _).mono ?_; rintro e wSame ⟨rfl, rfl⟩; rw [HO.out]) | (go_at_call 66; refine (iIsWord v _).mono ?_; rintro e w4 ⟨rfl, g4⟩; rw [HW.out]; have z4 := g4.size; have b2 := g4.blk b2; obtain ⟨b2_0, b2_1, b2_2⟩ := gcells b2; have gg := gg.trans g4))
        refine q_begin 5 (by kernel_rfl) (by kernel_rfl) ?_; simp only [List.take_succ_cons, List.take_zero, List.drop_succ_cons, List.drop_zero]
        refine q_take (.pointer (some ⟨B2, 2, none⟩)) rfl (fun w' hw' => e_val _ _ (Tryd.gf2 B2 _)) ?_; simp only [Act.put, List.setIfInBounds_toArray, List.set_cons_succ, List.set_cons_zero]
        refine q_take (.slice (some ⟨B2, 2, none⟩) 36 36) rfl (fun w' hw' => e_val _ _ (Tryd.gall B2 _)) ?_; simp only [Act.put, List.setIfInBounds_toArray, List.set_cons_succ, List.set_cons_zero]
        refine q_move _ (.string ⟨#[b]⟩) rfl rfl ?_; simp only [Act.put, List.setIfInBounds_toArray, List.set_cons_succ, List.set_cons_zero]
        refine q_take (.int .u8 b.toNat) rfl (fun w' hw' => e_val _ _ (s_idx0 Tryd.underlying9 b _)) ?_; simp only [Act.put, List.setIfInBounds_toArray, List.set_cons_succ, List.set_cons_zero]
        refine q_call 67 [.tmp 32, .tmp 34] _ [.slice (some ⟨B2, 2, none⟩) 36 36, .int .u8 b.toNat] (.int .i64 (ixC g.c b 36)) Tryd.call67 rfl rfl (fun w' hw' => ((index_any B2 g.w g.h g.c b w' (hw'.blk b2)).mono fun e w'' h => ⟨h.1, hw'.trans h.2⟩)) ?_; simp only [Act.put, List.setIfInBounds_toArray, List.set_cons_succ, List.set_cons_zero]
        refine wpQuiet_nil ?_; intro w6 g6; have z6 := g6.size; have b2 := g6.blk b2; obtain ⟨b2_0, b2_1, b2_2⟩ := gcells b2; have gg := gg.trans g6
        obtain ⟨hge, hle⟩ := ixC_ge g.c b 36
        obtain ⟨x0, hx0⟩ : ∃ x0, x0 = ixC g.c b 36 := ⟨_, rfl⟩
        rw [← hx0] at hge hle HYE HLE ⊢
        by_cases hneg : x0 < 0
        · have HY := hidI (show poOk s.data.toList ⟨#[b]⟩ v = false from by rw [HYE.out]; exact decide_eq_false (by omega))
          clear hx0
          go_wp2
          go_ret2
          exact NONE.out HY.out _ gg
        · have HY := hidI (show poOk s.data.toList ⟨#[b]⟩ v = true from by rw [HYE.out]; exact decide_eq_true (by omega))
          have HV := hidI (HLE.out (decide_eq_true (by omega)))
          have HP0 := hidI (show poT g b v 0 = [x0] from by rw [poT_zero, hx0])
          have hn0 : ¬ x0 < 0 := hneg
          clear hx0 hneg
          go_wp2_with (first | (refine r_slice1 34 3 (.tmp 38) (.int .i64 x0) rfl (Tryd.bsi1 _ _) rfl ?_; intro w7 B7 N7; have g7 := N7.gr; have own7 := own1_new N7; have b2 := g7.blk b2; have gg := gg.trans g7; have z7 := g7.size) | (refine r_bytes 9 44 5 _ v rfl Tryd.underlying9 Tryd.underlying44 Tryd.underlying5 rfl ?_; intro w8 B8 cap8 g8 l8 b8 hcap8; have z8 := g8.size; have gg := gg.trans g8; have b2 := g8.blk b2; have own7 := g8.row own7))
          obtain ⟨cs, fr, hb8, -, -, hcs⟩ := b8
          have HCS := hidI hcs
          have lo2 : w.heap.size ≤ B2 := by omega
          have t8 := Gr.lt hb8
          have own0 : w8.ownsRow w6.heap.size 3 1 (.slice (some ⟨B7, 0, none⟩) 1 1) (poT g b v 0).length (intsV (poT g b v 0)) := by rw [HP0.out]; exact own7
          have b20 : Blk w8 B2 (gv g.w g.h (runG ((wds v).take 0) g).c) 53 := b2
          clear hcs own7 b2
          go_loopw [11, 43] (fun pv iv wr => ∃ j : Nat, j ≤ v.size ∧ iv = .int .i64 j ∧ Blk wr B2 (gv g.w g.h (runG ((wds v).take j) g).c) 53 ∧ wr.heap[B8]? = some (.cells cs 5 fr) ∧ wr.ownsRow w6.heap.size 3 1 pv (poT g b v j).length (intsV (poT g b v j)) ∧ Gr w wr ∧ w6.heap.size ≤ wr.heap.size) (fun _ iv _ => v.size - (intOf iv).toNat)
          case atStart => exact ⟨0, Nat.zero_le _, rfl, b20, hb8, own0, gg, by omega⟩
          case round =>
            obtain ⟨j, hj, rfl, b2, hb8, own, gg, zs⟩ := hrel
            by_cases hlt : j < v.size
            · obtain ⟨d, h4, hat, -, -, htk⟩ := HAT.out j hlt
              have hcd : wr.cell? ⟨B8, j, none⟩ = some (.int .u8 (dB d).toNat) := by
                rw [cell_of_row wr B8 j cs 5 fr hb8, HCS.out j (by omega), hat]; rfl
              have hixx := Tryd.six0 B8 v.size cap8 j hlt
              obtain ⟨q, hq⟩ : ∃ q, q = runG ((wds v).take j) g := ⟨_, rfl⟩
              have hcq := HC.out j
              obtain ⟨hw, hh⟩ := HRW.out j
              have hcS := HC.out (j + 1)
              rw [← hq] at hcq hw hh b2
              have hgq : gv g.w g.h q.c = gvG q := by unfold gvG; rw [hw, hh]
              have hS : gvG (runG [d] q) = gv g.w g.h (runG ((wds v).take (j + 1)) g).c := by
                rw [runG_take g htk, ← hq]
                show gv (tiltG d q).w (tiltG d q).h (tiltG d q).c = _
                show gv q.w q.h (tiltG d q).c = _
                rw [hw, hh]
              rw [hgq] at b2
              have HS := hidI hS
              have HCQ := hidI hcq
              have HDS := hidI (show ∀ e ∈ [d], e < 4 from by simpa using h4)
              have hpl := poT_length g b v j
              have HPS := hidI (poT_succ g b v j)
              have HPX := hidI (show poX g b v (j + 1) = ixC (runG ((wds v).take (j + 1)) g).c b 36 from rfl)
              have HWA := hidI (fun (w w' : World) (B : Nat) (e : TypeId) (h : New w w' B #[.int .u8 (dB d).toNat] e) => one_word h)
              obtain ⟨c1, hc1⟩ : ∃ c1, c1 = (runG ((wds v).take (j + 1)) g).c := ⟨_, rfl⟩
              rw [← hc1] at HS HPX
              have HC1 := hidI hc1
              clear hat htk hq hcq hw hh hcS hgq hS hc1
              generalize dB d = db at *
              go_wp2_with (first | (refine r_load_row 53 _ _ rfl _ _ _ b2 Tryd.underlying53 rfl (Tryd.ginfo' _ _ _) rfl ?_) | (refine r_slice1 44 5 (.tmp 48) (.int .u8 db.toNat) rfl (Tryd.bs1 _ _) rfl ?_; intro wa Ba Na; have WA := HWA.out _ _ _ _ Na; have ga := Na.gr; have b2 := ga.blk b2; have hb8 := ga.keep hb8; have own := ga.row own; have gg := gg.trans ga; have za := ga.size) | (go_at_call 47; refine (tilted_any q [d] _ _ HCQ.out HDS.out WA (by simp)).mono ?_; rintro e wb ⟨rfl, gb⟩; rw [HS.out]; have b2 := gb.blk b2; have hb8 := gb.keep hb8; have own := gb.row own; have gg := gg.trans gb; have zb := gb.size) | (refine r_store_row 53 53 _ _ B2 rfl (gv g.w g.h c1) _ rfl b2 (Tryd.gsize' _ _ _) (by simp only [gvG, gv_size]) (gv_one _ _ _) rfl ?_; intro wc uc b2c))
              have hb8 := uc.grb.keep hb8 (by intro h; cases h; exact absurd hb8 (by rw [show wb.heap[B2]? = _ from b2]; intro h; cases h))
              have ownc := uc.row own (own_ne own b2 (by decide))
              have gg := uc.gr gg lo2
              have zc := uc.size
              clear own b2
              have gdr := (Gr.refl wc).drew
              have b2 := gdr.blk b2c
              have hb8 := gdr.keep hb8
              have own := gdr.row ownc
              have gg := gg.trans gdr
              have zd := gdr.size
              clear b2c ownc
              refine F_begin (fun w => Blk w B2 (gv g.w g.h c1) 53) 8 9 #[false, false, false, false, false, false, false, false, false] rfl (by kernel_rfl) (by kernel_rfl) ?_
              generalize wc.drew = wd at *
              refine F_free (v := u11) 0 #[true, false, false, false, false, false, false, false, false] rfl (by kernel_rfl) (fun _ _ _ h => h) rfl (fun _ => rfl) (b2) ?_; simp only [Act.put, List.setIfInBounds_toArray, List.set_cons_succ, List.set_cons_zero]
              refine F_free (v := .pointer (some ⟨B2, 2, none⟩)) 1 #[true, true, false, false, false, false, false, false, false] rfl (by kernel_rfl) (fun _ _ _ h => h) rfl (fun _ => e_val _ _ (Tryd.gf2 B2 _)) (b2) ?_; simp only [Act.put, List.setIfInBounds_toArray, List.set_cons_succ, List.set_cons_zero]
              refine F_free (v := .slice (some ⟨B2, 2, none⟩) 36 36) 2 #[true, true, true, false, false, false, false, false, false] rfl (by kernel_rfl) (fun _ _ _ h => h) rfl (fun _ => e_val _ _ (Tryd.gall B2 _)) (b2) ?_; simp only [Act.put, List.setIfInBounds_toArray, List.set_cons_succ, List.set_cons_zero]
              refine F_free (v := .string ⟨#[b]⟩) 3 #[true, true, true, true, false, false, false, false, false] rfl (by kernel_rfl) (fun _ _ _ h => h) rfl (fun _ => rfl) (b2) ?_; simp only [Act.put, List.setIfInBounds_toArray, List.set_cons_succ, List.set_cons_zero]
              refine F_free (v := .int .u8 b.toNat) 4 #[true, true, true, true, true, false, false, false, false] rfl (by kernel_rfl) (fun _ _ _ h => h) rfl (fun _ => e_val _ _ (s_idx0 Tryd.underlying9 b _)) (b2) ?_; simp only [Act.put, List.setIfInBounds_toArray, List.set_cons_succ, List.set_cons_zero]
              refine F_one 5 #[true, true, true, true, true, true, false, false, false] rfl (by kernel_rfl) ?_
              refine r_call 67 [.tmp 53, .tmp 55] _ [.slice (some ⟨B2, 2, none⟩) 36 36, .int .u8 b.toNat] (.int .i64 (ixC c1 b 36)) (fun w' => Gr wd w') Tryd.call67 rfl rfl (index_any B2 g.w g.h c1 b wd b2) ?_
              intro wi gi
              have b2 := gi.blk b2
              have hb8 := gi.keep hb8
              have own := gi.row own
              have gg := gg.trans gi
              have zi := gi.size
              rw [← HPX.out]
              refine ⟨fun _ => b2, ?_⟩
              simp only [Act.put, List.setIfInBounds_toArray, List.set_cons_succ, List.set_cons_zero]
              refine F_one 6 #[true, true, true, true, true, true, true, false, false] rfl (by kernel_rfl) ?_
              refine r_slice1 34 3 (.tmp 56) (.int .i64 (poX g b v (j + 1))) rfl (Tryd.bsi1 _ _) rfl ?_
              intro we Be Ne
              have ge := Ne.gr
              have own := ge.row own
              have b2 := ge.blk b2
              have hb8 := ge.keep hb8
              have gg := gg.trans ge
              have ze := ge.size
              refine ⟨fun _ => b2, ?_⟩
              simp only [Act.put, List.setIfInBounds_toArray, List.set_cons_succ, List.set_cons_zero]
              refine F_one 7 #[true, true, true, true, true, true, true, true, false] rfl (by kernel_rfl) ?_
              refine r_append (.tmp 51) (.tmp 57) 34 3 _ 1 8 w6.heap.size Tryd.intsI _ _ (intsV (poT g b v j)) rfl own ⟨Be, 0, none⟩ 1 1 [.int .i64 (poX g b v (j + 1))] rfl rfl Ne.cell1 (by intro u hu; simp at hu; subst hu; rfl) (by omega) (by decide) (by omega) rfl ?_
              intro vf wf ownf gf
              refine ⟨fun _ => gf.blk b2 (own_ne own b2 (by decide)), ?_⟩
              simp only [Act.put, List.setIfInBounds_toArray, List.set_cons_succ, List.set_cons_zero]
              refine F_one 8 #[true, true, true, true, true, true, true, true, true] rfl (by kernel_rfl) ?_
              refine r_val vf rfl rfl ?_
              simp only [Act.put, List.setIfInBounds_toArray, List.set_cons_succ, List.set_cons_zero]
              refine ⟨fun h => (by cases h), ?_⟩
              refine F_done (by kernel_rfl) ?_
              go_wp2
              have ownF : wf.ownsRow w6.heap.size 3 1 vf (poT g b v (j + 1)).length (intsV (poT g b v (j + 1))) := by
                rw [HPS.out, List.length_append, ← intsV_append]
                exact ownf
              rw [HC1.out] at b2
              go_roundw
              case rel => exact ⟨j + 1, by omega, by go_num, gf.blk b2 (own_ne own b2 (by decide)), gf.keep hb8 (own_neF own hb8 (by decide)), ownF, gf.gr gg (own_gr own (by omega)), by have := gf.size; omega⟩
              case measure => simp [intOf]; omega
            · obtain rfl : j = v.size := by omega
              clear hlt
              go_wp2
              go_ret2
              exact ⟨gg, u11, by rw [HY.out]; rfl, by rw [HV.out]; exact own_up own (by omega)⟩
      · have HW := hidI (show wordB v = false from by simpa using hv)
        have HY := hidI (show poOk s.data.toList ⟨#[b]⟩ v = false from by unfold poOk; rw [HW.out, Bool.and_false, Bool.false_and])
        clear hg hp hk hn hv hn' hb
        go_enter Tryd.func34, Tryd.ntmps34
        go_wp2_with (first | (go_at_call 54; refine (readTray_any s _ (gg.ml hm) hs).mono ?_; rintro e w1 ⟨rfl, g1⟩; rw [HK.out, HG.out, gvG]; have z1 := g1.size; have gg := gg.trans g1) | (refine r_alloc 53 _ Tryd.gzero rfl ?_; intro w2 B2 N2; have g2 := N2.gr; have b2 : Blk w2 B2 (gv 0 0 []) 53 := N2.blk; have l2 := N2.lo; have t2 := N2.hi; have z2 := g2.size; have gg := gg.trans g2; clear N2; obtain ⟨b2_0, b2_1, b2_2⟩ := gcells b2) | (refine r_store_row 53 53 _ _ _ rfl (gv g.w g.h g.c) _ rfl b2 (Tryd.gsize' _ _ _) (by simp only [gv_size]) (gv_one _ _ _) rfl ?_; intro w3 u3 b2'; have z3 := u3.size; have gg := u3.gr gg (by omega); clear b2; have b2 := b2'; clear b2'; obtain ⟨b2_0, b2_1, b2_2⟩ := gcells b2) | (go_at_call 65; refine (isName_any _ _).mono ?_; rintro e wSame ⟨rfl, rfl⟩; rw [HO.out]) | (go_at_call 66; refine (iIsWord v _).mono ?_; rintro e w4 ⟨rfl, g4⟩; rw [HW.out]; have z4 := g4.size; have b2 := g4.blk b2; obtain ⟨b2_0, b2_1, b2_2⟩ := gcells b2; have gg := gg.trans g4))
        go_ret2
        exact NONE.out HY.out _ gg
    · have HO := hidI (show nameS n = false from by simpa using hn)
      have HY := hidI (show poOk s.data.toList n v = false from by unfold poOk; rw [HO.out, Bool.and_false, Bool.false_and, Bool.false_and])
      clear hg hp hk hn
      go_enter Tryd.func34, Tryd.ntmps34
      go_wp2_with (first | (go_at_call 54; refine (readTray_any s _ (gg.ml hm) hs).mono ?_; rintro e w1 ⟨rfl, g1⟩; rw [HK.out, HG.out, gvG]; have z1 := g1.size; have gg := gg.trans g1) | (refine r_alloc 53 _ Tryd.gzero rfl ?_; intro w2 B2 N2; have g2 := N2.gr; have b2 : Blk w2 B2 (gv 0 0 []) 53 := N2.blk; have l2 := N2.lo; have t2 := N2.hi; have z2 := g2.size; have gg := gg.trans g2; clear N2; obtain ⟨b2_0, b2_1, b2_2⟩ := gcells b2) | (refine r_store_row 53 53 _ _ _ rfl (gv g.w g.h g.c) _ rfl b2 (Tryd.gsize' _ _ _) (by simp only [gv_size]) (gv_one _ _ _) rfl ?_; intro w3 u3 b2'; have z3 := u3.size; have gg := u3.gr gg (by omega); clear b2; have b2 := b2'; clear b2'; obtain ⟨b2_0, b2_1, b2_2⟩ := gcells b2) | (go_at_call 65; refine (isName_any _ _).mono ?_; rintro e wSame ⟨rfl, rfl⟩; rw [HO.out]))
      go_ret2
      exact NONE.out HY.out _ gg
set_option maxHeartbeats 1000000 in
set_option maxRecDepth 100000 in
theorem tiPlace_any (W H : Int) (base : Nat) (c : List UInt8) (b : UInt8) (G cap : Nat) (w : World) (h36 : c.length ≤ 36) (hown : w.ownsRow base 5 1 (.slice (some ⟨G, 0, none⟩) c.length cap) c.length (cellsV c)) :
    Calls Tryd.prog 63 #[.agg (tg W H (.slice (some ⟨G, 0, none⟩) c.length cap)), .int .u8 b.toNat] w (Ret (.int .i64 (ixC c b c.length)) w) := by
  have gg := Gr.refl w
  go_enter Tryd.func63, Tryd.ntmps63
  go_wp2_with (refine r_box 46 _ (tg (W) (H) (.slice (some ⟨G, 0, none⟩) c.length cap)) rfl rfl ?_; intro w1 B1 N1; have g1 := N1.gr; have b1 : Blk w1 B1 (tg (W) (H) (.slice (some ⟨G, 0, none⟩) c.length cap)) 46 := N1.blk; have l1 := N1.lo; have t1 := N1.hi; have z1 := g1.size; have gg := gg.trans g1; clear N1; obtain ⟨b1_0, b1_1, b1_2⟩ := tcells b1)
  have own := g1.row hown
  go_loop [5, 6, 10] (fun _ _ i => ∃ k : Nat, k ≤ c.length ∧ i = .int .i64 k ∧ Hid (∀ j, j < k → at0 c j ≠ b)) (fun _ _ i => c.length - (intOf i).toNat)
  case atStart => exact ⟨0, Nat.zero_le _, rfl, fun j hj => by omega⟩
  case round =>
    obtain ⟨k, hk, rfl, HA⟩ := hrel
    by_cases hlt : k < c.length
    · have hck := own_cell own k hlt rfl
      have hix := Tryd.six0 G c.length cap k hlt
      by_cases hb : at0 c k = b
      · have e1 := beq_byte hb
        have HV := hidI (ixC_some hlt hb HA.out)
        clear hb
        go_wp2
        go_ret
        exact ⟨ret_int HV.out.symm, gg⟩
      · have e1 := bne_byte hb
        have HB := hidI hb
        clear hb
        go_wp2
        go_round
        case rel => exact ⟨k + 1, by omega, by go_num, fun j hj => if h : j < k then HA.out j h else by rw [show j = k by omega]; exact HB.out⟩
        case measure => simp [intOf]; omega
    · obtain rfl : k = c.length := by omega
      have HV := hidI (ixC_none HA.out)
      clear hlt
      go_wp2
      go_ret
      exact ⟨ret_int HV.out.symm, gg⟩
theorem e_lss8 {P : Program} {w : World} {a : Act} {dst : Option Tmp} {ty T yt : TypeId} {pos : String} {aft : Array Edge} {gd : Option (Nat × Bool)} {k : IntKind} (x y : Operand) (m n : Int) (v : Bool) (hx : a.eval x = .int k m) (hy : a.eval y = .int k n) (hv : decide (m < n) = v) :
    (execOp a.eval ⟨dst, .binOp .lss T x y yt, ty, pos, aft, gd⟩).run P w = .ok (.value (.bool v)) w := by
  subst hv
  unfold execOp
  simp [hx, hy, eqGuard, binOp, Op.intCmp]
theorem e_gtr8 {P : Program} {w : World} {a : Act} {dst : Option Tmp} {ty T yt : TypeId} {pos : String} {aft : Array Edge} {gd : Option (Nat × Bool)} {k : IntKind} (x y : Operand) (m n : Int) (v : Bool) (hx : a.eval x = .int k m) (hy : a.eval y = .int k n) (hv : decide (n < m) = v) :
    (execOp a.eval ⟨dst, .binOp .gtr T x y yt, ty, pos, aft, gd⟩).run P w = .ok (.value (.bool v)) w := by
  subst hv
  unfold execOp
  simp [hx, hy, eqGuard, binOp, Op.intCmp]
set_option maxHeartbeats 4000000 in
set_option maxRecDepth 100000 in
theorem sPathOfBall (s n v : ByteArray) (w : World) (hs : s.size ≤ 1048576) : Calls Tryd.prog 33 #[.string s, .string n, .string v] w (RetP 3 (poL s.data.toList n v) (poOk s.data.toList n v) w) := by
  have gg := Gr.refl w
  have none (h : poOk s.data.toList n v = false) : ∀ w', Gr w w' → RetP 3 (poL s.data.toList n v) (poOk s.data.toList n v) w (.returned (.tuple #[.slice none 0 0, .bool false])) w' := fun w' g => ⟨g, .slice none 0 0, by rw [h], by rw [po_no h]; exact World.ownsRow_nil _ _ _ _⟩
  have NONE := hidI none
  clear none
  go_enter Tryd.func33, Tryd.ntmps33
  go_wp2_with fail
  refine (tyRead_any s _ hs).mono ?_
  rintro e w1 ⟨g1, ⟨hp, rfl⟩ | ⟨g, sl, hp, rfl, hown⟩⟩
  · have HY := hidI (show poOk s.data.toList n v = false from by unfold poOk; rw [(rd_parse_none hp).2]; rfl)
    have z1 := g1.size
    have gg := gg.trans g1
    clear hp
    go_wp2_with (first | (refine r_alloc 46 _ Tryd.tzero rfl ?_; intro w2 B2 N2; have g2 := N2.gr; have b2 : Blk w2 B2 (tg 0 0 (.slice none 0 0)) 46 := N2.blk; have l2 := N2.lo; have t2 := N2.hi; have z2 := g2.size; have gg := gg.trans g2; clear N2; obtain ⟨b2_0, b2_1, b2_2⟩ := tcells b2) | (refine r_store_row 46 46 _ _ _ rfl (tg _ _ _) _ rfl b2 Tryd.tsize rfl (tg_one rfl) rfl ?_; intro w3 u3 b2'; have z3 := u3.size; have gg := u3.gr gg (by omega); clear b2; have b2 := b2'; clear b2'; obtain ⟨b2_0, b2_1, b2_2⟩ := tcells b2))
    refine q_whole (by kernel_rfl) (by kernel_rfl) ?_
    refine q_take (.bool false) rfl (fun w' hw' => by first | rfl | (unfold execOp; simp [go_sem, Act.eval])) ?_
    simp only [Act.put, List.setIfInBounds_toArray, List.set_cons_succ, List.set_cons_zero]
    refine q_take (.bool true) rfl (fun w' hw' => by first | rfl | (unfold execOp; simp [go_sem, Act.eval])) ?_
    simp only [Act.put, List.setIfInBounds_toArray, List.set_cons_succ, List.set_cons_zero]
    refine q_take (.bool true) rfl (fun w' hw' => by first | rfl | (unfold execOp; simp [go_sem, Act.eval])) ?_
    simp only [Act.put, List.setIfInBounds_toArray, List.set_cons_succ, List.set_cons_zero]
    refine BigFrame.wpQuiet_skip rfl ?_
    simp only [Act.put, List.setIfInBounds_toArray, List.set_cons_succ, List.set_cons_zero]
    refine BigFrame.wpQuiet_skip rfl ?_
    simp only [Act.put, List.setIfInBounds_toArray, List.set_cons_succ, List.set_cons_zero]
    refine BigFrame.wpQuiet_skip rfl ?_
    simp only [Act.put, List.setIfInBounds_toArray, List.set_cons_succ, List.set_cons_zero]
    refine q_take (.bool true) rfl (fun w' hw' => by first | rfl | (unfold execOp; simp [go_sem, Act.eval])) ?_
    simp only [Act.put, List.setIfInBounds_toArray, List.set_cons_succ, List.set_cons_zero]
    refine q_take (.bool true) rfl (fun w' hw' => by first | rfl | (unfold execOp; simp [go_sem, Act.eval])) ?_
    simp only [Act.put, List.setIfInBounds_toArray, List.set_cons_succ, List.set_cons_zero]
    refine BigFrame.wpQuiet_skip rfl ?_
    simp only [Act.put, List.setIfInBounds_toArray, List.set_cons_succ, List.set_cons_zero]
    refine BigFrame.wpQuiet_skip rfl ?_
    simp only [Act.put, List.setIfInBounds_toArray, List.set_cons_succ, List.set_cons_zero]
    refine BigFrame.wpQuiet_skip rfl ?_
    simp only [Act.put, List.setIfInBounds_toArray, List.set_cons_succ, List.set_cons_zero]
    refine q_take (.bool true) rfl (fun w' hw' => by first | rfl | (unfold execOp; simp [go_sem, Act.eval])) ?_
    simp only [Act.put, List.setIfInBounds_toArray, List.set_cons_succ, List.set_cons_zero]
    refine q_take (.bool true) rfl (fun w' hw' => by first | rfl | (unfold execOp; simp [go_sem, Act.eval])) ?_
    simp only [Act.put, List.setIfInBounds_toArray, List.set_cons_succ, List.set_cons_zero]
    refine BigFrame.wpQuiet_skip rfl ?_
    simp only [Act.put, List.setIfInBounds_toArray, List.set_cons_succ, List.set_cons_zero]
    refine BigFrame.wpQuiet_skip rfl ?_
    simp only [Act.put, List.setIfInBounds_toArray, List.set_cons_succ, List.set_cons_zero]
    refine BigFrame.wpQuiet_skip rfl ?_
    simp only [Act.put, List.setIfInBounds_toArray, List.set_cons_succ, List.set_cons_zero]
    refine q_take (.bool true) rfl (fun w' hw' => by first | rfl | (unfold execOp; simp [go_sem, Act.eval])) ?_
    simp only [Act.put, List.setIfInBounds_toArray, List.set_cons_succ, List.set_cons_zero]
    refine q_take (.bool true) rfl (fun w' hw' => by first | rfl | (unfold execOp; simp [go_sem, Act.eval])) ?_
    simp only [Act.put, List.setIfInBounds_toArray, List.set_cons_succ, List.set_cons_zero]
    refine BigFrame.wpQuiet_skip rfl ?_
    simp only [Act.put, List.setIfInBounds_toArray, List.set_cons_succ, List.set_cons_zero]
    refine BigFrame.wpQuiet_skip rfl ?_
    simp only [Act.put, List.setIfInBounds_toArray, List.set_cons_succ, List.set_cons_zero]
    refine BigFrame.wpQuiet_skip rfl ?_
    simp only [Act.put, List.setIfInBounds_toArray, List.set_cons_succ, List.set_cons_zero]
    refine q_take (.bool true) rfl (fun w' hw' => by first | rfl | (unfold execOp; simp [go_sem, Act.eval])) ?_
    simp only [Act.put, List.setIfInBounds_toArray, List.set_cons_succ, List.set_cons_zero]
    refine q_take (.bool true) rfl (fun w' hw' => by first | rfl | (unfold execOp; simp [go_sem, Act.eval])) ?_
    simp only [Act.put, List.setIfInBounds_toArray, List.set_cons_succ, List.set_cons_zero]
    refine BigFrame.wpQuiet_skip rfl ?_
    simp only [Act.put, List.setIfInBounds_toArray, List.set_cons_succ, List.set_cons_zero]
    refine BigFrame.wpQuiet_skip rfl ?_
    simp only [Act.put, List.setIfInBounds_toArray, List.set_cons_succ, List.set_cons_zero]
    refine BigFrame.wpQuiet_skip rfl ?_
    simp only [Act.put, List.setIfInBounds_toArray, List.set_cons_succ, List.set_cons_zero]
    refine BigFrame.wpQuiet_skip rfl ?_
    simp only [Act.put, List.setIfInBounds_toArray, List.set_cons_succ, List.set_cons_zero]
    refine BigFrame.wpQuiet_skip rfl ?_
    simp only [Act.put, List.setIfInBounds_toArray, List.set_cons_succ, List.set_cons_zero]
    refine q_take (.bool true) rfl (fun w' hw' => by first | rfl | (unfold execOp; simp [go_sem, Act.eval])) ?_
    simp only [Act.put, List.setIfInBounds_toArray, List.set_cons_succ, List.set_cons_zero]
    refine wpQuiet_nil ?_
    intro wq gq
    have gg := gg.trans gq
    go_wp2
    go_ret2
    exact NONE.out HY.out _ gg
  · obtain ⟨hg, hk⟩ := rd_parse_some hp
    obtain ⟨hc, hw1, hh1, hl⟩ := cel_of hp
    have z1 := g1.size
    have gg := gg.trans g1
    have hone := own_one hown
    by_cases hv : wordB v = true
    · have HW := hidI hv
      have h40 := (wordB_iff.1 hv).1
      by_cases hsz : n.size = 1
      · have hn1 := one_of n hsz
        obtain ⟨b, hb⟩ : ∃ b, hd n = b := ⟨_, rfl⟩
        rw [hb] at hn1
        subst hn1
        have hix := fun w => s_idx0 (P := Tryd.prog) Tryd.underlying9 b w
        have hns : nameS ⟨#[b]⟩ = isNameB b := by unfold nameS; rw [decide_eq_true hsz, hb]; rfl
        by_cases h1 : 97 ≤ (b.toNat : Int) ∧ (b.toNat : Int) ≤ 102
        · have hn := nameB_iff.2 h1
          obtain ⟨n1, n2⟩ := h1
          have n36 := hc.n36
          have hlen := hc.len
          have h36 : g.c.length ≤ 36 := by omega
          have hbn0 := name_ne hn
          have HYE := hidI (show poOk s.data.toList ⟨#[b]⟩ v = decide (0 ≤ ixC g.c b 36) from by unfold poOk; rw [hk, hns, hn, hv, hg, hb]; rfl)
          have HLE := hidI (show decide (0 ≤ ixC g.c b 36) = true → poL s.data.toList ⟨#[b]⟩ v = poT g b v v.size from fun h => by unfold poL; rw [HYE.out, h, hg, hb]; rfl)
          have HMORE := hidI (fun (c : List UInt8) (hc36 : c.length ≤ 36) => ixC_more (c := c) hbn0 rfl hc36)
          have HAT := hidI (fun j (hj : j < v.size) => wds_at hv hj)
          obtain ⟨W, hW⟩ : ∃ W, W = g.w := ⟨_, rfl⟩
          obtain ⟨H, hH⟩ : ∃ H, H = g.h := ⟨_, rfl⟩
          obtain ⟨N, hN⟩ : ∃ N, N = g.c.length := ⟨_, rfl⟩
          have HR := hidI (show ∀ j, Cel (runG ((wds v).take j) g) ∧ (runG ((wds v).take j) g).w = W ∧ (runG ((wds v).take j) g).h = H ∧ (runG ((wds v).take j) g).c.length = N from fun j => by
            have hcj := hc.run ((wds v).take j) (fun d hd => wds_lt hv d (List.mem_of_mem_take hd))
            obtain ⟨e1, e2⟩ := runG_w ((wds v).take j) g
            exact ⟨hcj, e1.trans hW.symm, e2.trans hH.symm, by rw [hcj.len, e1, e2, hN, hlen]⟩)
          obtain ⟨G, cap, rfl, -, -⟩ := own_shape hown hl
          rw [← hW, ← hH]
          have HNL := hidI hN
          clear hg hk hp hc hv hb hsz hns hn hbn0 hW hH hN hlen
          go_wp2_with (first | (refine r_alloc 46 _ Tryd.tzero rfl ?_; intro w2 B2 N2; have g2 := N2.gr; have b2 : Blk w2 B2 (tg 0 0 (.slice none 0 0)) 46 := N2.blk; have l2 := N2.lo; have t2 := N2.hi; have z2 := g2.size; have gg := gg.trans g2; clear N2; obtain ⟨b2_0, b2_1, b2_2⟩ := tcells b2) | (refine r_store_row 46 46 _ _ _ rfl (tg _ _ _) _ rfl b2 Tryd.tsize rfl (tg_one hone) rfl ?_; intro w3 u3 b2'; have z3 := u3.size; have gg := u3.gr gg (by omega); clear b2; have b2 := b2'; clear b2'; obtain ⟨b2_0, b2_1, b2_2⟩ := tcells b2))
          have own := u3.row (g2.row hown) (own_new hown l2)
          refine q_whole (by kernel_rfl) (by kernel_rfl) ?_
          refine q_take (.bool true) rfl (fun w' hw' => by first | rfl | (unfold execOp; simp [go_sem, Act.eval])) ?_
          simp only [Act.put, List.setIfInBounds_toArray, List.set_cons_succ, List.set_cons_zero]
          refine q_take (.bool false) rfl (fun w' hw' => by first | rfl | (unfold execOp; simp [go_sem, Act.eval])) ?_
          simp only [Act.put, List.setIfInBounds_toArray, List.set_cons_succ, List.set_cons_zero]
          refine q_take (.bool false) rfl (fun w' hw' => by first | rfl | (unfold execOp; simp [go_sem, Act.eval])) ?_
          simp only [Act.put, List.setIfInBounds_toArray, List.set_cons_succ, List.set_cons_zero]
          refine q_take (.string v) rfl (fun w' hw' => by first | rfl | (unfold execOp; simp [go_sem, Act.eval])) ?_
          simp only [Act.put, List.setIfInBounds_toArray, List.set_cons_succ, List.set_cons_zero]
          refine q_call 62 [.tmp 20] _ [.string v] (.bool true) Tryd.call62 rfl rfl (fun w' hw' => (tiWord_any v w').mono fun e w'' h => ⟨by rw [h.1, HW.out], hw'.trans h.2⟩) ?_
          simp only [Act.put, List.setIfInBounds_toArray, List.set_cons_succ, List.set_cons_zero]
          refine q_take (.bool false) rfl (fun w' hw' => by first | rfl | (unfold execOp; simp [go_sem, Act.eval])) ?_
          simp only [Act.put, List.setIfInBounds_toArray, List.set_cons_succ, List.set_cons_zero]
          refine q_take (.bool false) rfl (fun w' hw' => by first | rfl | (unfold execOp; simp [go_sem, Act.eval])) ?_
          simp only [Act.put, List.setIfInBounds_toArray, List.set_cons_succ, List.set_cons_zero]
          refine q_take (.bool false) rfl (fun w' hw' => by first | rfl | (unfold execOp; simp [go_sem, Act.eval])) ?_
          simp only [Act.put, List.setIfInBounds_toArray, List.set_cons_succ, List.set_cons_zero]
          refine q_take (.string ⟨#[b]⟩) rfl (fun w' hw' => by first | rfl | (unfold execOp; simp [go_sem, Act.eval])) ?_
          simp only [Act.put, List.setIfInBounds_toArray, List.set_cons_succ, List.set_cons_zero]
          refine q_take (.int .i64 1) rfl (fun w' hw' => by first | rfl | (unfold execOp; simp [go_sem, Act.eval])) ?_
          simp only [Act.put, List.setIfInBounds_toArray, List.set_cons_succ, List.set_cons_zero]
          refine q_take (.bool false) rfl (fun w' hw' => by first | rfl | (unfold execOp; simp [go_sem, Act.eval])) ?_
          simp only [Act.put, List.setIfInBounds_toArray, List.set_cons_succ, List.set_cons_zero]
          refine q_take (.bool false) rfl (fun w' hw' => by first | rfl | (unfold execOp; simp [go_sem, Act.eval])) ?_
          simp only [Act.put, List.setIfInBounds_toArray, List.set_cons_succ, List.set_cons_zero]
          refine q_take (.bool false) rfl (fun w' hw' => by first | rfl | (unfold execOp; simp [go_sem, Act.eval])) ?_
          simp only [Act.put, List.setIfInBounds_toArray, List.set_cons_succ, List.set_cons_zero]
          refine q_take (.string ⟨#[b]⟩) rfl (fun w' hw' => by first | rfl | (unfold execOp; simp [go_sem, Act.eval])) ?_
          simp only [Act.put, List.setIfInBounds_toArray, List.set_cons_succ, List.set_cons_zero]
          refine q_take (.int .u8 b.toNat) rfl (fun w' hw' => e_val _ _ (s_idx0 Tryd.underlying9 b _)) ?_
          simp only [Act.put, List.setIfInBounds_toArray, List.set_cons_succ, List.set_cons_zero]
          refine q_take (.bool false) rfl (fun w' hw' => e_lss8 _ _ _ _ _ rfl rfl (by first | exact decide_eq_true (by omega) | exact decide_eq_false (by omega))) ?_
          simp only [Act.put, List.setIfInBounds_toArray, List.set_cons_succ, List.set_cons_zero]
          refine q_take (.bool false) rfl (fun w' hw' => by first | rfl | (unfold execOp; simp [go_sem, Act.eval])) ?_
          simp only [Act.put, List.setIfInBounds_toArray, List.set_cons_succ, List.set_cons_zero]
          refine q_take (.bool false) rfl (fun w' hw' => by first | rfl | (unfold execOp; simp [go_sem, Act.eval])) ?_
          simp only [Act.put, List.setIfInBounds_toArray, List.set_cons_succ, List.set_cons_zero]
          refine q_take (.string ⟨#[b]⟩) rfl (fun w' hw' => by first | rfl | (unfold execOp; simp [go_sem, Act.eval])) ?_
          simp only [Act.put, List.setIfInBounds_toArray, List.set_cons_succ, List.set_cons_zero]
          refine q_take (.int .u8 b.toNat) rfl (fun w' hw' => e_val _ _ (s_idx0 Tryd.underlying9 b _)) ?_
          simp only [Act.put, List.setIfInBounds_toArray, List.set_cons_succ, List.set_cons_zero]
          refine q_take (.bool false) rfl (fun w' hw' => e_gtr8 _ _ _ _ _ rfl rfl (by first | exact decide_eq_true (by omega) | exact decide_eq_false (by omega))) ?_
          simp only [Act.put, List.setIfInBounds_toArray, List.set_cons_succ, List.set_cons_zero]
          refine q_take (.bool false) rfl (fun w' hw' => by first | rfl | (unfold execOp; simp [go_sem, Act.eval])) ?_
          simp only [Act.put, List.setIfInBounds_toArray, List.set_cons_succ, List.set_cons_zero]
          refine q_take (.bool false) rfl (fun w' hw' => by first | rfl | (unfold execOp; simp [go_sem, Act.eval])) ?_
          simp only [Act.put, List.setIfInBounds_toArray, List.set_cons_succ, List.set_cons_zero]
          refine q_take (.agg (tg W H (.slice (some ⟨G, 0, Option.none⟩) g.c.length cap))) rfl (fun w' hw' => e_load_row 46 (.tmp 8) B2 _ _ _ rfl (hw'.blk b2) Tryd.underlying46 rfl Tryd.tinfo) ?_
          simp only [Act.put, List.setIfInBounds_toArray, List.set_cons_succ, List.set_cons_zero]
          refine q_take (.string ⟨#[b]⟩) rfl (fun w' hw' => by first | rfl | (unfold execOp; simp [go_sem, Act.eval])) ?_
          simp only [Act.put, List.setIfInBounds_toArray, List.set_cons_succ, List.set_cons_zero]
          refine q_take (.int .u8 b.toNat) rfl (fun w' hw' => e_val _ _ (s_idx0 Tryd.underlying9 b _)) ?_
          simp only [Act.put, List.setIfInBounds_toArray, List.set_cons_succ, List.set_cons_zero]
          refine q_call 63 [.tmp 40, .tmp 42] _ [.agg (tg W H (.slice (some ⟨G, 0, Option.none⟩) g.c.length cap)), .int .u8 b.toNat] (.int .i64 (ixC g.c b g.c.length)) Tryd.call63 rfl rfl (fun w' hw' => (tiPlace_any W H w.heap.size g.c b G cap w' h36 (hw'.row own)).mono fun e w'' h => ⟨h.1, hw'.trans h.2⟩) ?_
          simp only [Act.put, List.setIfInBounds_toArray, List.set_cons_succ, List.set_cons_zero]
          rw [← HMORE.out g.c h36]
          obtain ⟨hge, hle⟩ := ixC_ge g.c b 36
          obtain ⟨x0, hx0⟩ : ∃ x0, x0 = ixC g.c b 36 := ⟨_, rfl⟩
          rw [← hx0] at hge hle HYE HLE ⊢
          by_cases hneg : x0 < 0
          · have HY := hidI (show poOk s.data.toList ⟨#[b]⟩ v = false from by rw [HYE.out]; exact decide_eq_false (by omega))
            have hdec : decide (x0 < 0) = true := decide_eq_true hneg
            clear hx0
            refine q_take (.bool true) rfl (fun w' hw' => e_lss8 _ _ _ _ _ rfl rfl hdec) ?_
            simp only [Act.put, List.setIfInBounds_toArray, List.set_cons_succ, List.set_cons_zero]
            refine q_take (.bool true) rfl (fun w' hw' => by first | rfl | (unfold execOp; simp [go_sem, Act.eval])) ?_
            simp only [Act.put, List.setIfInBounds_toArray, List.set_cons_succ, List.set_cons_zero]
            refine wpQuiet_nil ?_
            intro wq gq
            have gg := gg.trans gq
            go_wp2
            go_ret2
            exact NONE.out HY.out _ gg
          · have HY := hidI (show poOk s.data.toList ⟨#[b]⟩ v = true from by rw [HYE.out]; exact decide_eq_true (by omega))
            have HV := hidI (HLE.out (decide_eq_true (by omega)))
            have HP0 := hidI (show poT g b v 0 = [x0] from by rw [poT_zero, hx0])
            have HX0 := hidI hx0
            have hdec : decide (x0 < 0) = false := decide_eq_false hneg
            have hn0 : ¬ x0 < 0 := hneg
            clear hx0 hneg
            refine q_take (.bool false) rfl (fun w' hw' => e_lss8 _ _ _ _ _ rfl rfl hdec) ?_
            simp only [Act.put, List.setIfInBounds_toArray, List.set_cons_succ, List.set_cons_zero]
            refine q_take (.bool false) rfl (fun w' hw' => by first | rfl | (unfold execOp; simp [go_sem, Act.eval])) ?_
            simp only [Act.put, List.setIfInBounds_toArray, List.set_cons_succ, List.set_cons_zero]
            refine wpQuiet_nil ?_
            intro wq gq
            have b2 := gq.blk b2
            have own := gq.row own
            have gg := gg.trans gq
            have zq := gq.size
            go_wp2
            have gdr := (Gr.refl wq).drew
            have b2 := gdr.blk b2
            have own := gdr.row own
            have gg := gg.trans gdr
            have zd := gdr.size
            refine F_begin (fun w => Blk w B2 (tg W H (.slice (some ⟨G, 0, Option.none⟩) g.c.length cap)) 46) 5 6 #[false, false, false, false, false, false] rfl (by kernel_rfl) (by kernel_rfl) ?_
            generalize wq.drew = wd at *
            refine F_take (v := .agg (tg W H (.slice (some ⟨G, 0, Option.none⟩) g.c.length cap))) 0 #[true, false, false, false, false, false] rfl (by kernel_rfl) (fun _ _ _ h => h) rfl (fun w hF => e_load_row 46 (.tmp 8) B2 _ _ _ rfl hF Tryd.underlying46 rfl Tryd.tinfo) (b2) ?_; simp only [Act.put, List.setIfInBounds_toArray, List.set_cons_succ, List.set_cons_zero]
            refine F_free (v := .string ⟨#[b]⟩) 1 #[true, true, false, false, false, false] rfl (by kernel_rfl) (fun _ _ _ h => h) rfl (fun _ => rfl) (b2) ?_; simp only [Act.put, List.setIfInBounds_toArray, List.set_cons_succ, List.set_cons_zero]
            refine F_free (v := .int .u8 b.toNat) 2 #[true, true, true, false, false, false] rfl (by kernel_rfl) (fun _ _ _ h => h) rfl (fun _ => e_val _ _ (s_idx0 Tryd.underlying9 b _)) (b2) ?_; simp only [Act.put, List.setIfInBounds_toArray, List.set_cons_succ, List.set_cons_zero]
            refine F_one 3 #[true, true, true, true, false, false] rfl (by kernel_rfl) ?_
            refine r_call 63 [.tmp 46, .tmp 48] _ [.agg (tg W H (.slice (some ⟨G, 0, Option.none⟩) g.c.length cap)), .int .u8 b.toNat] (.int .i64 (ixC g.c b g.c.length)) (fun w' => Gr wd w') Tryd.call63 rfl rfl (tiPlace_any W H w.heap.size g.c b G cap wd h36 own) ?_
            intro wi gi
            rw [← HMORE.out g.c h36, ← HX0.out]
            have b2 := gi.blk b2
            have own := gi.row own
            have gg := gg.trans gi
            have zi := gi.size
            refine ⟨fun _ => b2, ?_⟩
            simp only [Act.put, List.setIfInBounds_toArray, List.set_cons_succ, List.set_cons_zero]
            refine F_one 4 #[true, true, true, true, true, false] rfl (by kernel_rfl) ?_
            refine r_slice1 34 3 (.tmp 49) (.int .i64 x0) rfl (Tryd.bsi1 _ _) rfl ?_
            intro we Be Ne
            have ge := Ne.gr
            have ownp := own1_new Ne
            have own := ge.row own
            have b2 := ge.blk b2
            have gg := gg.trans ge
            have ze := ge.size
            refine ⟨fun _ => b2, ?_⟩
            simp only [Act.put, List.setIfInBounds_toArray, List.set_cons_succ, List.set_cons_zero]
            refine F_one 5 #[true, true, true, true, true, true] rfl (by kernel_rfl) ?_
            refine r_val (.slice (some ⟨Be, 0, Option.none⟩) 1 1) rfl rfl ?_
            simp only [Act.put, List.setIfInBounds_toArray, List.set_cons_succ, List.set_cons_zero]
            refine ⟨fun h => (by cases h), ?_⟩
            refine F_done (by kernel_rfl) ?_
            go_wp2
            have lo2 : w.heap.size ≤ B2 := by omega
            have ownp0 : we.ownsRow wi.heap.size 3 1 (.slice (some ⟨Be, 0, Option.none⟩) 1 1) (poT g b v 0).length (intsV (poT g b v 0)) := by rw [HP0.out]; exact ownp
            have hzi : w.heap.size ≤ wi.heap.size := by omega
            rw [← HNL.out] at b2 own
            have own0 : we.ownsRow w.heap.size 5 1 (.slice (some ⟨G, 0, Option.none⟩) N cap) N (cellsV (runG ((wds v).take 0) g).c) := own
            clear own ownp
            go_loopw [10, 11] (fun pv iv wr => ∃ (j : Nat) (sl : Value), j ≤ v.size ∧ iv = .int .i64 j ∧ Blk wr B2 (tg W H sl) 46 ∧ wr.ownsRow w.heap.size 5 1 sl N (cellsV (runG ((wds v).take j) g).c) ∧ wr.ownsRow wi.heap.size 3 1 pv (poT g b v j).length (intsV (poT g b v j)) ∧ Gr w wr ∧ wi.heap.size ≤ wr.heap.size) (fun _ iv _ => v.size - (intOf iv).toNat)
            case atStart => exact ⟨0, _, Nat.zero_le _, rfl, b2, own0, ownp0, gg, by omega⟩
            case round =>
              obtain ⟨j, sl, hj, rfl, b2, own, ownp, gg, zs⟩ := hrel
              have zr := gg.size
              by_cases hlt : j < v.size
              · have hssub := Tryd.ssub v j hlt
                obtain ⟨d, h4, hat, hdi, -, htk⟩ := HAT.out j hlt
                rw [byte_at hlt, hat] at hssub
                have HDR := hidI (fun w => show Calls Tryd.prog 64 #[.string ⟨#[dB d]⟩] w (Ret (.int .i64 d) w) from (show dS ⟨#[dB d]⟩ = (d : Int) from hdi) ▸ tiDir_any ⟨#[dB d]⟩ w)
                obtain ⟨hcj, hwj, hhj, hlj⟩ := HR.out j
                obtain ⟨hcs, hws, hhs, hls⟩ := HR.out (j + 1)
                have HT := hidI (runG_take g htk)
                obtain ⟨q, hq⟩ : ∃ q, q = runG ((wds v).take j) g := ⟨_, rfl⟩
                rw [← hq] at hcj hwj hhj hlj own HT
                have HTT := fun (w' : World) (sl : Value) (own : w'.ownsRow w.heap.size 5 1 sl q.c.length (cellsV q.c)) => tiTilt_any q w.heap.size d sl w' hcj h4 (by rw [hlj, HNL.out]; exact hl) own
                rw [hwj, hhj, hlj] at HTT
                have HTT := hidI HTT
                obtain ⟨c1, hc1⟩ : ∃ c1, c1 = (runG ((wds v).take (j + 1)) g).c := ⟨_, rfl⟩
                have HTC := hidI (show (tiltG d q).c = c1 from by rw [hc1, HT.out])
                have HCL := hidI (show c1.length = N from by rw [hc1, hls])
                have HPX := hidI (show poX g b v (j + 1) = ixC c1 b 36 from by rw [hc1]; rfl)
                have HC1 := hidI hc1
                have hpl := poT_length g b v j
                have HPS := hidI (poT_succ g b v j)
                have hN36 : N ≤ 36 := by rw [HNL.out]; exact h36
                have hN0 : 0 < N := by rw [HNL.out]; exact hl
                have hone := own_one own
                clear hat hdi htk hcj hwj hhj hlj hcs hws hhs hls hq hc1
                generalize dB d = db at *
                go_wp2
                have gdr := (Gr.refl wr).drew
                have b2 := gdr.blk b2
                have own := gdr.row own
                have ownp := gdr.row ownp
                have gg := gg.trans gdr
                have zd := gdr.size
                refine F_begin (fun w => Blk w B2 (tg W H sl) 46) 8 9 #[false, false, false, false, false, false, false, false, false] rfl (by kernel_rfl) (by kernel_rfl) ?_
                generalize wr.drew = wd2 at *
                refine F_take (v := .agg (tg W H sl)) 0 #[true, false, false, false, false, false, false, false, false] rfl (by kernel_rfl) (fun _ _ _ h => h) rfl (fun w hF => e_load_row 46 (.tmp 8) B2 _ _ _ rfl hF Tryd.underlying46 rfl Tryd.tinfo) (b2) ?_; simp only [Act.put, List.setIfInBounds_toArray, List.set_cons_succ, List.set_cons_zero]
                refine F_free (v := .string v) 1 #[true, true, false, false, false, false, false, false, false] rfl (by kernel_rfl) (fun _ _ _ h => h) rfl (fun _ => rfl) (b2) ?_; simp only [Act.put, List.setIfInBounds_toArray, List.set_cons_succ, List.set_cons_zero]
                refine F_free (v := .int .i64 j) 2 #[true, true, true, false, false, false, false, false, false] rfl (by kernel_rfl) (fun _ _ _ h => h) rfl (fun _ => rfl) (b2) ?_; simp only [Act.put, List.setIfInBounds_toArray, List.set_cons_succ, List.set_cons_zero]
                refine F_free (v := .int .i64 j) 3 #[true, true, true, true, false, false, false, false, false] rfl (by kernel_rfl) (fun _ _ _ h => h) rfl (fun _ => rfl) (b2) ?_; simp only [Act.put, List.setIfInBounds_toArray, List.set_cons_succ, List.set_cons_zero]
                refine F_free (v := .int .i64 ((j : Int) + 1)) 4 #[true, true, true, true, true, false, false, false, false] rfl (by kernel_rfl) (fun _ _ _ h => h) rfl (fun _ => e_add _ _ _ _ _ rfl rfl rfl (by omega)) (b2) ?_; simp only [Act.put, List.setIfInBounds_toArray, List.set_cons_succ, List.set_cons_zero]
                refine F_free (v := .string ⟨#[db]⟩) 5 #[true, true, true, true, true, true, false, false, false] rfl (by kernel_rfl) (fun _ _ _ h => h) rfl (fun _ => e_val _ _ (hssub _)) (b2) ?_; simp only [Act.put, List.setIfInBounds_toArray, List.set_cons_succ, List.set_cons_zero]
                refine F_one 6 #[true, true, true, true, true, true, true, false, false] rfl (by kernel_rfl) ?_
                refine r_call 64 [.tmp 62] _ [.string ⟨#[db]⟩] (.int .i64 d) (fun w' => Gr wd2 w') Tryd.call64 rfl rfl (HDR.out wd2) ?_
                intro w3' g3'
                have b2 := g3'.blk b2
                have own := g3'.row own
                have ownp := g3'.row ownp
                have gg := gg.trans g3'
                have z3' := g3'.size
                refine ⟨fun _ => b2, ?_⟩
                simp only [Act.put, List.setIfInBounds_toArray, List.set_cons_succ, List.set_cons_zero]
                refine F_one 7 #[true, true, true, true, true, true, true, true, false] rfl (by kernel_rfl) ?_
                refine r_callx 44 [.tmp 57, .tmp 63] _ [.agg (tg W H sl), .int .i64 d] (fun v w' => Gr w3' w' ∧ ∃ s4, v = .agg (tg W H s4) ∧ w'.ownsRow w3'.heap.size 5 1 s4 (tiltG d q).c.length (cellsV (tiltG d q).c)) Tryd.call44 rfl rfl ((HTT.out w3' sl own).mono (fun e w' ⟨h1, s4, h2, h3⟩ => ⟨_, h2, h1, s4, rfl, h3⟩)) ?_
                rintro v4 w4 ⟨g4, s4, rfl, own4⟩
                rw [HTC.out, HCL.out] at own4
                have own4 := own_up own4 (show w.heap.size ≤ w3'.heap.size by omega)
                have b2 := g4.blk b2
                have ownp := g4.row ownp
                have gg := gg.trans g4
                have z4 := g4.size
                have hone4 := own_one own4
                refine ⟨fun _ => b2, ?_⟩
                simp only [Act.put, List.setIfInBounds_toArray, List.set_cons_succ, List.set_cons_zero]
                refine F_one 8 #[true, true, true, true, true, true, true, true, true] rfl (by kernel_rfl) ?_
                refine r_store_row 46 46 _ _ B2 rfl (tg W H s4) _ rfl b2 Tryd.tsize rfl (tg_one hone4) rfl ?_
                intro w6 u6 b26
                refine ⟨fun h => (by cases h), ?_⟩
                simp only [Act.put]
                refine F_done (by kernel_rfl) ?_
                have own6 := u6.row own4 (own_ne own4 b2 (by decide))
                have ownp6 := u6.row ownp (own_ne ownp b2 (by decide))
                have gg := u6.gr gg lo2
                have z6 := u6.size
                clear own own4 ownp b2
                go_wp2
                have gdr := (Gr.refl w6).drew
                have b2 := gdr.blk b26
                have own := gdr.row own6
                have ownp := gdr.row ownp6
                have gg := gg.trans gdr
                have zd6 := gdr.size
                clear b26 own6 ownp6
                obtain ⟨G4, cap4, rfl, -, -⟩ := own_shape own hN0
                refine F_begin (fun w => Blk w B2 (tg W H (.slice (some ⟨G4, 0, Option.none⟩) N cap4)) 46) 7 8 #[false, false, false, false, false, false, false, false] rfl (by kernel_rfl) (by kernel_rfl) ?_
                generalize w6.drew = wd7 at *
                refine F_free (v := u10) 0 #[true, false, false, false, false, false, false, false] rfl (by kernel_rfl) (fun _ _ _ h => h) rfl (fun _ => rfl) (b2) ?_; simp only [Act.put, List.setIfInBounds_toArray, List.set_cons_succ, List.set_cons_zero]
                refine F_take (v := .agg (tg W H (.slice (some ⟨G4, 0, Option.none⟩) N cap4))) 1 #[true, true, false, false, false, false, false, false] rfl (by kernel_rfl) (fun _ _ _ h => h) rfl (fun w hF => e_load_row 46 (.tmp 8) B2 _ _ _ rfl hF Tryd.underlying46 rfl Tryd.tinfo) (b2) ?_; simp only [Act.put, List.setIfInBounds_toArray, List.set_cons_succ, List.set_cons_zero]
                refine F_free (v := .string ⟨#[b]⟩) 2 #[true, true, true, false, false, false, false, false] rfl (by kernel_rfl) (fun _ _ _ h => h) rfl (fun _ => rfl) (b2) ?_; simp only [Act.put, List.setIfInBounds_toArray, List.set_cons_succ, List.set_cons_zero]
                refine F_free (v := .int .u8 b.toNat) 3 #[true, true, true, true, false, false, false, false] rfl (by kernel_rfl) (fun _ _ _ h => h) rfl (fun _ => e_val _ _ (s_idx0 Tryd.underlying9 b _)) (b2) ?_; simp only [Act.put, List.setIfInBounds_toArray, List.set_cons_succ, List.set_cons_zero]
                refine F_one 4 #[true, true, true, true, true, false, false, false] rfl (by kernel_rfl) ?_
                have htp := tiPlace_any W H w.heap.size c1 b G4 cap4 wd7 (by rw [HCL.out]; exact hN36) (by rw [HCL.out]; exact own)
                rw [← HMORE.out c1 (by rw [HCL.out]; exact hN36), HCL.out, ← HPX.out] at htp
                refine r_call 63 [.tmp 66, .tmp 68] _ [.agg (tg W H (.slice (some ⟨G4, 0, Option.none⟩) N cap4)), .int .u8 b.toNat] (.int .i64 (poX g b v (j + 1))) (fun w' => Gr wd7 w') Tryd.call63 rfl rfl htp ?_
                intro wk gk
                have b2 := gk.blk b2
                have own := gk.row own
                have ownp := gk.row ownp
                have gg := gg.trans gk
                have zk := gk.size
                refine ⟨fun _ => b2, ?_⟩
                simp only [Act.put, List.setIfInBounds_toArray, List.set_cons_succ, List.set_cons_zero]
                refine F_one 5 #[true, true, true, true, true, true, false, false] rfl (by kernel_rfl) ?_
                refine r_slice1 34 3 (.tmp 69) (.int .i64 (poX g b v (j + 1))) rfl (Tryd.bsi1 _ _) rfl ?_
                intro wl Bl Nl
                have gl := Nl.gr
                have own := gl.row own
                have ownp := gl.row ownp
                have b2 := gl.blk b2
                have gg := gg.trans gl
                have zl := gl.size
                refine ⟨fun _ => b2, ?_⟩
                simp only [Act.put, List.setIfInBounds_toArray, List.set_cons_succ, List.set_cons_zero]
                refine F_one 6 #[true, true, true, true, true, true, true, false] rfl (by kernel_rfl) ?_
                refine r_append (.tmp 65) (.tmp 70) 34 3 _ 1 8 wi.heap.size Tryd.intsI _ _ (intsV (poT g b v j)) rfl ownp ⟨Bl, 0, Option.none⟩ 1 1 [.int .i64 (poX g b v (j + 1))] rfl rfl Nl.cell1 (by intro u hu; simp at hu; subst hu; rfl) (by omega) (by decide) (by omega) rfl ?_
                intro vf wf ownf gf
                refine ⟨fun _ => gf.blk b2 (own_ne ownp b2 (by decide)), ?_⟩
                simp only [Act.put, List.setIfInBounds_toArray, List.set_cons_succ, List.set_cons_zero]
                refine F_one 7 #[true, true, true, true, true, true, true, true] rfl (by kernel_rfl) ?_
                refine r_val vf rfl rfl ?_
                simp only [Act.put, List.setIfInBounds_toArray, List.set_cons_succ, List.set_cons_zero]
                refine ⟨fun h => (by cases h), ?_⟩
                refine F_done (by kernel_rfl) ?_
                go_wp2
                have ownF : wf.ownsRow wi.heap.size 3 1 vf (poT g b v (j + 1)).length (intsV (poT g b v (j + 1))) := by
                  rw [HPS.out, List.length_append, ← intsV_append]
                  exact ownf
                have ownG := gf.row own (own_ne2 own ownp (by decide))
                rw [HC1.out] at ownG
                go_roundw
                case rel => exact ⟨j + 1, _, by omega, by go_num, gf.blk b2 (own_ne ownp b2 (by decide)), ownG, ownF, gf.gr gg (own_gr ownp hzi), by have := gf.size; omega⟩
                case measure => simp [intOf]; omega
              · obtain rfl : j = v.size := by omega
                clear hlt
                go_wp2
                go_ret2
                exact ⟨gg, u10, by rw [HY.out]; rfl, by rw [HV.out]; exact own_up ownp hzi⟩
        · have hny : isNameB b = false := by rw [← Bool.not_eq_true, nameB_iff]; exact h1
          have HY := hidI (show poOk s.data.toList ⟨#[b]⟩ v = false from by unfold poOk; rw [hns, hny, Bool.and_false, Bool.false_and, Bool.false_and])
          have hcs : (b.toNat : Int) < 97 ∨ (97 ≤ (b.toNat : Int) ∧ 102 < (b.toNat : Int)) := by omega
          clear hg hk hp hc hv hb hsz hns hny h1
          rcases hcs with n1 | ⟨n1, n2⟩
          · go_wp2_with (first | (refine r_alloc 46 _ Tryd.tzero rfl ?_; intro w2 B2 N2; have g2 := N2.gr; have b2 : Blk w2 B2 (tg 0 0 (.slice none 0 0)) 46 := N2.blk; have l2 := N2.lo; have t2 := N2.hi; have z2 := g2.size; have gg := gg.trans g2; clear N2; obtain ⟨b2_0, b2_1, b2_2⟩ := tcells b2) | (refine r_store_row 46 46 _ _ _ rfl (tg _ _ _) _ rfl b2 Tryd.tsize rfl (tg_one hone) rfl ?_; intro w3 u3 b2'; have z3 := u3.size; have gg := u3.gr gg (by omega); clear b2; have b2 := b2'; clear b2'; obtain ⟨b2_0, b2_1, b2_2⟩ := tcells b2))
            refine q_whole (by kernel_rfl) (by kernel_rfl) ?_
            refine q_take (.bool true) rfl (fun w' hw' => by first | rfl | (unfold execOp; simp [go_sem, Act.eval])) ?_
            simp only [Act.put, List.setIfInBounds_toArray, List.set_cons_succ, List.set_cons_zero]
            refine q_take (.bool false) rfl (fun w' hw' => by first | rfl | (unfold execOp; simp [go_sem, Act.eval])) ?_
            simp only [Act.put, List.setIfInBounds_toArray, List.set_cons_succ, List.set_cons_zero]
            refine q_take (.bool false) rfl (fun w' hw' => by first | rfl | (unfold execOp; simp [go_sem, Act.eval])) ?_
            simp only [Act.put, List.setIfInBounds_toArray, List.set_cons_succ, List.set_cons_zero]
            refine q_take (.string v) rfl (fun w' hw' => by first | rfl | (unfold execOp; simp [go_sem, Act.eval])) ?_
            simp only [Act.put, List.setIfInBounds_toArray, List.set_cons_succ, List.set_cons_zero]
            refine q_call 62 [.tmp 20] _ [.string v] (.bool true) Tryd.call62 rfl rfl (fun w' hw' => (tiWord_any v w').mono fun e w'' h => ⟨by rw [h.1, HW.out], hw'.trans h.2⟩) ?_
            simp only [Act.put, List.setIfInBounds_toArray, List.set_cons_succ, List.set_cons_zero]
            refine q_take (.bool false) rfl (fun w' hw' => by first | rfl | (unfold execOp; simp [go_sem, Act.eval])) ?_
            simp only [Act.put, List.setIfInBounds_toArray, List.set_cons_succ, List.set_cons_zero]
            refine q_take (.bool false) rfl (fun w' hw' => by first | rfl | (unfold execOp; simp [go_sem, Act.eval])) ?_
            simp only [Act.put, List.setIfInBounds_toArray, List.set_cons_succ, List.set_cons_zero]
            refine q_take (.bool false) rfl (fun w' hw' => by first | rfl | (unfold execOp; simp [go_sem, Act.eval])) ?_
            simp only [Act.put, List.setIfInBounds_toArray, List.set_cons_succ, List.set_cons_zero]
            refine q_take (.string ⟨#[b]⟩) rfl (fun w' hw' => by first | rfl | (unfold execOp; simp [go_sem, Act.eval])) ?_
            simp only [Act.put, List.setIfInBounds_toArray, List.set_cons_succ, List.set_cons_zero]
            refine q_take (.int .i64 1) rfl (fun w' hw' => by first | rfl | (unfold execOp; simp [go_sem, Act.eval])) ?_
            simp only [Act.put, List.setIfInBounds_toArray, List.set_cons_succ, List.set_cons_zero]
            refine q_take (.bool false) rfl (fun w' hw' => by first | rfl | (unfold execOp; simp [go_sem, Act.eval])) ?_
            simp only [Act.put, List.setIfInBounds_toArray, List.set_cons_succ, List.set_cons_zero]
            refine q_take (.bool false) rfl (fun w' hw' => by first | rfl | (unfold execOp; simp [go_sem, Act.eval])) ?_
            simp only [Act.put, List.setIfInBounds_toArray, List.set_cons_succ, List.set_cons_zero]
            refine q_take (.bool false) rfl (fun w' hw' => by first | rfl | (unfold execOp; simp [go_sem, Act.eval])) ?_
            simp only [Act.put, List.setIfInBounds_toArray, List.set_cons_succ, List.set_cons_zero]
            refine q_take (.string ⟨#[b]⟩) rfl (fun w' hw' => by first | rfl | (unfold execOp; simp [go_sem, Act.eval])) ?_
            simp only [Act.put, List.setIfInBounds_toArray, List.set_cons_succ, List.set_cons_zero]
            refine q_take (.int .u8 b.toNat) rfl (fun w' hw' => e_val _ _ (s_idx0 Tryd.underlying9 b _)) ?_
            simp only [Act.put, List.setIfInBounds_toArray, List.set_cons_succ, List.set_cons_zero]
            refine q_take (.bool true) rfl (fun w' hw' => e_lss8 _ _ _ _ _ rfl rfl (by first | exact decide_eq_true (by omega) | exact decide_eq_false (by omega))) ?_
            simp only [Act.put, List.setIfInBounds_toArray, List.set_cons_succ, List.set_cons_zero]
            refine q_take (.bool true) rfl (fun w' hw' => by first | rfl | (unfold execOp; simp [go_sem, Act.eval])) ?_
            simp only [Act.put, List.setIfInBounds_toArray, List.set_cons_succ, List.set_cons_zero]
            refine q_take (.bool true) rfl (fun w' hw' => by first | rfl | (unfold execOp; simp [go_sem, Act.eval])) ?_
            simp only [Act.put, List.setIfInBounds_toArray, List.set_cons_succ, List.set_cons_zero]
            refine BigFrame.wpQuiet_skip rfl ?_
            simp only [Act.put, List.setIfInBounds_toArray, List.set_cons_succ, List.set_cons_zero]
            refine BigFrame.wpQuiet_skip rfl ?_
            simp only [Act.put, List.setIfInBounds_toArray, List.set_cons_succ, List.set_cons_zero]
            refine BigFrame.wpQuiet_skip rfl ?_
            simp only [Act.put, List.setIfInBounds_toArray, List.set_cons_succ, List.set_cons_zero]
            refine q_take (.bool true) rfl (fun w' hw' => by first | rfl | (unfold execOp; simp [go_sem, Act.eval])) ?_
            simp only [Act.put, List.setIfInBounds_toArray, List.set_cons_succ, List.set_cons_zero]
            refine q_take (.bool true) rfl (fun w' hw' => by first | rfl | (unfold execOp; simp [go_sem, Act.eval])) ?_
            simp only [Act.put, List.setIfInBounds_toArray, List.set_cons_succ, List.set_cons_zero]
            refine BigFrame.wpQuiet_skip rfl ?_
            simp only [Act.put, List.setIfInBounds_toArray, List.set_cons_succ, List.set_cons_zero]
            refine BigFrame.wpQuiet_skip rfl ?_
            simp only [Act.put, List.setIfInBounds_toArray, List.set_cons_succ, List.set_cons_zero]
            refine BigFrame.wpQuiet_skip rfl ?_
            simp only [Act.put, List.setIfInBounds_toArray, List.set_cons_succ, List.set_cons_zero]
            refine BigFrame.wpQuiet_skip rfl ?_
            simp only [Act.put, List.setIfInBounds_toArray, List.set_cons_succ, List.set_cons_zero]
            refine BigFrame.wpQuiet_skip rfl ?_
            simp only [Act.put, List.setIfInBounds_toArray, List.set_cons_succ, List.set_cons_zero]
            refine q_take (.bool true) rfl (fun w' hw' => by first | rfl | (unfold execOp; simp [go_sem, Act.eval])) ?_
            simp only [Act.put, List.setIfInBounds_toArray, List.set_cons_succ, List.set_cons_zero]
            refine wpQuiet_nil ?_
            intro wq gq
            have gg := gg.trans gq
            go_wp2
            go_ret2
            exact NONE.out HY.out _ gg
          · go_wp2_with (first | (refine r_alloc 46 _ Tryd.tzero rfl ?_; intro w2 B2 N2; have g2 := N2.gr; have b2 : Blk w2 B2 (tg 0 0 (.slice none 0 0)) 46 := N2.blk; have l2 := N2.lo; have t2 := N2.hi; have z2 := g2.size; have gg := gg.trans g2; clear N2; obtain ⟨b2_0, b2_1, b2_2⟩ := tcells b2) | (refine r_store_row 46 46 _ _ _ rfl (tg _ _ _) _ rfl b2 Tryd.tsize rfl (tg_one hone) rfl ?_; intro w3 u3 b2'; have z3 := u3.size; have gg := u3.gr gg (by omega); clear b2; have b2 := b2'; clear b2'; obtain ⟨b2_0, b2_1, b2_2⟩ := tcells b2))
            refine q_whole (by kernel_rfl) (by kernel_rfl) ?_
            refine q_take (.bool true) rfl (fun w' hw' => by first | rfl | (unfold execOp; simp [go_sem, Act.eval])) ?_
            simp only [Act.put, List.setIfInBounds_toArray, List.set_cons_succ, List.set_cons_zero]
            refine q_take (.bool false) rfl (fun w' hw' => by first | rfl | (unfold execOp; simp [go_sem, Act.eval])) ?_
            simp only [Act.put, List.setIfInBounds_toArray, List.set_cons_succ, List.set_cons_zero]
            refine q_take (.bool false) rfl (fun w' hw' => by first | rfl | (unfold execOp; simp [go_sem, Act.eval])) ?_
            simp only [Act.put, List.setIfInBounds_toArray, List.set_cons_succ, List.set_cons_zero]
            refine q_take (.string v) rfl (fun w' hw' => by first | rfl | (unfold execOp; simp [go_sem, Act.eval])) ?_
            simp only [Act.put, List.setIfInBounds_toArray, List.set_cons_succ, List.set_cons_zero]
            refine q_call 62 [.tmp 20] _ [.string v] (.bool true) Tryd.call62 rfl rfl (fun w' hw' => (tiWord_any v w').mono fun e w'' h => ⟨by rw [h.1, HW.out], hw'.trans h.2⟩) ?_
            simp only [Act.put, List.setIfInBounds_toArray, List.set_cons_succ, List.set_cons_zero]
            refine q_take (.bool false) rfl (fun w' hw' => by first | rfl | (unfold execOp; simp [go_sem, Act.eval])) ?_
            simp only [Act.put, List.setIfInBounds_toArray, List.set_cons_succ, List.set_cons_zero]
            refine q_take (.bool false) rfl (fun w' hw' => by first | rfl | (unfold execOp; simp [go_sem, Act.eval])) ?_
            simp only [Act.put, List.setIfInBounds_toArray, List.set_cons_succ, List.set_cons_zero]
            refine q_take (.bool false) rfl (fun w' hw' => by first | rfl | (unfold execOp; simp [go_sem, Act.eval])) ?_
            simp only [Act.put, List.setIfInBounds_toArray, List.set_cons_succ, List.set_cons_zero]
            refine q_take (.string ⟨#[b]⟩) rfl (fun w' hw' => by first | rfl | (unfold execOp; simp [go_sem, Act.eval])) ?_
            simp only [Act.put, List.setIfInBounds_toArray, List.set_cons_succ, List.set_cons_zero]
            refine q_take (.int .i64 1) rfl (fun w' hw' => by first | rfl | (unfold execOp; simp [go_sem, Act.eval])) ?_
            simp only [Act.put, List.setIfInBounds_toArray, List.set_cons_succ, List.set_cons_zero]
            refine q_take (.bool false) rfl (fun w' hw' => by first | rfl | (unfold execOp; simp [go_sem, Act.eval])) ?_
            simp only [Act.put, List.setIfInBounds_toArray, List.set_cons_succ, List.set_cons_zero]
            refine q_take (.bool false) rfl (fun w' hw' => by first | rfl | (unfold execOp; simp [go_sem, Act.eval])) ?_
            simp only [Act.put, List.setIfInBounds_toArray, List.set_cons_succ, List.set_cons_zero]
            refine q_take (.bool false) rfl (fun w' hw' => by first | rfl | (unfold execOp; simp [go_sem, Act.eval])) ?_
            simp only [Act.put, List.setIfInBounds_toArray, List.set_cons_succ, List.set_cons_zero]
            refine q_take (.string ⟨#[b]⟩) rfl (fun w' hw' => by first | rfl | (unfold execOp; simp [go_sem, Act.eval])) ?_
            simp only [Act.put, List.setIfInBounds_toArray, List.set_cons_succ, List.set_cons_zero]
            refine q_take (.int .u8 b.toNat) rfl (fun w' hw' => e_val _ _ (s_idx0 Tryd.underlying9 b _)) ?_
            simp only [Act.put, List.setIfInBounds_toArray, List.set_cons_succ, List.set_cons_zero]
            refine q_take (.bool false) rfl (fun w' hw' => e_lss8 _ _ _ _ _ rfl rfl (by first | exact decide_eq_true (by omega) | exact decide_eq_false (by omega))) ?_
            simp only [Act.put, List.setIfInBounds_toArray, List.set_cons_succ, List.set_cons_zero]
            refine q_take (.bool false) rfl (fun w' hw' => by first | rfl | (unfold execOp; simp [go_sem, Act.eval])) ?_
            simp only [Act.put, List.setIfInBounds_toArray, List.set_cons_succ, List.set_cons_zero]
            refine q_take (.bool false) rfl (fun w' hw' => by first | rfl | (unfold execOp; simp [go_sem, Act.eval])) ?_
            simp only [Act.put, List.setIfInBounds_toArray, List.set_cons_succ, List.set_cons_zero]
            refine q_take (.string ⟨#[b]⟩) rfl (fun w' hw' => by first | rfl | (unfold execOp; simp [go_sem, Act.eval])) ?_
            simp only [Act.put, List.setIfInBounds_toArray, List.set_cons_succ, List.set_cons_zero]
            refine q_take (.int .u8 b.toNat) rfl (fun w' hw' => e_val _ _ (s_idx0 Tryd.underlying9 b _)) ?_
            simp only [Act.put, List.setIfInBounds_toArray, List.set_cons_succ, List.set_cons_zero]
            refine q_take (.bool true) rfl (fun w' hw' => e_gtr8 _ _ _ _ _ rfl rfl (by first | exact decide_eq_true (by omega) | exact decide_eq_false (by omega))) ?_
            simp only [Act.put, List.setIfInBounds_toArray, List.set_cons_succ, List.set_cons_zero]
            refine q_take (.bool true) rfl (fun w' hw' => by first | rfl | (unfold execOp; simp [go_sem, Act.eval])) ?_
            simp only [Act.put, List.setIfInBounds_toArray, List.set_cons_succ, List.set_cons_zero]
            refine q_take (.bool true) rfl (fun w' hw' => by first | rfl | (unfold execOp; simp [go_sem, Act.eval])) ?_
            simp only [Act.put, List.setIfInBounds_toArray, List.set_cons_succ, List.set_cons_zero]
            refine BigFrame.wpQuiet_skip rfl ?_
            simp only [Act.put, List.setIfInBounds_toArray, List.set_cons_succ, List.set_cons_zero]
            refine BigFrame.wpQuiet_skip rfl ?_
            simp only [Act.put, List.setIfInBounds_toArray, List.set_cons_succ, List.set_cons_zero]
            refine BigFrame.wpQuiet_skip rfl ?_
            simp only [Act.put, List.setIfInBounds_toArray, List.set_cons_succ, List.set_cons_zero]
            refine BigFrame.wpQuiet_skip rfl ?_
            simp only [Act.put, List.setIfInBounds_toArray, List.set_cons_succ, List.set_cons_zero]
            refine BigFrame.wpQuiet_skip rfl ?_
            simp only [Act.put, List.setIfInBounds_toArray, List.set_cons_succ, List.set_cons_zero]
            refine q_take (.bool true) rfl (fun w' hw' => by first | rfl | (unfold execOp; simp [go_sem, Act.eval])) ?_
            simp only [Act.put, List.setIfInBounds_toArray, List.set_cons_succ, List.set_cons_zero]
            refine wpQuiet_nil ?_
            intro wq gq
            have gg := gg.trans gq
            go_wp2
            go_ret2
            exact NONE.out HY.out _ gg
      · have HY := hidI (show poOk s.data.toList n v = false from by unfold poOk nameS; rw [decide_eq_false hsz]; simp)
        have hn : ((n.size : Int) != 1) = true := by rw [bne_iff_ne]; omega
        clear hg hk hp hc hv hsz
        go_wp2_with (first | (refine r_alloc 46 _ Tryd.tzero rfl ?_; intro w2 B2 N2; have g2 := N2.gr; have b2 : Blk w2 B2 (tg 0 0 (.slice none 0 0)) 46 := N2.blk; have l2 := N2.lo; have t2 := N2.hi; have z2 := g2.size; have gg := gg.trans g2; clear N2; obtain ⟨b2_0, b2_1, b2_2⟩ := tcells b2) | (refine r_store_row 46 46 _ _ _ rfl (tg _ _ _) _ rfl b2 Tryd.tsize rfl (tg_one hone) rfl ?_; intro w3 u3 b2'; have z3 := u3.size; have gg := u3.gr gg (by omega); clear b2; have b2 := b2'; clear b2'; obtain ⟨b2_0, b2_1, b2_2⟩ := tcells b2))
        refine q_whole (by kernel_rfl) (by kernel_rfl) ?_
        refine q_take (.bool true) rfl (fun w' hw' => by first | rfl | (unfold execOp; simp [go_sem, Act.eval])) ?_
        simp only [Act.put, List.setIfInBounds_toArray, List.set_cons_succ, List.set_cons_zero]
        refine q_take (.bool false) rfl (fun w' hw' => by first | rfl | (unfold execOp; simp [go_sem, Act.eval])) ?_
        simp only [Act.put, List.setIfInBounds_toArray, List.set_cons_succ, List.set_cons_zero]
        refine q_take (.bool false) rfl (fun w' hw' => by first | rfl | (unfold execOp; simp [go_sem, Act.eval])) ?_
        simp only [Act.put, List.setIfInBounds_toArray, List.set_cons_succ, List.set_cons_zero]
        refine q_take (.string v) rfl (fun w' hw' => by first | rfl | (unfold execOp; simp [go_sem, Act.eval])) ?_
        simp only [Act.put, List.setIfInBounds_toArray, List.set_cons_succ, List.set_cons_zero]
        refine q_call 62 [.tmp 20] _ [.string v] (.bool true) Tryd.call62 rfl rfl (fun w' hw' => (tiWord_any v w').mono fun e w'' h => ⟨by rw [h.1, HW.out], hw'.trans h.2⟩) ?_
        simp only [Act.put, List.setIfInBounds_toArray, List.set_cons_succ, List.set_cons_zero]
        refine q_take (.bool false) rfl (fun w' hw' => by first | rfl | (unfold execOp; simp [go_sem, Act.eval])) ?_
        simp only [Act.put, List.setIfInBounds_toArray, List.set_cons_succ, List.set_cons_zero]
        refine q_take (.bool false) rfl (fun w' hw' => by first | rfl | (unfold execOp; simp [go_sem, Act.eval])) ?_
        simp only [Act.put, List.setIfInBounds_toArray, List.set_cons_succ, List.set_cons_zero]
        refine q_take (.bool false) rfl (fun w' hw' => by first | rfl | (unfold execOp; simp [go_sem, Act.eval])) ?_
        simp only [Act.put, List.setIfInBounds_toArray, List.set_cons_succ, List.set_cons_zero]
        refine q_take (.string n) rfl (fun w' hw' => by first | rfl | (unfold execOp; simp [go_sem, Act.eval])) ?_
        simp only [Act.put, List.setIfInBounds_toArray, List.set_cons_succ, List.set_cons_zero]
        refine q_take (.int .i64 n.size) rfl (fun w' hw' => by first | rfl | (unfold execOp; simp [go_sem, Act.eval])) ?_
        simp only [Act.put, List.setIfInBounds_toArray, List.set_cons_succ, List.set_cons_zero]
        refine q_take (.bool true) rfl (fun w' hw' => by unfold execOp; simp [go_sem, Act.eval, hn]) ?_
        simp only [Act.put, List.setIfInBounds_toArray, List.set_cons_succ, List.set_cons_zero]
        refine q_take (.bool true) rfl (fun w' hw' => by first | rfl | (unfold execOp; simp [go_sem, Act.eval])) ?_
        simp only [Act.put, List.setIfInBounds_toArray, List.set_cons_succ, List.set_cons_zero]
        refine q_take (.bool true) rfl (fun w' hw' => by first | rfl | (unfold execOp; simp [go_sem, Act.eval])) ?_
        simp only [Act.put, List.setIfInBounds_toArray, List.set_cons_succ, List.set_cons_zero]
        refine BigFrame.wpQuiet_skip rfl ?_
        simp only [Act.put, List.setIfInBounds_toArray, List.set_cons_succ, List.set_cons_zero]
        refine BigFrame.wpQuiet_skip rfl ?_
        simp only [Act.put, List.setIfInBounds_toArray, List.set_cons_succ, List.set_cons_zero]
        refine BigFrame.wpQuiet_skip rfl ?_
        simp only [Act.put, List.setIfInBounds_toArray, List.set_cons_succ, List.set_cons_zero]
        refine q_take (.bool true) rfl (fun w' hw' => by first | rfl | (unfold execOp; simp [go_sem, Act.eval])) ?_
        simp only [Act.put, List.setIfInBounds_toArray, List.set_cons_succ, List.set_cons_zero]
        refine q_take (.bool true) rfl (fun w' hw' => by first | rfl | (unfold execOp; simp [go_sem, Act.eval])) ?_
        simp only [Act.put, List.setIfInBounds_toArray, List.set_cons_succ, List.set_cons_zero]
        refine BigFrame.wpQuiet_skip rfl ?_
        simp only [Act.put, List.setIfInBounds_toArray, List.set_cons_succ, List.set_cons_zero]
        refine BigFrame.wpQuiet_skip rfl ?_
        simp only [Act.put, List.setIfInBounds_toArray, List.set_cons_succ, List.set_cons_zero]
        refine BigFrame.wpQuiet_skip rfl ?_
        simp only [Act.put, List.setIfInBounds_toArray, List.set_cons_succ, List.set_cons_zero]
        refine q_take (.bool true) rfl (fun w' hw' => by first | rfl | (unfold execOp; simp [go_sem, Act.eval])) ?_
        simp only [Act.put, List.setIfInBounds_toArray, List.set_cons_succ, List.set_cons_zero]
        refine q_take (.bool true) rfl (fun w' hw' => by first | rfl | (unfold execOp; simp [go_sem, Act.eval])) ?_
        simp only [Act.put, List.setIfInBounds_toArray, List.set_cons_succ, List.set_cons_zero]
        refine BigFrame.wpQuiet_skip rfl ?_
        simp only [Act.put, List.setIfInBounds_toArray, List.set_cons_succ, List.set_cons_zero]
        refine BigFrame.wpQuiet_skip rfl ?_
        simp only [Act.put, List.setIfInBounds_toArray, List.set_cons_succ, List.set_cons_zero]
        refine BigFrame.wpQuiet_skip rfl ?_
        simp only [Act.put, List.setIfInBounds_toArray, List.set_cons_succ, List.set_cons_zero]
        refine BigFrame.wpQuiet_skip rfl ?_
        simp only [Act.put, List.setIfInBounds_toArray, List.set_cons_succ, List.set_cons_zero]
        refine BigFrame.wpQuiet_skip rfl ?_
        simp only [Act.put, List.setIfInBounds_toArray, List.set_cons_succ, List.set_cons_zero]
        refine q_take (.bool true) rfl (fun w' hw' => by first | rfl | (unfold execOp; simp [go_sem, Act.eval])) ?_
        simp only [Act.put, List.setIfInBounds_toArray, List.set_cons_succ, List.set_cons_zero]
        refine wpQuiet_nil ?_
        intro wq gq
        have gg := gg.trans gq
        go_wp2
        go_ret2
        exact NONE.out HY.out _ gg
    · have HW := hidI (show wordB v = false from by simpa using hv)
      have HY := hidI (show poOk s.data.toList n v = false from by unfold poOk; rw [HW.out, Bool.and_false, Bool.false_and])
      clear hg hk hp hc hv
      go_wp2_with (first | (refine r_alloc 46 _ Tryd.tzero rfl ?_; intro w2 B2 N2; have g2 := N2.gr; have b2 : Blk w2 B2 (tg 0 0 (.slice none 0 0)) 46 := N2.blk; have l2 := N2.lo; have t2 := N2.hi; have z2 := g2.size; have gg := gg.trans g2; clear N2; obtain ⟨b2_0, b2_1, b2_2⟩ := tcells b2) | (refine r_store_row 46 46 _ _ _ rfl (tg _ _ _) _ rfl b2 Tryd.tsize rfl (tg_one hone) rfl ?_; intro w3 u3 b2'; have z3 := u3.size; have gg := u3.gr gg (by omega); clear b2; have b2 := b2'; clear b2'; obtain ⟨b2_0, b2_1, b2_2⟩ := tcells b2))
      refine q_whole (by kernel_rfl) (by kernel_rfl) ?_
      refine q_take (.bool true) rfl (fun w' hw' => by first | rfl | (unfold execOp; simp [go_sem, Act.eval])) ?_
      simp only [Act.put, List.setIfInBounds_toArray, List.set_cons_succ, List.set_cons_zero]
      refine q_take (.bool false) rfl (fun w' hw' => by first | rfl | (unfold execOp; simp [go_sem, Act.eval])) ?_
      simp only [Act.put, List.setIfInBounds_toArray, List.set_cons_succ, List.set_cons_zero]
      refine q_take (.bool false) rfl (fun w' hw' => by first | rfl | (unfold execOp; simp [go_sem, Act.eval])) ?_
      simp only [Act.put, List.setIfInBounds_toArray, List.set_cons_succ, List.set_cons_zero]
      refine q_take (.string v) rfl (fun w' hw' => by first | rfl | (unfold execOp; simp [go_sem, Act.eval])) ?_
      simp only [Act.put, List.setIfInBounds_toArray, List.set_cons_succ, List.set_cons_zero]
      refine q_call 62 [.tmp 20] _ [.string v] (.bool false) Tryd.call62 rfl rfl (fun w' hw' => (tiWord_any v w').mono fun e w'' h => ⟨by rw [h.1, HW.out], hw'.trans h.2⟩) ?_
      simp only [Act.put, List.setIfInBounds_toArray, List.set_cons_succ, List.set_cons_zero]
      refine q_take (.bool true) rfl (fun w' hw' => by first | rfl | (unfold execOp; simp [go_sem, Act.eval])) ?_
      simp only [Act.put, List.setIfInBounds_toArray, List.set_cons_succ, List.set_cons_zero]
      refine q_take (.bool true) rfl (fun w' hw' => by first | rfl | (unfold execOp; simp [go_sem, Act.eval])) ?_
      simp only [Act.put, List.setIfInBounds_toArray, List.set_cons_succ, List.set_cons_zero]
      refine q_take (.bool true) rfl (fun w' hw' => by first | rfl | (unfold execOp; simp [go_sem, Act.eval])) ?_
      simp only [Act.put, List.setIfInBounds_toArray, List.set_cons_succ, List.set_cons_zero]
      refine BigFrame.wpQuiet_skip rfl ?_
      simp only [Act.put, List.setIfInBounds_toArray, List.set_cons_succ, List.set_cons_zero]
      refine BigFrame.wpQuiet_skip rfl ?_
      simp only [Act.put, List.setIfInBounds_toArray, List.set_cons_succ, List.set_cons_zero]
      refine BigFrame.wpQuiet_skip rfl ?_
      simp only [Act.put, List.setIfInBounds_toArray, List.set_cons_succ, List.set_cons_zero]
      refine q_take (.bool true) rfl (fun w' hw' => by first | rfl | (unfold execOp; simp [go_sem, Act.eval])) ?_
      simp only [Act.put, List.setIfInBounds_toArray, List.set_cons_succ, List.set_cons_zero]
      refine q_take (.bool true) rfl (fun w' hw' => by first | rfl | (unfold execOp; simp [go_sem, Act.eval])) ?_
      simp only [Act.put, List.setIfInBounds_toArray, List.set_cons_succ, List.set_cons_zero]
      refine BigFrame.wpQuiet_skip rfl ?_
      simp only [Act.put, List.setIfInBounds_toArray, List.set_cons_succ, List.set_cons_zero]
      refine BigFrame.wpQuiet_skip rfl ?_
      simp only [Act.put, List.setIfInBounds_toArray, List.set_cons_succ, List.set_cons_zero]
      refine BigFrame.wpQuiet_skip rfl ?_
      simp only [Act.put, List.setIfInBounds_toArray, List.set_cons_succ, List.set_cons_zero]
      refine q_take (.bool true) rfl (fun w' hw' => by first | rfl | (unfold execOp; simp [go_sem, Act.eval])) ?_
      simp only [Act.put, List.setIfInBounds_toArray, List.set_cons_succ, List.set_cons_zero]
      refine q_take (.bool true) rfl (fun w' hw' => by first | rfl | (unfold execOp; simp [go_sem, Act.eval])) ?_
      simp only [Act.put, List.setIfInBounds_toArray, List.set_cons_succ, List.set_cons_zero]
      refine BigFrame.wpQuiet_skip rfl ?_
      simp only [Act.put, List.setIfInBounds_toArray, List.set_cons_succ, List.set_cons_zero]
      refine BigFrame.wpQuiet_skip rfl ?_
      simp only [Act.put, List.setIfInBounds_toArray, List.set_cons_succ, List.set_cons_zero]
      refine BigFrame.wpQuiet_skip rfl ?_
      simp only [Act.put, List.setIfInBounds_toArray, List.set_cons_succ, List.set_cons_zero]
      refine q_take (.bool true) rfl (fun w' hw' => by first | rfl | (unfold execOp; simp [go_sem, Act.eval])) ?_
      simp only [Act.put, List.setIfInBounds_toArray, List.set_cons_succ, List.set_cons_zero]
      refine q_take (.bool true) rfl (fun w' hw' => by first | rfl | (unfold execOp; simp [go_sem, Act.eval])) ?_
      simp only [Act.put, List.setIfInBounds_toArray, List.set_cons_succ, List.set_cons_zero]
      refine BigFrame.wpQuiet_skip rfl ?_
      simp only [Act.put, List.setIfInBounds_toArray, List.set_cons_succ, List.set_cons_zero]
      refine BigFrame.wpQuiet_skip rfl ?_
      simp only [Act.put, List.setIfInBounds_toArray, List.set_cons_succ, List.set_cons_zero]
      refine BigFrame.wpQuiet_skip rfl ?_
      simp only [Act.put, List.setIfInBounds_toArray, List.set_cons_succ, List.set_cons_zero]
      refine BigFrame.wpQuiet_skip rfl ?_
      simp only [Act.put, List.setIfInBounds_toArray, List.set_cons_succ, List.set_cons_zero]
      refine BigFrame.wpQuiet_skip rfl ?_
      simp only [Act.put, List.setIfInBounds_toArray, List.set_cons_succ, List.set_cons_zero]
      refine q_take (.bool true) rfl (fun w' hw' => by first | rfl | (unfold execOp; simp [go_sem, Act.eval])) ?_
      simp only [Act.put, List.setIfInBounds_toArray, List.set_cons_succ, List.set_cons_zero]
      refine wpQuiet_nil ?_
      intro wq gq
      have gg := gg.trans gq
      go_wp2
      go_ret2
      exact NONE.out HY.out _ gg
set_option maxHeartbeats 4000000 in
set_option maxRecDepth 100000 in
theorem lawPathOfBall (s n v : ByteArray) (w : World) (hm : ML w) : Calls Tryd.prog 11 #[.string s, .string n, .string v] w (Ret (.bool true) w) := by
  have gg := Gr.refl w
  by_cases hs : 1048576 < s.size
  · go_enter Tryd.func11, Tryd.ntmps11
    go_wp2
    go_ret
    exact ⟨rfl, gg⟩
  · have hs' : s.size ≤ 1048576 := by omega
    clear hs
    by_cases hc : 1048576 < n.size
    · go_enter Tryd.func11, Tryd.ntmps11
      go_wp2
      go_ret
      exact ⟨rfl, gg⟩
    · have hc' : n.size ≤ 1048576 := by omega
      clear hc
      by_cases hd : 1048576 < v.size
      · go_enter Tryd.func11, Tryd.ntmps11
        go_wp2
        go_ret
        exact ⟨rfl, gg⟩
      · have hd' : v.size ≤ 1048576 := by omega
        clear hd
        have hle := poL_le s.data.toList n v
        obtain ⟨L, hL⟩ : ∃ L, L = poL s.data.toList n v := ⟨_, rfl⟩
        obtain ⟨ok, hok⟩ : ∃ ok, ok = poOk s.data.toList n v := ⟨_, rfl⟩
        have HL := hidI hL
        have HOK := hidI hok
        rw [← hL] at hle
        clear hL hok
        go_enter Tryd.func11, Tryd.ntmps11
        go_wp2_with fail
        refine (sPathOfBall s n v _ hs').mono ?_
        rintro e w1 ⟨g1, v1, rfl, own1⟩
        rw [← HL.out] at own1
        have gg := gg.trans g1
        rw [← HOK.out]
        go_wp2_with fail
        refine (iPathOfBall s n v _ (gg.ml hm) hs').mono ?_
        rintro e w2 ⟨g2, v2, rfl, own2⟩
        rw [← HL.out] at own2
        rw [← HOK.out]
        have gg := gg.trans g2
        have HAP := hidI (own_apart' own1 own2 (Nat.le_refl _))
        have own1 := g2.row own1
        go_wp2_with fail
        refine (eqIntS_any v2 v1 L L _ _ _ own2 own1 (by omega)).mono ?_
        rintro e w3 ⟨rfl, g3⟩
        rw [decide_eq_true rfl]
        have own1 := g3.row own1
        have own2 := g3.row own2
        have gg := gg.trans g3
        go_wp2_with fail
        refine (markIntS_any v2 L 1 _ _ own2 (by omega) (by decide)).mono ?_
        rintro e w4 ⟨rfl, own2', g4, z4⟩
        have own1 := g4.row own1 HAP.out
        have gg := g4.gr gg (own_gr own2 (by have := g1.size; omega))
        obtain ⟨m, hn⟩ : ∃ m : Nat, m = 1 + L.length := ⟨_, rfl⟩
        rw [← hn]
        have HN := hidI hn
        have hn2 : m ≤ 42 := by omega
        clear hn
        have own2 := own2'
        clear own2'
        go_wp2_with fail
        refine (heldIntS_any v2 L.length 1 _ _ own2 (by omega) (by decide)).mono ?_
        rintro e w5 ⟨rfl, g5⟩
        rw [← HN.out]
        have own1 := g5.row own1
        have own2 := g5.row own2
        have gg := gg.trans g5
        go_wp2_with fail
        refine (iPathOfBall s n v _ (gg.ml hm) hs').mono ?_
        rintro e w6 ⟨g6, v6, rfl, own6⟩
        rw [← HL.out] at own6
        rw [← HOK.out]
        have gg := gg.trans g6
        have own1 := g6.row own1
        have own2 := g6.row own2
        go_wp2_with fail
        refine (eqIntS_any v6 v1 L L _ _ _ own6 own1 (by omega)).mono ?_
        rintro e w7 ⟨rfl, g7⟩
        rw [decide_eq_true rfl]
        have own2 := g7.row own2
        have gg := gg.trans g7
        go_wp2_with fail
        refine (heldIntS_any v2 L.length 1 _ _ own2 (by omega) (by decide)).mono ?_
        rintro e w8 ⟨rfl, g8⟩
        rw [← HN.out]
        have gg := gg.trans g8
        go_wp2
        go_ret
        exact ⟨rfl, gg⟩
end Go.Proofs.YtppjlcmfmbpkjaaDoor
