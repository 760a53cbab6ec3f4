/-
  What the program's reader of trays returns: a grid exactly for the texts that are trays.
-/
import Derived.Test.YthjkeohnjggmiaaDoorImpl1a
namespace Go.Proofs.YthjkeohnjggmiaaDoor
open Go.RowKit
def cellText : ByteArray := ⟨#[35, 46, 111, 97, 98, 99, 100, 101, 102]⟩
theorem index_cell (b : UInt8) : (Lib.indexByte [35, 46, 111, 97, 98, 99, 100, 101, 102] b < 0) ↔ isCellB b = false := by
  have h : ∀ n : Fin 256, (Lib.indexByte [35, 46, 111, 97, 98, 99, 100, 101, 102] (UInt8.ofNat n.val) < 0) ↔ isCellB (UInt8.ofNat n.val) = false := of_decide_eq_true (by kernel_rfl)
  have := h ⟨b.toNat, b.toNat_lt⟩
  simpa using this
def nameB (j : Nat) : UInt8 := UInt8.ofNat (97 + j)
theorem once_iff (c : List UInt8) : onceB c = true ↔ ∀ j, j < 6 → c.count (nameB j) ≤ 1 := by
  have e : onceB c = (List.range 6).all fun j => decide (c.count (nameB j) ≤ 1) := rfl
  rw [e]
  simp only [List.all_eq_true, List.mem_range, decide_eq_true_eq]
theorem cnt_count (c : List UInt8) (b : UInt8) (k : Nat) (h : k ≤ c.length) : cnt c b k = (c.take k).count b := by
  induction k with
  | zero => rfl
  | succ k ih =>
    rw [cnt, ih (by omega), List.take_add_one, List.count_append]
    have : c[k]? = some (at0 c k) := by
      unfold at0
      rw [List.getElem?_eq_getElem (by omega)]
      simp [List.getD, List.getElem?_eq_getElem (show k < c.length by omega)]
    rw [this]
    simp only [Option.toList, List.count_cons, List.count_nil, beq_iff_eq, Nat.zero_add]
theorem cnt_all (c : List UInt8) (b : UInt8) : cnt c b c.length = c.count b := by
  rw [cnt_count c b _ (Nat.le_refl _), List.take_length]
theorem all_at0 (c : List UInt8) (p : UInt8 → Bool) : c.all p = true ↔ ∀ j, j < c.length → p (at0 c j) = true := by
  rw [List.all_eq_true]
  constructor
  · intro h j hj
    refine h _ ?_
    unfold at0
    simp [List.getD, List.getElem?_eq_getElem hj]
  · intro h b hb
    obtain ⟨j, hj, rfl⟩ := List.getElem_of_mem hb
    have := h j hj
    unfold at0 at this
    simpa [List.getD, List.getElem?_eq_getElem hj] using this
def nameCells : Array Value := #[.int .u8 97, .int .u8 98, .int .u8 99, .int .u8 100, .int .u8 101, .int .u8 102]
theorem nameCells_get (j : Nat) (h : j < 6) : nameCells[j]? = some (.int .u8 (nameB j).toNat) := by
  have : j = 0 ∨ j = 1 ∨ j = 2 ∨ j = 3 ∨ j = 4 ∨ j = 5 := by omega
  rcases this with rfl | rfl | rfl | rfl | rfl | rfl <;> rfl
def goodC (c : List UInt8) : Bool := c.all isCellB && onceB c
set_option maxHeartbeats 2000000 in
set_option maxRecDepth 100000 in
theorem hasCells_any (W H : Nat) (c : List UInt8) (w : World) (hW : W ≤ 7) (hH : H ≤ 7) (h36 : nn W H ≤ 36) (hlen : c.length = nn W H) :
    Calls Tryd.prog 81 #[.agg (gv W H c)] w (Ret (.bool (goodC c)) w) := by
  have HL := hidI hlen
  clear hlen
  have gg := Gr.refl w
  go_enter Tryd.func81, Tryd.ntmps81
  go_wp2_with (first | (refine r_box 46 _ (gv W H c) rfl rfl ?_; intro w1 B1 N1; have g1 := N1.gr; have b1 : Blk w1 B1 (gv W H c) 46 := N1.blk; have l1 := N1.lo; have t1 := N1.hi; have z1 := g1.size; have gg := gg.trans g1; clear N1; obtain ⟨b1_0, b1_1, b1_2⟩ := gcells b1) | (refine r_load_row 46 _ _ rfl _ _ _ b1 Tryd.underlying46 rfl (Tryd.ginfo' _ _ _) rfl ?_) | (go_at_call 53; refine (countAll_any W H c _ hW hH).mono ?_; rintro e w2 ⟨rfl, g2⟩; have z2 := g2.size; have b1 := g2.blk b1; obtain ⟨b1_0, b1_1, b1_2⟩ := gcells b1; have gg := gg.trans g2))
  go_loop [3, 8] (fun _ i => ∃ k : Nat, k ≤ nn W H ∧ i = .int .i64 k ∧ Hid (∀ j, j < k → isCellB (at0 c j) = true)) (fun _ i => nn W H - (intOf i).toNat)
  case atStart => exact ⟨0, Nat.zero_le _, rfl, fun j hj => by omega⟩
  case round =>
    obtain ⟨k, hk, rfl, HA⟩ := hrel
    by_cases hlt : k < nn W H
    · have hix := Tryd.gix B1 k (by omega)
      have hc := b1_2 k (by omega)
      have hk36 : k < 36 := by omega
      by_cases hb : isCellB (at0 c k) = true
      · have hneg : ¬ (Lib.indexByte [35, 46, 111, 97, 98, 99, 100, 101, 102] (at0 c k) < 0) := by rw [index_cell, hb]; simp
        have HB := hidI hb
        clear hb
        go_wp2_with (go_at_call 103; refine (Tryd.strings_IndexByte _ _ _).mono ?_; rintro e wSame ⟨rfl, rfl⟩)
        go_round
        case rel => exact ⟨k + 1, by omega, by go_num, fun j hj => if h : j < k then HA.out j h else by rw [show j = k by omega]; exact HB.out⟩
        case measure => simp [intOf]; omega
      · have hb' : isCellB (at0 c k) = false := by simpa using hb
        have hneg : Lib.indexByte [35, 46, 111, 97, 98, 99, 100, 101, 102] (at0 c k) < 0 := (index_cell _).2 hb'
        have HV := hidI (show goodC c = false from by
          unfold goodC
          rw [show c.all isCellB = false from by
            rw [← Bool.not_eq_true, all_at0]
            intro h
            rw [h k (by have := HL.out; omega)] at hb'
            cases hb']
          rfl)
        clear hb hb'
        go_wp2_with (go_at_call 103; refine (Tryd.strings_IndexByte _ _ _).mono ?_; rintro e wSame ⟨rfl, rfl⟩)
        go_ret
        exact ⟨ret_bool (by rw [HV.out] <;> (first | rfl | (simp; done) | (simp; omega))), gg⟩
    · obtain rfl : k = nn W H := by omega
      have HALL := hidI (show c.all isCellB = true from by rw [all_at0]; intro j hj; exact HA.out j (by have := HL.out; omega))
      clear hlt
      have kc := fun (w : World) (C : Array Value) (n c : Nat) => Lib.run_convert_bytes_const (P := Tryd.prog) w 38 5 C n c Tryd.underlying38 Tryd.underlying5
      go_wp2
      go_loopw [5, 21] (fun _ i wr => ∃ k : Nat, k ≤ 6 ∧ i = .int .i64 k ∧ Own wr w2.heap.size (.cells nameCells 5 (6, 7)) ∧ Blk wr B1 (gv W H c) 46 ∧ Gr w wr ∧ Hid (∀ j, j < k → c.count (nameB j) ≤ 1)) (fun _ i _ => 6 - (intOf i).toNat)
      case atStart => exact ⟨0, by omega, rfl, Own.new w2 _, heap_alloc_keep b1, gg.alloc _, fun j hj => by omega⟩
      case round =>
        obtain ⟨k, hk, rfl, bn, b1, gg, HN⟩ := hrel
        by_cases hlt : k < 6
        · have hc : wr.cell? ⟨w2.heap.size, k, none⟩ = some (.int .u8 (nameB k).toNat) := (bn.cell k).trans (nameCells_get k hlt)
          have hcl := cnt_all c (nameB k)
          rw [HL.out] at hcl
          by_cases hgt : c.count (nameB k) ≤ 1
          · have hle : cnt c (nameB k) (nn W H) ≤ 1 := by omega
            have HC := hidI hgt
            clear hcl hgt
            go_wp2_with (first | (refine r_load_row 46 _ _ rfl _ _ _ b1 Tryd.underlying46 rfl (Tryd.ginfo' _ _ _) rfl ?_) | (go_at_call 52; refine (countByte_any W H c _ _ hW hH h36).mono ?_; rintro e w5 ⟨rfl, g5⟩; have z5 := g5.size; have b1 := g5.blk b1; have gg := gg.trans g5))
            go_roundw
            case rel => exact ⟨k + 1, by omega, by go_num, g5.own bn, b1, gg, fun j hj => if h : j < k then HN.out j h else by rw [show j = k by omega]; exact HC.out⟩
            case measure => simp [intOf]; omega
          · have hle : 1 < cnt c (nameB k) (nn W H) := by omega
            have HV := hidI (show goodC c = false from by
              unfold goodC
              rw [show onceB c = false from by
                rw [← Bool.not_eq_true, once_iff]
                intro h
                exact hgt (h k hlt), Bool.and_false])
            clear hcl hgt
            go_wp2_with (first | (refine r_load_row 46 _ _ rfl _ _ _ b1 Tryd.underlying46 rfl (Tryd.ginfo' _ _ _) rfl ?_) | (go_at_call 52; refine (countByte_any W H c _ _ hW hH h36).mono ?_; rintro e w5 ⟨rfl, g5⟩; have z5 := g5.size; have b1 := g5.blk b1; have gg := gg.trans g5))
            go_ret
            exact ⟨ret_bool (by rw [HV.out] <;> (first | rfl | (simp; done) | (simp; omega))), gg⟩
        · obtain rfl : k = 6 := by omega
          have HV := hidI (show goodC c = true from by
            unfold goodC
            rw [HALL.out, (once_iff c).2 HN.out]
            rfl)
          go_wp2
          go_ret
          exact ⟨ret_bool (by rw [HV.out] <;> (first | rfl | (simp; done) | (simp; omega))), gg⟩
end Go.Proofs.YthjkeohnjggmiaaDoor
