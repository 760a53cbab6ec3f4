/-
  The program's states in memory: rows of structs, and the map from grids to their numbers.
-/
import Derived.Test.YtpdmfbhjneodeaaDoorReachP
import Derived.Test.YtpdmfbhjneodeaaDoorOps
import Derived.Test.YtpdmfbhjneodeaaDoorTiltY
import Derived.Test.YtpdmfbhjneodeaaDoorDirs
import Derived.Test.YtpdmfbhjneodeaaDoorKeep
import Derived.Test.YtpdmfbhjneodeaaDoorKeyG
import Derived.Maps.OwnSet
import Derived.Maps.OwnOps
namespace Go.Proofs.YtpdmfbhjneodeaaDoor
open Go.RowKit
open Go.Maps (Keyed)
instance : Inhabited Grid := ⟨⟨0, 0, []⟩⟩
def nilV : Value := .slice none 0 0
def lastB (s : Sta Grid) : Nat := if s.far = 0 then 0 else (dB s.dir).toNat
/-- The cells of a state. -/
def cellS (s : Sta Grid) (v : Value) : List Value := (gvG s.t).toList ++ [.int .i64 s.far, .int .i64 s.words, .int .i64 s.from_, .int .u8 (lastB s), v]
theorem gvl (g : Grid) : (gvG g).toList.length = 38 := by rw [Array.length_toList]; exact gv_size _ _ _
theorem cellS_length (s : Sta Grid) (v : Value) : (cellS s v).length = 43 := by
  unfold cellS
  rw [List.length_append, gvl]
  rfl
theorem cellS_hd (s : Sta Grid) (v : Value) (i : Nat) (hi : i < 38) : (cellS s v)[i]? = (gvG s.t).toList[i]? := by
  unfold cellS
  rw [List.getElem?_append_left (by rw [gvl]; exact hi)]
theorem cellS_tl (s : Sta Grid) (v : Value) (i : Nat) : (cellS s v)[38 + i]? = [Value.int .i64 s.far, .int .i64 s.words, .int .i64 s.from_, .int .u8 (lastB s), v][i]? := by
  unfold cellS
  rw [List.getElem?_append_right (by rw [gvl]; omega), gvl, Nat.add_sub_cancel_left]
theorem cellS_set39 (s : Sta Grid) (v : Value) (x : Int) : (cellS s v).set 39 (.int .i64 x) = cellS { s with words := x } v := by
  unfold cellS
  rw [List.set_append_right _ _ (by rw [gvl]; omega), gvl]
  rfl
theorem cellS_set42 (s : Sta Grid) (v u : Value) : (cellS s v).set 42 u = cellS s u := by
  unfold cellS
  rw [List.set_append_right _ _ (by rw [gvl]; omega), gvl]
  rfl
theorem cellS_one (s : Sta Grid) (v : Value) (hv : v.oneCell' = true) : ∀ u ∈ cellS s v, u.oneCell' = true := by
  intro u hu
  unfold cellS at hu
  rcases List.mem_append.1 hu with h | h
  · exact gv_one _ _ _ u h
  · simp only [List.mem_cons, List.not_mem_nil, or_false] at h
    rcases h with rfl | rfl | rfl | rfl | rfl
    · rfl
    · rfl
    · rfl
    · rfl
    · exact hv
def rowsI (S : List (Sta Grid)) (nx : Nat → Value) : List (List Value) := (List.range S.length).map fun j => cellS (sta S j) (nx j)
theorem rowsI_length (S : List (Sta Grid)) (nx : Nat → Value) : (rowsI S nx).length = S.length := by simp [rowsI]
theorem rowsI_wide (S : List (Sta Grid)) (nx : Nat → Value) : Wide 43 (rowsI S nx) := by
  intro r hr
  unfold rowsI at hr
  obtain ⟨j, _, rfl⟩ := List.mem_map.1 hr
  exact cellS_length _ _
theorem rowsI_get (S : List (Sta Grid)) (nx : Nat → Value) (j : Nat) (hj : j < S.length) : (rowsI S nx).getD j [] = cellS (sta S j) (nx j) := by
  unfold rowsI
  rw [List.getD_eq_getElem?_getD, List.getElem?_map, List.getElem?_range hj]
  rfl
theorem rowsI_set (S : List (Sta Grid)) (nx : Nat → Value) (k : Nat) (s : Sta Grid) (v : Value) (hk : k < S.length) : (rowsI S nx).set k (cellS s v) = rowsI (S.set k s) (fun m => if m = k then v else nx m) := by
  apply List.ext_getElem?
  intro i
  unfold rowsI
  rw [List.getElem?_set, List.length_map, List.length_range, List.length_set]
  by_cases e : k = i
  · subst e
    rw [if_pos rfl, if_pos hk, List.getElem?_map, List.getElem?_range hk]
    show _ = some (cellS (sta (S.set k s) k) (if k = k then v else nx k))
    rw [if_pos rfl, sta_set _ _ _ _ hk, if_pos rfl]
  · rw [if_neg e, List.getElem?_map, List.getElem?_map]
    rcases Nat.lt_or_ge i S.length with hi | hi
    · rw [List.getElem?_range hi]
      show some (cellS (sta S i) (nx i)) = some (cellS (sta (S.set k s) i) (if i = k then v else nx i))
      rw [if_neg (fun h => e h.symm), sta_set _ _ _ _ hk, if_neg (fun h => e h.symm)]
    · rw [List.getElem?_eq_none (by simpa using hi)]
      rfl
theorem rowsI_app (S : List (Sta Grid)) (nx : Nat → Value) (s : Sta Grid) : rowsI S nx ++ [cellS s (nx S.length)] = rowsI (S ++ [s]) nx := by
  unfold rowsI
  rw [List.length_append, List.length_singleton, List.range_succ, List.map_append]
  congr 1
  · apply List.map_congr_left
    intro j hj
    rw [sta_app _ _ _ (List.mem_range.1 hj)]
  · show _ = [cellS (sta (S ++ [s]) S.length) (nx S.length)]
    rw [sta_new]
theorem fn_same (nx : Nat → Value) (k : Nat) : (fun m => if m = k then nx k else nx m) = nx := by
  funext m
  by_cases e : m = k
  · rw [if_pos e, e]
  · rw [if_neg e]
/-- A number of words more. -/
theorem rows_add (S : List (Sta Grid)) (nx : Nat → Value) (n k : Nat) (hk : k < S.length) (hf : (sta S k).far = (sta S n).far + 1) :
    (rowsI S nx).set k (((rowsI S nx).getD k []).set 39 (.int .i64 (wrap64 ((sta S k).words + (sta S n).words)))) = rowsI (addS S n k) nx := by
  rw [rowsI_get S nx k hk, cellS_set39, rowsI_set S nx k _ _ hk, fn_same]
  unfold addS
  rw [if_pos hf]
theorem rows_push (S : List (Sta Grid)) (nx : Nat → Value) (n k : Nat) (hn : n < S.length) (u : Value) :
    (rowsI S nx).set n (((rowsI S nx).getD n []).set 42 u) = rowsI (pushS S n k) (fun m => if m = n then u else nx m) := by
  rw [rowsI_get S nx n hn, cellS_set42]
  rw [show cellS (sta S n) u = cellS { sta S n with next := (sta S n).next ++ [k] } u from rfl, rowsI_set S nx n _ _ hn]
  rfl
def natsV (l : List Nat) : List Value := l.map fun k : Nat => Value.int .i64 (k : Int)
theorem natsV_one (l : List Nat) : ∀ v ∈ natsV l, v.oneCell' = true := by
  intro v hv
  obtain ⟨b, _, rfl⟩ := List.mem_map.1 hv
  rfl
theorem natsV_app (l : List Nat) (k : Nat) : natsV l ++ [Value.int .i64 (k : Int)] = natsV (l ++ [k]) := by simp [natsV]
/-- All trays of one size. -/
structure Sized (W H : Nat) (g : Grid) : Prop where
  cel : Cel g
  w : g.w = W
  h : g.h = H
theorem Sized.tilt {W H : Nat} : ∀ e (y : Grid), e < 4 → Sized W H y → Sized W H (tiltG e y) := fun _ _ he h => ⟨h.cel.tilt he, h.w, h.h⟩
theorem gvG_inj {W H : Nat} {g k : Grid} (hg : Sized W H g) (hk : Sized W H k) (h : gvG g = gvG k) : g = k := by
  have hc : g.c = k.c := by
    apply list_ext (by rw [hg.cel.len, hk.cel.len, hg.w, hg.h, hk.w, hk.h])
    intro i hi
    have h36 : i < 36 := by have := hg.cel.len; have := hg.cel.n36; omega
    have e1 := gv_c g.w g.h g.c i h36
    have e2 := gv_c k.w k.h k.c i h36
    have : (gv g.w g.h g.c)[2 + i]? = (gv k.w k.h k.c)[2 + i]? := by
      show (gvG g)[2 + i]? = (gvG k)[2 + i]?
      rw [h]
    rw [e1, e2] at this
    simp only [Option.some.injEq, byteV, Value.int.injEq, true_and] at this
    exact UInt8.toNat_inj.1 (by omega)
  obtain ⟨gw, gh, gc⟩ := g
  obtain ⟨kw, kh, kc⟩ := k
  simp only at hc
  have h1 : gw = kw := hg.w.trans hk.w.symm
  have h2 : gh = kh := hg.h.trans hk.h.symm
  rw [h1, h2, hc]
theorem findS_app (S : List (Sta Grid)) (s : Sta Grid) (x : Grid) : findS (S ++ [s]) x = match findS S x with
    | some k => some k
    | none => if s.t = x then some S.length else none := by
  induction S with
  | nil =>
    show (if s.t = x then some 0 else (findS [] x).map (· + 1)) = _
    rfl
  | cons t S ih =>
    show (if t.t = x then some 0 else (findS (S ++ [s]) x).map (· + 1)) = _
    by_cases e : t.t = x
    · rw [if_pos e]
      have : findS (t :: S) x = some 0 := by show (if t.t = x then _ else _) = _; rw [if_pos e]
      rw [this]
    · rw [if_neg e, ih]
      have : findS (t :: S) x = (findS S x).map (· + 1) := by show (if t.t = x then _ else _) = _; rw [if_neg e]
      rw [this]
      cases findS S x with
      | some k => rfl
      | none =>
        show (if s.t = x then some S.length else none).map (· + 1) = if s.t = x then some (S.length + 1) else none
        by_cases e2 : s.t = x
        · rw [if_pos e2, if_pos e2]; rfl
        · rw [if_neg e2, if_neg e2]; rfl
theorem findS_congr : ∀ {S T : List (Sta Grid)} (x : Grid), S.length = T.length → (∀ j, (sta S j).t = (sta T j).t) → findS S x = findS T x
  | [], [], _, _, _ => rfl
  | [], _ :: _, _, h, _ => by simp at h
  | _ :: _, [], _, h, _ => by simp at h
  | s :: S, t :: T, x, h, ht => by
    have h0 : s.t = t.t := ht 0
    have := findS_congr (S := S) (T := T) x (by simpa using h) (fun j => ht (j + 1))
    show (if s.t = x then _ else _) = (if t.t = x then _ else _)
    rw [h0, this]
theorem findS_link (S : List (Sta Grid)) (n k : Nat) (x : Grid) (hn : n < S.length) (hk : k < S.length) : findS (linkS S n k) x = findS S x :=
  findS_congr x (linkS_length S n k) fun j => (sta_link S n k j hn hk).1.t
end Go.Proofs.YtpdmfbhjneodeaaDoor
