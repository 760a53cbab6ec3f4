/-
  Whether a tray reaches another one, how far it lies, and how many shortest words there are: in the program and in the model, and the laws.
-/
import Derived.Test.YtcldlnleiiloaaaGreatDoorReachF
namespace Go.Proofs.YtcldlnleiiloaaaGreatDoor
open Go.RowKit
theorem fndS_some {l u : List UInt8} {S : List (Sta Grid)} {m : Grid} (h : fndS l u = some (S, m)) : 0 < S.length ∧ S.length ≤ 300 := by
  unfold fndS at h
  cases hr : rcS l with
  | none => rw [hr] at h; cases h
  | some T =>
    rw [hr] at h
    cases hp : parse u with
    | none => rw [hp] at h; cases h
    | some x =>
      rw [hp] at h
      obtain ⟨h0, h300, -⟩ := rcS_known hr
      cases h
      exact ⟨h0, h300⟩
def frB (l u : List UInt8) : Bool := match fndS l u with
  | none => false
  | some (S, m) => match findS S m with
    | none => false
    | some _ => true
def frOk (l u : List UInt8) : Bool := match fndS l u with
  | none => false
  | some _ => true
def fdN (l u : List UInt8) : Int := match fndS l u with
  | none => 0
  | some (S, m) => match findS S m with
    | none => 0
    | some k => (sta S k).far
def fdOk (l u : List UInt8) : Bool := match fndS l u with
  | none => false
  | some (S, m) => match findS S m with
    | none => false
    | some _ => true
def fcN (l u : List UInt8) : Int := match fndS l u with
  | none => 0
  | some (S, m) => match findS S m with
    | none => 0
    | some k => (sta S k).words
end Go.Proofs.YtcldlnleiiloaaaGreatDoor
