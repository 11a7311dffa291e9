/-
  Texts of my own, put together: KWA, M9, KWB.
-/
import Derived.Test.YtgkolikpojpffaaDoorGrLimbReckons31
set_option linter.unusedSimpArgs false
set_option linter.unusedVariables false
set_option maxRecDepth 100000
namespace Go.Am.Seat
open Go.Proofs Go.Am Go.Am.Num Go.Am.Kn
structure LaAll (slf : Self) : Prop where
  ad : CAddW slf
  sb : CSubW slf
  mu : CMulW slf
  dv : CDivW slf
  cm : CCmpW slf
  aw : ∀ X, ainv E slf 7 [] (mem1 ++ X) = some (.bool true, mem1 ++ X)
section
variable {self : Self} {nf : Nat} {x y : Nat}
end
noncomputable abbrev RL : Nat -> Self := fun n => runK E mem1 K1 n
theorem hRL : Runs RL K1 := runsK mem1 K1
theorem noL1 : NoL K1 := by
  have h : (limbFs.all fun f => !hasF K1 f) = true := by kernel_rfl
  intro f hf
  have := List.all_eq_true.1 h f hf
  simpa using this
end Go.Am.Seat
namespace Go.Am.Seat
open Go.Proofs Go.Am
theorem wf_u64 {n : Int} (h : (Lit.int .u64 n).wf = true) : 0 ≤ n /\ n < 18446744073709551616 := by
  unfold Lit.wf at h
  simp only [Bool.and_eq_true, decide_eq_true_eq] at h
  have h1 : IntKind.u64.min = 0 := by decide
  have h2 : IntKind.u64.max = 18446744073709551615 := by decide
  rw [h1, h2] at h
  omega
def fnOf (l : List Int) (j : Nat) : Nat := (l.getD j 0).toNat
theorem fnOf_lt {l : List Int} (h : ∀ n, n ∈ l -> (Lit.int .u64 n).wf = true) (j : Nat) : fnOf l j < 18446744073709551616 := by
  unfold fnOf
  rw [List.getD_eq_getElem?_getD]
  cases hg : l[j]? with
  | none => decide
  | some n =>
    have := wf_u64 (h n (List.mem_of_getElem? hg))
    show n.toNat < _
    omega
theorem words_wide {l : List Int} (hl : l.length = 8) (h : ∀ n, n ∈ l -> (Lit.int .u64 n).wf = true) : Value.agg ⟨l.map (Value.int .u64)⟩ = wide (fnOf l) := by
  unfold wide
  congr 2
  apply List.ext_getElem?
  intro j
  by_cases hj : j < 8
  . have hg : l[j]? = some l[j] := by simp [hl, hj]
    rw [rowOf_get hj, List.getElem?_map, hg]
    have := wf_u64 (h l[j] (by simp))
    unfold fnOf
    rw [List.getD_eq_getElem?_getD, hg]
    show some (Value.int .u64 l[j]) = some (Value.int .u64 ((l[j].toNat : Nat) : Int))
    rw [Int.toNat_of_nonneg this.1]
  . rw [List.getElem?_eq_none (by rw [List.length_map, hl]; omega), List.getElem?_eq_none (by rw [rowOf_length]; omega)]
end Go.Am.Seat
