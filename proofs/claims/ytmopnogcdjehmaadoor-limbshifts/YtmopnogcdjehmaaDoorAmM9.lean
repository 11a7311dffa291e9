/-
  LimbShifts, over an argument's words (own work).
-/
import Derived.Test.YtmopnogcdjehmaaDoorAmM8
set_option linter.unusedSimpArgs false
set_option linter.unusedVariables false
namespace Go.Am.Seat
open Go.Proofs Go.Am
set_option maxRecDepth 100000

theorem wf_u64 {n : Int} (h : (Lit.int .u64 n).wf = true) : 0 ≤ n ∧ n < 18446744073709551616 := by
  unfold Lit.wf at h
  simp only [Bool.and_eq_true, decide_eq_true_eq] at h
  have h1 : IntKind.u64.min = 0 := by decide
  have h2 : IntKind.u64.max = 18446744073709551615 := by decide
  rw [h1, h2] at h
  omega
theorem wf_i64 {n : Int} (h : (Lit.int .i64 n).wf = true) : -9223372036854775808 ≤ n ∧ n < 9223372036854775808 := by
  unfold Lit.wf at h
  simp only [Bool.and_eq_true, decide_eq_true_eq] at h
  have h1 : IntKind.i64.min = -9223372036854775808 := by decide
  have h2 : IntKind.i64.max = 9223372036854775807 := by decide
  rw [h1, h2] at h
  omega

/-- A number's words, as a function. -/
def fnOf (l : List Int) (j : Nat) : Nat := (l.getD j 0).toNat
theorem fnOf_lt {l : List Int} (h : ∀ n, n ∈ l → (Lit.int .u64 n).wf = true) (j : Nat) : fnOf l j < 18446744073709551616 := by
  unfold fnOf
  rw [List.getD_eq_getElem?_getD]
  cases hg : l[j]? with
  | none => decide
  | some n =>
    have := wf_u64 (h n (List.mem_of_getElem? hg))
    show n.toNat < _
    omega
theorem words_wide {l : List Int} (hl : l.length = 8) (h : ∀ n, n ∈ l → (Lit.int .u64 n).wf = true) : Value.agg ⟨l.map (Value.int .u64)⟩ = wide (fnOf l) := by
  unfold wide
  congr 2
  apply List.ext_getElem?
  intro j
  by_cases hj : j < 8
  · have hg : l[j]? = some l[j] := by simp [hl, hj]
    rw [rowOf_get hj, List.getElem?_map, hg]
    have := wf_u64 (h l[j] (by simp))
    unfold fnOf
    rw [List.getD_eq_getElem?_getD, hg]
    show some (Value.int .u64 l[j]) = some (Value.int .u64 ((l[j].toNat : Nat) : Int))
    rw [Int.toNat_of_nonneg this.1]
  · rw [List.getElem?_eq_none (by rw [List.length_map, hl]; omega), List.getElem?_eq_none (by rw [rowOf_length]; omega)]

theorem law5w (a : List Int) (la : a.length = 8) (wa : ∀ n, n ∈ a → (Lit.int .u64 n).wf = true) (n : Int) (wn : (Lit.int .i64 n).wf = true) (i : Int) (wi : (Lit.int .i64 i).wf = true) :
    ∃ m', runK E mem1 K1 2001 5 [.agg ⟨a.map (.int .u64)⟩, .int .i64 n, .int .i64 i] mem1 = some (.bool true, m') := by
  rw [words_wide la wa]
  exact law5 (fnOf a) (fnOf_lt wa) n i (wf_i64 wn).1 (wf_i64 wn).2 (wf_i64 wi).1 (wf_i64 wi).2
end Go.Am.Seat
