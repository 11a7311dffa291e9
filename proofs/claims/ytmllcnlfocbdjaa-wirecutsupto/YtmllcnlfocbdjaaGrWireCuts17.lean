/-
  Texts of my own, put together: W10, W11, W12.
-/
import Derived.Test.YtmllcnlfocbdjaaGrWireCuts16
/-
  WireWrites: whole, over what its calls answer (own work).
-/
set_option linter.unusedSimpArgs false
set_option linter.unusedVariables false
namespace Go.Am.Seat
open Go.Proofs Go.Am
set_option maxRecDepth 100000

section
variable (s0 s1 s2 s3 s4 s5 s6 s7 s8 : ByteArray)
theorem wwb0 : abox E.P 42 (.agg ⟨[.string s0, .string s1, .string s2, .string s3, .string s4, .string s5]⟩) mem0 = some (.pointer (some ⟨1 + 0, 0, none⟩), (mem0 ++ [.row false 42 [.string s0, .string s1, .string s2, .string s3, .string s4, .string s5]])) := by kernel_rfl
theorem wwb1 : abox E.P 44 (.agg ⟨[.string s6, .string s7, .string s8]⟩) (mem0 ++ [.row false 42 [.string s0, .string s1, .string s2, .string s3, .string s4, .string s5]]) = some (.pointer (some ⟨1 + 1, 0, none⟩), (mem0 ++ [.row false 42 [.string s0, .string s1, .string s2, .string s3, .string s4, .string s5], .row false 44 [.string s6, .string s7, .string s8]])) := by kernel_rfl
theorem wwf0_0 : afieldAddr E.P 42 (.pointer (some ⟨1 + 0, 0, none⟩)) 0 = some (.pointer (some ⟨1 + 0, 0, none⟩)) := by kernel_rfl
theorem wwf0_1 : afieldAddr E.P 42 (.pointer (some ⟨1 + 0, 0, none⟩)) 1 = some (.pointer (some ⟨1 + 0, 1, none⟩)) := by kernel_rfl
theorem wwf0_2 : afieldAddr E.P 42 (.pointer (some ⟨1 + 0, 0, none⟩)) 2 = some (.pointer (some ⟨1 + 0, 2, none⟩)) := by kernel_rfl
theorem wwf0_3 : afieldAddr E.P 42 (.pointer (some ⟨1 + 0, 0, none⟩)) 3 = some (.pointer (some ⟨1 + 0, 3, none⟩)) := by kernel_rfl
theorem wwf0_4 : afieldAddr E.P 42 (.pointer (some ⟨1 + 0, 0, none⟩)) 4 = some (.pointer (some ⟨1 + 0, 4, none⟩)) := by kernel_rfl
theorem wwf0_5 : afieldAddr E.P 42 (.pointer (some ⟨1 + 0, 0, none⟩)) 5 = some (.pointer (some ⟨1 + 0, 5, none⟩)) := by kernel_rfl
theorem wwf1_0 : afieldAddr E.P 44 (.pointer (some ⟨1 + 1, 0, none⟩)) 0 = some (.pointer (some ⟨1 + 1, 0, none⟩)) := by kernel_rfl
theorem wwf1_1 : afieldAddr E.P 44 (.pointer (some ⟨1 + 1, 0, none⟩)) 1 = some (.pointer (some ⟨1 + 1, 1, none⟩)) := by kernel_rfl
theorem wwf1_2 : afieldAddr E.P 44 (.pointer (some ⟨1 + 1, 0, none⟩)) 2 = some (.pointer (some ⟨1 + 1, 2, none⟩)) := by kernel_rfl
theorem wwc0_0 : cellAt (mem0 ++ [.row false 42 [.string s0, .string s1, .string s2, .string s3, .string s4, .string s5], .row false 44 [.string s6, .string s7, .string s8]]) (1 + 0) 0 = some (.string s0) := by kernel_rfl
theorem wwc0_1 : cellAt (mem0 ++ [.row false 42 [.string s0, .string s1, .string s2, .string s3, .string s4, .string s5], .row false 44 [.string s6, .string s7, .string s8]]) (1 + 0) 1 = some (.string s1) := by kernel_rfl
theorem wwc0_2 : cellAt (mem0 ++ [.row false 42 [.string s0, .string s1, .string s2, .string s3, .string s4, .string s5], .row false 44 [.string s6, .string s7, .string s8]]) (1 + 0) 2 = some (.string s2) := by kernel_rfl
theorem wwc0_3 : cellAt (mem0 ++ [.row false 42 [.string s0, .string s1, .string s2, .string s3, .string s4, .string s5], .row false 44 [.string s6, .string s7, .string s8]]) (1 + 0) 3 = some (.string s3) := by kernel_rfl
theorem wwc0_4 : cellAt (mem0 ++ [.row false 42 [.string s0, .string s1, .string s2, .string s3, .string s4, .string s5], .row false 44 [.string s6, .string s7, .string s8]]) (1 + 0) 4 = some (.string s4) := by kernel_rfl
theorem wwc0_5 : cellAt (mem0 ++ [.row false 42 [.string s0, .string s1, .string s2, .string s3, .string s4, .string s5], .row false 44 [.string s6, .string s7, .string s8]]) (1 + 0) 5 = some (.string s5) := by kernel_rfl
theorem wwc1_0 : cellAt (mem0 ++ [.row false 42 [.string s0, .string s1, .string s2, .string s3, .string s4, .string s5], .row false 44 [.string s6, .string s7, .string s8], .row false 9 [.string s0, .string s1, .string s2, .string s3, .string s4, .string s5]]) (1 + 1) 0 = some (.string s6) := by kernel_rfl
theorem wwc1_1 : cellAt (mem0 ++ [.row false 42 [.string s0, .string s1, .string s2, .string s3, .string s4, .string s5], .row false 44 [.string s6, .string s7, .string s8], .row false 9 [.string s0, .string s1, .string s2, .string s3, .string s4, .string s5]]) (1 + 1) 1 = some (.string s7) := by kernel_rfl
theorem wwc1_2 : cellAt (mem0 ++ [.row false 42 [.string s0, .string s1, .string s2, .string s3, .string s4, .string s5], .row false 44 [.string s6, .string s7, .string s8], .row false 9 [.string s0, .string s1, .string s2, .string s3, .string s4, .string s5]]) (1 + 1) 2 = some (.string s8) := by kernel_rfl
theorem wws0 : abuildSlice E.P 23 6 [(0, .string s0), (1, .string s1), (2, .string s2), (3, .string s3), (4, .string s4), (5, .string s5)] (mem0 ++ [.row false 42 [.string s0, .string s1, .string s2, .string s3, .string s4, .string s5], .row false 44 [.string s6, .string s7, .string s8]]) = some (.slice (some ⟨1 + 2, 0, none⟩) 6 6, (mem0 ++ [.row false 42 [.string s0, .string s1, .string s2, .string s3, .string s4, .string s5], .row false 44 [.string s6, .string s7, .string s8], .row false 9 [.string s0, .string s1, .string s2, .string s3, .string s4, .string s5]])) := by kernel_rfl
theorem wws1 : abuildSlice E.P 23 3 [(0, .string s6), (1, .string s7), (2, .string s8)] (mem0 ++ [.row false 42 [.string s0, .string s1, .string s2, .string s3, .string s4, .string s5], .row false 44 [.string s6, .string s7, .string s8], .row false 9 [.string s0, .string s1, .string s2, .string s3, .string s4, .string s5]]) = some (.slice (some ⟨1 + 3, 0, none⟩) 3 3, (mem0 ++ [.row false 42 [.string s0, .string s1, .string s2, .string s3, .string s4, .string s5], .row false 44 [.string s6, .string s7, .string s8], .row false 9 [.string s0, .string s1, .string s2, .string s3, .string s4, .string s5], .row false 9 [.string s6, .string s7, .string s8]])) := by kernel_rfl
theorem wws2 : abuildSlice E.P 71 2 [(0, .slice (some ⟨1 + 2, 0, none⟩) 6 6), (1, .slice (some ⟨1 + 3, 0, none⟩) 3 3)] (mem0 ++ [.row false 42 [.string s0, .string s1, .string s2, .string s3, .string s4, .string s5], .row false 44 [.string s6, .string s7, .string s8], .row false 9 [.string s0, .string s1, .string s2, .string s3, .string s4, .string s5], .row false 9 [.string s6, .string s7, .string s8]]) = some (.slice (some ⟨1 + 4, 0, none⟩) 2 2, (mem0 ++ [.row false 42 [.string s0, .string s1, .string s2, .string s3, .string s4, .string s5], .row false 44 [.string s6, .string s7, .string s8], .row false 9 [.string s0, .string s1, .string s2, .string s3, .string s4, .string s5], .row false 9 [.string s6, .string s7, .string s8], .row false 23 [.slice (some ⟨1 + 2, 0, none⟩) 6 6, .slice (some ⟨1 + 3, 0, none⟩) 3 3]])) := by kernel_rfl
theorem wwl0 : aload E.P 42 (.pointer (some ⟨1 + 0, 0, none⟩)) (mem0 ++ [.row false 42 [.string s0, .string s1, .string s2, .string s3, .string s4, .string s5], .row false 44 [.string s6, .string s7, .string s8], .row false 9 [.string s0, .string s1, .string s2, .string s3, .string s4, .string s5], .row false 9 [.string s6, .string s7, .string s8], .row false 23 [.slice (some ⟨1 + 2, 0, none⟩) 6 6, .slice (some ⟨1 + 3, 0, none⟩) 3 3], .row false 9 [.string s0, .string s1, .string s2, .string s3, .string s4, .string s5, .string s6, .string s7, .string s8]]) = some (.agg ⟨[.string s0, .string s1, .string s2, .string s3, .string s4, .string s5]⟩) := by kernel_rfl
theorem wwl1 : aload E.P 44 (.pointer (some ⟨1 + 1, 0, none⟩)) (mem0 ++ [.row false 42 [.string s0, .string s1, .string s2, .string s3, .string s4, .string s5], .row false 44 [.string s6, .string s7, .string s8], .row false 9 [.string s0, .string s1, .string s2, .string s3, .string s4, .string s5], .row false 9 [.string s6, .string s7, .string s8], .row false 23 [.slice (some ⟨1 + 2, 0, none⟩) 6 6, .slice (some ⟨1 + 3, 0, none⟩) 3 3], .row false 9 [.string s0, .string s1, .string s2, .string s3, .string s4, .string s5, .string s6, .string s7, .string s8], .row false 3 [.int .i64 32, .int .i64 32, .int .i64 128, .int .i64 32, .int .i64 32, .int .i64 64]]) = some (.agg ⟨[.string s6, .string s7, .string s8]⟩) := by kernel_rfl
theorem wwl2 : aload E.P 42 (.pointer (some ⟨1 + 0, 0, none⟩)) (List.map sealed (mem0 ++ [.row false 42 [.string s0, .string s1, .string s2, .string s3, .string s4, .string s5], .row false 44 [.string s6, .string s7, .string s8], .row false 9 [.string s0, .string s1, .string s2, .string s3, .string s4, .string s5], .row false 9 [.string s6, .string s7, .string s8], .row false 23 [.slice (some ⟨1 + 2, 0, none⟩) 6 6, .slice (some ⟨1 + 3, 0, none⟩) 3 3], .row false 9 [.string s0, .string s1, .string s2, .string s3, .string s4, .string s5, .string s6, .string s7, .string s8], .row false 3 [.int .i64 32, .int .i64 32, .int .i64 128, .int .i64 32, .int .i64 32, .int .i64 64], .row false 3 [.int .i64 32, .int .i64 64, .int .i64 96]])) = some (.agg ⟨[.string s0, .string s1, .string s2, .string s3, .string s4, .string s5]⟩) := by kernel_rfl
theorem wwc2_0 : cellAt (List.map sealed (mem0 ++ [.row false 42 [.string s0, .string s1, .string s2, .string s3, .string s4, .string s5], .row false 44 [.string s6, .string s7, .string s8], .row false 9 [.string s0, .string s1, .string s2, .string s3, .string s4, .string s5], .row false 9 [.string s6, .string s7, .string s8], .row false 23 [.slice (some ⟨1 + 2, 0, none⟩) 6 6, .slice (some ⟨1 + 3, 0, none⟩) 3 3], .row false 9 [.string s0, .string s1, .string s2, .string s3, .string s4, .string s5, .string s6, .string s7, .string s8], .row false 3 [.int .i64 32, .int .i64 32, .int .i64 128, .int .i64 32, .int .i64 32, .int .i64 64], .row false 3 [.int .i64 32, .int .i64 64, .int .i64 96]])) (1 + 0) 0 = some (.string s0) := by kernel_rfl
theorem wwc2_1 : cellAt (List.map sealed (mem0 ++ [.row false 42 [.string s0, .string s1, .string s2, .string s3, .string s4, .string s5], .row false 44 [.string s6, .string s7, .string s8], .row false 9 [.string s0, .string s1, .string s2, .string s3, .string s4, .string s5], .row false 9 [.string s6, .string s7, .string s8], .row false 23 [.slice (some ⟨1 + 2, 0, none⟩) 6 6, .slice (some ⟨1 + 3, 0, none⟩) 3 3], .row false 9 [.string s0, .string s1, .string s2, .string s3, .string s4, .string s5, .string s6, .string s7, .string s8], .row false 3 [.int .i64 32, .int .i64 32, .int .i64 128, .int .i64 32, .int .i64 32, .int .i64 64], .row false 3 [.int .i64 32, .int .i64 64, .int .i64 96]])) (1 + 0) 1 = some (.string s1) := by kernel_rfl
theorem wwc2_2 : cellAt (List.map sealed (mem0 ++ [.row false 42 [.string s0, .string s1, .string s2, .string s3, .string s4, .string s5], .row false 44 [.string s6, .string s7, .string s8], .row false 9 [.string s0, .string s1, .string s2, .string s3, .string s4, .string s5], .row false 9 [.string s6, .string s7, .string s8], .row false 23 [.slice (some ⟨1 + 2, 0, none⟩) 6 6, .slice (some ⟨1 + 3, 0, none⟩) 3 3], .row false 9 [.string s0, .string s1, .string s2, .string s3, .string s4, .string s5, .string s6, .string s7, .string s8], .row false 3 [.int .i64 32, .int .i64 32, .int .i64 128, .int .i64 32, .int .i64 32, .int .i64 64], .row false 3 [.int .i64 32, .int .i64 64, .int .i64 96]])) (1 + 0) 2 = some (.string s2) := by kernel_rfl
end

theorem selfEqI (a : Int) : (a == a) = true := by simp
theorem callB5 : callableB E.P 15 = true := by kernel_rfl
theorem callB3 : callableB E.P 16 = true := by kernel_rfl
theorem callAn : callableB E.P 17 = true := by kernel_rfl
theorem callSz : callableB E.P 13 = true := by kernel_rfl
theorem callCc : callableB E.P 14 = true := by kernel_rfl
theorem wrAn : E.wr 17 = false := by kernel_rfl
theorem addr9 : addrT E.P 4 9 = false := by kernel_rfl

theorem ww_rest {nf : Nat} {F : Nat → Value} (s0 s1 s2 s3 s4 s5 s6 s7 s8 : ByteArray) (hsz : ∀ s ∈ [s0, s1, s2, s3, s4, s5, s6, s7, s8], s.data.toList.length ≤ 300)
    (c1 : CBytes 15 szKE2 (runQ E mem0 [] 2000).1) (c2 : CBytes 16 szRecord (runQ E mem0 [] 2000).1) (c3 : CAnswer 17 (runQ E mem0 [] 2000).1) (c4 : CJoin 10 (runQ E mem0 [] 2000).1)
    (h2 : F 2 = .pointer (some ⟨1 + 0, 0, none⟩)) (h3 : F 3 = .pointer (some ⟨1 + 1, 0, none⟩)) (h5 : F 5 = .slice (some ⟨1 + 2, 0, none⟩) 6 6) (h6 : F 6 = .slice (some ⟨1 + 3, 0, none⟩) 3 3) :
    ∃ F' m', acodeN E (runQ E mem0 [] 2000).1 nf (Code.seq (.region 11 rww_11 false) (.seq (.region 12 rww_12 false) (.seq (.region 13 rww_13 false) (.seq (.region 14 rww_14 false) (.seq (.region 15 rww_15 true) .ret))))) (lst F 105) (mem0 ++ [.row false 42 [.string s0, .string s1, .string s2, .string s3, .string s4, .string s5], .row false 44 [.string s6, .string s7, .string s8], .row false 9 [.string s0, .string s1, .string s2, .string s3, .string s4, .string s5], .row false 9 [.string s6, .string s7, .string s8], .row false 23 [.slice (some ⟨1 + 2, 0, none⟩) 6 6, .slice (some ⟨1 + 3, 0, none⟩) 3 3], .row false 9 [.string s0, .string s1, .string s2, .string s3, .string s4, .string s5, .string s6, .string s7, .string s8]]) = some (.ret, lst F' 105, m') ∧ F' 4 = .bool true := by
  have hs6 : ∀ s ∈ [s0, s1, s2, s3, s4, s5], s.size ≤ 1000 := fun s hs => by
    have h := hsz s (by simp only [List.mem_cons, List.not_mem_nil, or_false] at hs ⊢; rcases hs with h | h | h | h | h | h <;> simp [h])
    have : s.size = s.data.toList.length := rfl
    omega
  have hs3 : ∀ s ∈ [s6, s7, s8], s.size ≤ 1000 := fun s hs => by
    have h := hsz s (by simp only [List.mem_cons, List.not_mem_nil, or_false] at hs ⊢; rcases hs with h | h | h <;> simp [h])
    have : s.size = s.data.toList.length := rfl
    omega
  have e1 := c1 (mem0 ++ [.row false 42 [.string s0, .string s1, .string s2, .string s3, .string s4, .string s5], .row false 44 [.string s6, .string s7, .string s8], .row false 9 [.string s0, .string s1, .string s2, .string s3, .string s4, .string s5], .row false 9 [.string s6, .string s7, .string s8], .row false 23 [.slice (some ⟨1 + 2, 0, none⟩) 6 6, .slice (some ⟨1 + 3, 0, none⟩) 3 3], .row false 9 [.string s0, .string s1, .string s2, .string s3, .string s4, .string s5, .string s6, .string s7, .string s8]]) [s0, s1, s2, s3, s4, s5] (tabs_app _) rfl hs6
  have e2 := c2 (mem0 ++ [.row false 42 [.string s0, .string s1, .string s2, .string s3, .string s4, .string s5], .row false 44 [.string s6, .string s7, .string s8], .row false 9 [.string s0, .string s1, .string s2, .string s3, .string s4, .string s5], .row false 9 [.string s6, .string s7, .string s8], .row false 23 [.slice (some ⟨1 + 2, 0, none⟩) 6 6, .slice (some ⟨1 + 3, 0, none⟩) 3 3], .row false 9 [.string s0, .string s1, .string s2, .string s3, .string s4, .string s5, .string s6, .string s7, .string s8], .row false 3 [.int .i64 32, .int .i64 32, .int .i64 128, .int .i64 32, .int .i64 32, .int .i64 64]]) [s6, s7, s8] (tabs_app _) rfl hs3
  have e3 := c3 (List.map sealed (mem0 ++ [.row false 42 [.string s0, .string s1, .string s2, .string s3, .string s4, .string s5], .row false 44 [.string s6, .string s7, .string s8], .row false 9 [.string s0, .string s1, .string s2, .string s3, .string s4, .string s5], .row false 9 [.string s6, .string s7, .string s8], .row false 23 [.slice (some ⟨1 + 2, 0, none⟩) 6 6, .slice (some ⟨1 + 3, 0, none⟩) 3 3], .row false 9 [.string s0, .string s1, .string s2, .string s3, .string s4, .string s5, .string s6, .string s7, .string s8], .row false 3 [.int .i64 32, .int .i64 32, .int .i64 128, .int .i64 32, .int .i64 32, .int .i64 64], .row false 3 [.int .i64 32, .int .i64 64, .int .i64 96]])) s0 s1 s2 s3 s4 s5 (tabs_app _).sealed hs6
  have z6 := cat_small (N := 1000) hs6
  have z3 := cat_small (N := 1000) hs3
  have e4 := c4 (mem0 ++ [.row false 42 [.string s0, .string s1, .string s2, .string s3, .string s4, .string s5], .row false 44 [.string s6, .string s7, .string s8], .row false 9 [.string s0, .string s1, .string s2, .string s3, .string s4, .string s5], .row false 9 [.string s6, .string s7, .string s8], .row false 23 [.slice (some ⟨1 + 2, 0, none⟩) 6 6, .slice (some ⟨1 + 3, 0, none⟩) 3 3], .row false 9 [.string s0, .string s1, .string s2, .string s3, .string s4, .string s5, .string s6, .string s7, .string s8], .row false 3 [.int .i64 32, .int .i64 32, .int .i64 128, .int .i64 32, .int .i64 32, .int .i64 64]]) szKE2 [s0, s1, s2, s3, s4, s5] (.slice (some ⟨1 + 6, 0, none⟩) 6 6) (.slice (some ⟨1 + 2, 0, none⟩) 6 6) (RS.row (c := 6) (ro := false) (e := 3) (cs := szKE2.map (Value.int .i64)) (by kernel_rfl)) (RS.row (c := 6) (ro := false) (e := 9) (cs := [s0, s1, s2, s3, s4, s5].map Value.string) (by kernel_rfl)) (by decide) (by simp) (by simp only [List.length_cons, List.length_nil] at z6; omega) (by decide) (Nat.le_refl _)
  have e5 := c4 (mem0 ++ [.row false 42 [.string s0, .string s1, .string s2, .string s3, .string s4, .string s5], .row false 44 [.string s6, .string s7, .string s8], .row false 9 [.string s0, .string s1, .string s2, .string s3, .string s4, .string s5], .row false 9 [.string s6, .string s7, .string s8], .row false 23 [.slice (some ⟨1 + 2, 0, none⟩) 6 6, .slice (some ⟨1 + 3, 0, none⟩) 3 3], .row false 9 [.string s0, .string s1, .string s2, .string s3, .string s4, .string s5, .string s6, .string s7, .string s8], .row false 3 [.int .i64 32, .int .i64 32, .int .i64 128, .int .i64 32, .int .i64 32, .int .i64 64], .row false 3 [.int .i64 32, .int .i64 64, .int .i64 96]]) szRecord [s6, s7, s8] (.slice (some ⟨1 + 7, 0, none⟩) 3 3) (.slice (some ⟨1 + 3, 0, none⟩) 3 3) (RS.row (c := 3) (ro := false) (e := 3) (cs := szRecord.map (Value.int .i64)) (by kernel_rfl)) (RS.row (c := 3) (ro := false) (e := 9) (cs := [s6, s7, s8].map Value.string) (by kernel_rfl)) (by decide) (by simp) (by simp only [List.length_cons, List.length_nil] at z3; omega) (by decide) (Nat.le_refl _)
  have a1 : s0.size + s1.size ≤ 9223372036854775807 := by
    have := hs6 s0 (by simp)
    have := hs6 s1 (by simp)
    omega
  have a2 : (s0 ++ s1).size + s2.size ≤ 9223372036854775807 := by
    have := hs6 s0 (by simp)
    have := hs6 s1 (by simp)
    have := hs6 s2 (by simp)
    rw [ByteArray.size_append]
    omega
  simp only [List.map_cons, List.map_nil] at e1 e2 e4 e5
  simp only [↓dww_15, ↓sww_15, eww_0, eww_1, eww_10, eww_11, eww_12, eww_13, eww_14, eww_15, eww_2, eww_3, eww_4, eww_5, eww_6, eww_7, eww_8, eww_9, lww_0, lww_1, lww_2, lww_3, lww_4, lww_5, lww_6, lww_7, lww_8, lww_9, lww_10, lww_11, lww_12, lww_13, lww_14, lww_15, gww_15_13, gww_15_18, gww_15_3, gww_15_8, agd_none, gdAt, gdV_bool, gdV_undef, Try.f5, List.append_eq, List.cons_append, List.nil_append, apure_call1, apure_call2, apure_call3, bft, btf, acodeN, List.getElem?_toArray, List.getElem?_cons_zero, List.getElem?_cons_succ, aopsN, adrawT, cls, astep, aop, afloat, ev, nth_lst, get_lst, aput, setAt_lst, upd_at, init_zero, init_succ, init_nil, Nat.reduceLT, Nat.reduceEqDiff, reduceIte, abuiltin, alen, Option.map_some, Option.map_none, orElse_some, apure_add, apure_eqlV, eqlVal_str, eqlVal_bool, eqlVal_ptr, eqlVal_slice, eqlVal_int, allT, ↓aop_eqlV, apure_neq, List.map_cons, List.map_nil, List.all_cons, List.all_nil, lit2, lit1, lit0, List.isEmpty_nil, Bool.and_self, Bool.and_true, Bool.true_and, Bool.false_and, Bool.and_false, Bool.not_true, Bool.not_false, Bool.or_true, Bool.true_or, Bool.false_or, Bool.or_false, Bool.false_eq_true, if_true, if_false, List.length_map, beq_self_eq_true, und3, und4, und5, und9, h2, h3, h5, h6, wwf0_0, wwf0_1, wwf0_2, wwf0_3, wwf0_4, wwf0_5, wwl0 s0 s1 s2 s3 s4 s5 s6 s7 s8, wwl1 s0 s1 s2 s3 s4 s5 s6 s7 s8, wwl2 s0 s1 s2 s3 s4 s5 s6 s7 s8, wwc2_0 s0 s1 s2 s3 s4 s5 s6 s7 s8, wwc2_1 s0 s1 s2 s3 s4 s5 s6 s7 s8, wwc2_2 s0 s1 s2 s3 s4 s5 s6 s7 s8, callB5, callB3, callAn, callSz, callRJ11, e1, e2, sizes4r, sizes2r, e3, e4, e5, aextract, selfEq, selfEqI, eql64, ldS, a1, a2, wrAn, addr9]
  exact ⟨_, _, rfl, by simp only [upd_at, Nat.reduceEqDiff, reduceIte]⟩

theorem ww_body {nf : Nat} (s0 s1 s2 s3 s4 s5 s6 s7 s8 : ByteArray) (hnf : 1000 < nf) (hAw : ∀ m, Tabs m → ainv E (runQ E mem0 [] 2000).1 6 [] m = some (.bool true, m))
    (c1 : CBytes 15 szKE2 (runQ E mem0 [] 2000).1) (c2 : CBytes 16 szRecord (runQ E mem0 [] 2000).1) (c3 : CAnswer 17 (runQ E mem0 [] 2000).1) (c4 : CJoin 10 (runQ E mem0 [] 2000).1) :
    ∃ m', abody E (runQ E mem0 [] 2000).1 nf 5 [.agg ⟨[.string s0, .string s1, .string s2, .string s3, .string s4, .string s5]⟩, .agg ⟨[.string s6, .string s7, .string s8]⟩] mem0 = some (.bool true, m') := by
  rw [abody_eqF (by kernel_rfl) Try.func5 bodyww (by kernel_rfl) (Nat.le_of_ble_eq_true rfl)]
  rw [show Try.f5.ntmps = 105 from rfl]
  have hAw := hAw (mem0 ++ [.row false 42 [.string s0, .string s1, .string s2, .string s3, .string s4, .string s5], .row false 44 [.string s6, .string s7, .string s8]]) (tabs_app _)
  have hrow := RS.row (m := (mem0 ++ [.row false 42 [.string s0, .string s1, .string s2, .string s3, .string s4, .string s5], .row false 44 [.string s6, .string s7, .string s8], .row false 9 [.string s0, .string s1, .string s2, .string s3, .string s4, .string s5], .row false 9 [.string s6, .string s7, .string s8], .row false 23 [.slice (some ⟨1 + 2, 0, none⟩) 6 6, .slice (some ⟨1 + 3, 0, none⟩) 3 3], .row false 9 [.string s0, .string s1, .string s2, .string s3, .string s4, .string s5, .string s6, .string s7, .string s8]])) (b := 1 + 5) (c := 9) (ro := false) (e := 9) (cs := [s0, s1, s2, s3, s4, s5, s6, s7, s8].map Value.string) (by kernel_rfl)
  obtain ⟨e, F', hr, hq⟩ := ww_loop (self := (runQ E mem0 [] 2000).1) (nf := nf) (m := (mem0 ++ [.row false 42 [.string s0, .string s1, .string s2, .string s3, .string s4, .string s5], .row false 44 [.string s6, .string s7, .string s8], .row false 9 [.string s0, .string s1, .string s2, .string s3, .string s4, .string s5], .row false 9 [.string s6, .string s7, .string s8], .row false 23 [.slice (some ⟨1 + 2, 0, none⟩) 6 6, .slice (some ⟨1 + 3, 0, none⟩) 3 3], .row false 9 [.string s0, .string s1, .string s2, .string s3, .string s4, .string s5, .string s6, .string s7, .string s8]])) (l := [s0, s1, s2, s3, s4, s5, s6, s7, s8]) (b0 := 1 + 5) (o0 := 0) (c0 := 9) (by simp) hnf (by
      intro i x hx
      rw [cellAt_row (show ((mem0 ++ [.row false 42 [.string s0, .string s1, .string s2, .string s3, .string s4, .string s5], .row false 44 [.string s6, .string s7, .string s8], .row false 9 [.string s0, .string s1, .string s2, .string s3, .string s4, .string s5], .row false 9 [.string s6, .string s7, .string s8], .row false 23 [.slice (some ⟨1 + 2, 0, none⟩) 6 6, .slice (some ⟨1 + 3, 0, none⟩) 3 3], .row false 9 [.string s0, .string s1, .string s2, .string s3, .string s4, .string s5, .string s6, .string s7, .string s8]]))[1 + 5]? = some (.row false 9 ([s0, s1, s2, s3, s4, s5, s6, s7, s8].map Value.string)) by kernel_rfl), Nat.zero_add]
      exact hx) (F := upd (upd (upd (upd (upd (upd (upd (upd (upd (upd (upd (upd (upd (upd (upd (upd (upd (upd (upd (upd (upd (upd (upd (upd (upd (upd (upd (upd (upd (upd (upd (upd (upd (init [.agg ⟨[.string s0, .string s1, .string s2, .string s3, .string s4, .string s5]⟩, .agg ⟨[.string s6, .string s7, .string s8]⟩]) 2 (.pointer (some ⟨1 + 0, 0, none⟩))) 3 (.pointer (some ⟨1 + 1, 0, none⟩))) 4 (.bool false)) 17 (.bool true)) 18 (.bool false)) 19 (.pointer (some ⟨1 + 0, 0, none⟩))) 20 (.string s0)) 21 (.pointer (some ⟨1 + 0, 1, none⟩))) 22 (.string s1)) 23 (.pointer (some ⟨1 + 0, 2, none⟩))) 24 (.string s2)) 25 (.pointer (some ⟨1 + 0, 3, none⟩))) 26 (.string s3)) 27 (.pointer (some ⟨1 + 0, 4, none⟩))) 28 (.string s4)) 29 (.pointer (some ⟨1 + 0, 5, none⟩))) 30 (.string s5)) 31 (.slice (some ⟨1 + 2, 0, none⟩) 6 6)) 5 (.slice (some ⟨1 + 2, 0, none⟩) 6 6)) 32 (.pointer (some ⟨1 + 1, 0, none⟩))) 33 (.string s6)) 34 (.pointer (some ⟨1 + 1, 1, none⟩))) 35 (.string s7)) 36 (.pointer (some ⟨1 + 1, 2, none⟩))) 37 (.string s8)) 38 (.slice (some ⟨1 + 3, 0, none⟩) 3 3)) 6 (.slice (some ⟨1 + 3, 0, none⟩) 3 3)) 39 (.slice (some ⟨1 + 2, 0, none⟩) 6 6)) 40 (.slice (some ⟨1 + 3, 0, none⟩) 3 3)) 41 (.slice (some ⟨1 + 4, 0, none⟩) 2 2)) 42 (.slice (some ⟨1 + 5, 0, none⟩) 9 9)) 43 (.int .i64 ((9 : Nat) : Int))) 44 (.int .i64 0)) rfl rfl rfl
  rcases hq with ⟨rfl, f2, f3, f5, f6, hall⟩ | ⟨rfl, f4⟩
  · obtain ⟨F2, m2, hr2, f4⟩ := ww_rest (nf := nf) (F := F') s0 s1 s2 s3 s4 s5 s6 s7 s8 hall c1 c2 c3 c4 f2 f3 f5 f6
    generalize hR : (Code.seq (.region 11 rww_11 false) (.seq (.region 12 rww_12 false) (.seq (.region 13 rww_13 false) (.seq (.region 14 rww_14 false) (.seq (.region 15 rww_15 true) .ret))))) = R at hr2 ⊢
    simp only [↓dww_15, ↓sww_15, eww_0, eww_1, eww_10, eww_11, eww_12, eww_13, eww_14, eww_15, eww_2, eww_3, eww_4, eww_5, eww_6, eww_7, eww_8, eww_9, lww_0, lww_1, lww_2, lww_3, lww_4, lww_5, lww_6, lww_7, lww_8, lww_9, lww_10, lww_11, lww_12, lww_13, lww_14, lww_15, gww_15_13, gww_15_18, gww_15_3, gww_15_8, agd_none, gdAt, gdV_bool, gdV_undef, Try.f5, List.append_eq, List.cons_append, List.nil_append, apure_call1, apure_call2, apure_call3, bft, btf, acodeN, List.getElem?_toArray, List.getElem?_cons_zero, List.getElem?_cons_succ, aopsN, adrawT, cls, astep, aop, afloat, ev, nth_lst, get_lst, aput, setAt_lst, upd_at, init_zero, init_succ, init_nil, Nat.reduceLT, Nat.reduceEqDiff, reduceIte, abuiltin, alen, Option.map_some, Option.map_none, orElse_some, apure_add, apure_eqlV, eqlVal_str, eqlVal_bool, eqlVal_ptr, eqlVal_slice, eqlVal_int, allT, ↓aop_eqlV, apure_neq, List.map_cons, List.map_nil, List.all_cons, List.all_nil, lit2, lit1, lit0, List.isEmpty_nil, Bool.and_self, Bool.and_true, Bool.true_and, Bool.false_and, Bool.and_false, Bool.not_true, Bool.not_false, Bool.or_true, Bool.true_or, Bool.false_or, Bool.or_false, Bool.false_eq_true, if_true, if_false, List.length_map, beq_self_eq_true, und3, und4, und5, und9, callAw11, hAw, wwb0 s0 s1 s2 s3 s4 s5, wwb1 s0 s1 s2 s3 s4 s5 s6 s7 s8, wwf0_0, wwf0_1, wwf0_2, wwf0_3, wwf0_4, wwf0_5, wwf1_0, wwf1_1, wwf1_2, wwc0_0 s0 s1 s2 s3 s4 s5 s6 s7 s8, wwc0_1 s0 s1 s2 s3 s4 s5 s6 s7 s8, wwc0_2 s0 s1 s2 s3 s4 s5 s6 s7 s8, wwc0_3 s0 s1 s2 s3 s4 s5 s6 s7 s8, wwc0_4 s0 s1 s2 s3 s4 s5 s6 s7 s8, wwc0_5 s0 s1 s2 s3 s4 s5 s6 s7 s8, wwc1_0 s0 s1 s2 s3 s4 s5 s6 s7 s8, wwc1_1 s0 s1 s2 s3 s4 s5 s6 s7 s8, wwc1_2 s0 s1 s2 s3 s4 s5 s6 s7 s8, wws0 s0 s1 s2 s3 s4 s5 s6 s7 s8, wws1 s0 s1 s2 s3 s4 s5 s6 s7 s8, wws2 s0 s1 s2 s3 s4 s5 s6 s7 s8, callCc, concat63, ldS, undSS, hr, hr2, f4, finish, ares, aresL, ares1]
    exact ⟨_, rfl⟩
  · generalize hR : (Code.seq (.region 11 rww_11 false) (.seq (.region 12 rww_12 false) (.seq (.region 13 rww_13 false) (.seq (.region 14 rww_14 false) (.seq (.region 15 rww_15 true) .ret))))) = R
    simp only [↓dww_15, ↓sww_15, eww_0, eww_1, eww_10, eww_11, eww_12, eww_13, eww_14, eww_15, eww_2, eww_3, eww_4, eww_5, eww_6, eww_7, eww_8, eww_9, lww_0, lww_1, lww_2, lww_3, lww_4, lww_5, lww_6, lww_7, lww_8, lww_9, lww_10, lww_11, lww_12, lww_13, lww_14, lww_15, gww_15_13, gww_15_18, gww_15_3, gww_15_8, agd_none, gdAt, gdV_bool, gdV_undef, Try.f5, List.append_eq, List.cons_append, List.nil_append, apure_call1, apure_call2, apure_call3, bft, btf, acodeN, List.getElem?_toArray, List.getElem?_cons_zero, List.getElem?_cons_succ, aopsN, adrawT, cls, astep, aop, afloat, ev, nth_lst, get_lst, aput, setAt_lst, upd_at, init_zero, init_succ, init_nil, Nat.reduceLT, Nat.reduceEqDiff, reduceIte, abuiltin, alen, Option.map_some, Option.map_none, orElse_some, apure_add, apure_eqlV, eqlVal_str, eqlVal_bool, eqlVal_ptr, eqlVal_slice, eqlVal_int, allT, ↓aop_eqlV, apure_neq, List.map_cons, List.map_nil, List.all_cons, List.all_nil, lit2, lit1, lit0, List.isEmpty_nil, Bool.and_self, Bool.and_true, Bool.true_and, Bool.false_and, Bool.and_false, Bool.not_true, Bool.not_false, Bool.or_true, Bool.true_or, Bool.false_or, Bool.or_false, Bool.false_eq_true, if_true, if_false, List.length_map, beq_self_eq_true, und3, und4, und5, und9, callAw11, hAw, wwb0 s0 s1 s2 s3 s4 s5, wwb1 s0 s1 s2 s3 s4 s5 s6 s7 s8, wwf0_0, wwf0_1, wwf0_2, wwf0_3, wwf0_4, wwf0_5, wwf1_0, wwf1_1, wwf1_2, wwc0_0 s0 s1 s2 s3 s4 s5 s6 s7 s8, wwc0_1 s0 s1 s2 s3 s4 s5 s6 s7 s8, wwc0_2 s0 s1 s2 s3 s4 s5 s6 s7 s8, wwc0_3 s0 s1 s2 s3 s4 s5 s6 s7 s8, wwc0_4 s0 s1 s2 s3 s4 s5 s6 s7 s8, wwc0_5 s0 s1 s2 s3 s4 s5 s6 s7 s8, wwc1_0 s0 s1 s2 s3 s4 s5 s6 s7 s8, wwc1_1 s0 s1 s2 s3 s4 s5 s6 s7 s8, wwc1_2 s0 s1 s2 s3 s4 s5 s6 s7 s8, wws0 s0 s1 s2 s3 s4 s5 s6 s7 s8, wws1 s0 s1 s2 s3 s4 s5 s6 s7 s8, wws2 s0 s1 s2 s3 s4 s5 s6 s7 s8, callCc, concat63, ldS, undSS, hr, f4, finish, ares, aresL, ares1]
    exact ⟨_, rfl⟩
end Go.Am.Seat

/-
  One row of texts, put together (slices.Concat) (own work).
-/
set_option linter.unusedSimpArgs false
set_option linter.unusedVariables false
namespace Go.Am.Seat
open Go.Proofs Go.Am
set_option maxRecDepth 100000

/-- A call of what leads nowhere: it sees what is laid alone. -/
theorem ainv_tabs {self : Self} {f : FuncId} {args : List Value} {M : Mem} (ha : args.all lit2 = true) (hf : E.fast f = none) (hM : Tabs M) {v : Value} {m1 : Mem} (h : self f args mem0 = some (v, m1)) : ainv E self f args M = acoll M mem0.length v m1 := by
  unfold ainv
  rw [if_pos ha, hf]
  rw [show (M.take E.G).map onlyTab = mem0 from hM]
  simp only [h]

def blanks (k : Nat) : List Value := List.replicate k (.string ⟨#[]⟩)
theorem grow_1 : (runQ E mem0 [] 1999).1 30 [.slice none 0 0, .int .i64 1] mem0 = some (.slice (some ⟨1, 0, none⟩) 0 1, mem0 ++ [.row false 9 (blanks 1)]) := by kernel_rfl
theorem grow_2 : (runQ E mem0 [] 1999).1 30 [.slice none 0 0, .int .i64 2] mem0 = some (.slice (some ⟨1, 0, none⟩) 0 2, mem0 ++ [.row false 9 (blanks 2)]) := by kernel_rfl
theorem grow_3 : (runQ E mem0 [] 1999).1 30 [.slice none 0 0, .int .i64 3] mem0 = some (.slice (some ⟨1, 0, none⟩) 0 3, mem0 ++ [.row false 9 (blanks 3)]) := by kernel_rfl
theorem grow_6 : (runQ E mem0 [] 1999).1 30 [.slice none 0 0, .int .i64 6] mem0 = some (.slice (some ⟨1, 0, none⟩) 0 6, mem0 ++ [.row false 9 (blanks 6)]) := by kernel_rfl
theorem grow_all {k : Nat} (hk : k = 1 ∨ k = 2 ∨ k = 3 ∨ k = 6) : (runQ E mem0 [] 1999).1 30 [.slice none 0 0, .int .i64 (k : Nat)] mem0 = some (.slice (some ⟨1, 0, none⟩) 0 k, mem0 ++ [.row false 9 (blanks k)]) := by
  rcases hk with rfl | rfl | rfl | rfl
  · exact grow_1
  · exact grow_2
  · exact grow_3
  · exact grow_6
theorem blanks_lit (k : Nat) : (blanks k).all lit0 = true := by
  unfold blanks
  rw [List.all_replicate]
  split <;> rfl
theorem grow_call {k : Nat} (hk : k = 1 ∨ k = 2 ∨ k = 3 ∨ k = 6) {M : Mem} (hM : Tabs M) : ainv E (runQ E mem0 [] 1999).1 30 [.slice none 0 0, .int .i64 (k : Nat)] M = some (.slice (some ⟨M.length, 0, none⟩) 0 k, M ++ [.row false 9 (blanks k)]) := by
  rw [ainv_tabs rfl (by kernel_rfl) hM (grow_all hk)]
  exact acoll_new (Nat.le_of_ble_eq_true (by kernel_rfl)) (by simp [show mem0.length = 1 from rfl]) (blanks_lit k)

theorem undSLS : E.P.underlying 71 = some (.slice 23) := Try.underlying71
theorem ixSLS {p o L c i : Nat} (h : i < L) : aindexAddr E.P 71 (.slice (some ⟨p, o, none⟩) L c) (.int .i64 (i : Nat)) = some (.pointer (some ⟨p, o + i, none⟩)) := by
  have h9 : (E.P.info? 23).map (·.size) = some 1 := by kernel_rfl
  obtain ⟨e, h1, h2⟩ := Option.map_eq_some_iff.1 h9
  unfold aindexAddr
  simp only [undSLS, h1]
  rw [if_pos (by omega), h2]
  simp
theorem ldSL (b o : Nat) (m : Mem) : aload E.P 23 (.pointer (some ⟨b, o, none⟩)) m = cellAt m b o := aload_cell undSS rfl b o m
theorem callGr : callableB E.P 30 = true := by kernel_rfl

/-- What is appended where there is room. -/
theorem appRoom {m : Mem} {b b2 k : Nat} {ro : Bool} {l : List Value} (hb : m[b]? = some (.row false 9 (blanks k))) (hb2 : m[b2]? = some (.row ro 9 l)) (hl : l.length = k) (hc : l.all cellOk = true) :
    aappend E.P 23 23 (.slice (some ⟨b, 0, none⟩) 0 k) (.slice (some ⟨b2, 0, none⟩) k k) m = some (.slice (some ⟨b, 0, none⟩) k k, m.set b (.row false 9 l)) := by
  have hs := undSS
  have h9 : (E.P.info? 9).map (fun i => (i.size, i.bytes)) = some (1, 16) := by kernel_rfl
  have h10 : ((E.P.info? 9).bind (·.zero)).map (·.cells.size) = some 1 := by kernel_rfl
  obtain ⟨i, h1, h11⟩ := Option.map_eq_some_iff.1 h9
  rw [h1] at h10
  obtain ⟨z, h2, h6⟩ := Option.map_eq_some_iff.1 h10
  simp only [Prod.mk.injEq] at h11
  obtain ⟨h3, h4⟩ := h11
  have h2 : i.zero = some z := h2
  have hsrc : asrc m 1 (.slice (some ⟨b2, 0, none⟩) k k) = some (k, l) := by
    unfold asrc
    simp only [lookRow hb2]
    rw [if_pos (by simp [hl]), ← hl]
    simp
  unfold aappend
  simp only [hs, h1, h2, h3, hsrc, isIntD, h6, h4, hb]
  rw [if_neg (by simp [hc]), if_pos (by omega), if_pos (by simp [blanks, hl])]
  have : lay (blanks k) (0 + 0 * 1) l = l := by
    unfold lay
    split
    · rename_i x
      have : k = 1 := by rw [← hl]; rfl
      subst this
      rfl
    · simp [blanks, hl]
  rw [this]
  simp

noncomputable def rscc_0 : Array Oper := match Try.f14.body with
  | some (.seq (.region _ o _) _) => o
  | _ => #[]
noncomputable def lscc_0 : List Oper := match Try.f14.body with
  | some (.seq (.region _ o _) _) => o.toList
  | _ => []
theorem escc_0 : rscc_0.toList = lscc_0 := rfl
noncomputable def rscc_1 : Array Oper := match Try.f14.body with
  | some (.seq _ (.seq (.region _ o _) _)) => o
  | _ => #[]
noncomputable def lscc_1 : List Oper := match Try.f14.body with
  | some (.seq _ (.seq (.region _ o _) _)) => o.toList
  | _ => []
theorem escc_1 : rscc_1.toList = lscc_1 := rfl
noncomputable def rscc_2 : Array Oper := match Try.f14.body with
  | some (.seq _ (.seq _ (.seq (.seq (.region _ o _) _) _))) => o
  | _ => #[]
noncomputable def lscc_2 : List Oper := match Try.f14.body with
  | some (.seq _ (.seq _ (.seq (.seq (.region _ o _) _) _))) => o.toList
  | _ => []
theorem escc_2 : rscc_2.toList = lscc_2 := rfl
noncomputable def lpscc_0 : Code := match Try.f14.body with
  | some (.seq _ (.seq _ (.seq (.seq _ (.block _ (.loop c))) _))) => c
  | _ => .skip
noncomputable def rscc_3 : Array Oper := match Try.f14.body with
  | some (.seq _ (.seq _ (.seq (.seq _ (.block _ (.loop (.seq (.region _ o _) _)))) _))) => o
  | _ => #[]
noncomputable def lscc_3 : List Oper := match Try.f14.body with
  | some (.seq _ (.seq _ (.seq (.seq _ (.block _ (.loop (.seq (.region _ o _) _)))) _))) => o.toList
  | _ => []
theorem escc_3 : rscc_3.toList = lscc_3 := rfl
noncomputable def rscc_4 : Array Oper := match Try.f14.body with
  | some (.seq _ (.seq _ (.seq (.seq _ (.block _ (.loop (.seq _ (.seq _ (.seq (.block _ (.seq (.region _ o _) _)) _)))))) _))) => o
  | _ => #[]
noncomputable def lscc_4 : List Oper := match Try.f14.body with
  | some (.seq _ (.seq _ (.seq (.seq _ (.block _ (.loop (.seq _ (.seq _ (.seq (.block _ (.seq (.region _ o _) _)) _)))))) _))) => o.toList
  | _ => []
theorem escc_4 : rscc_4.toList = lscc_4 := rfl
noncomputable def rscc_5 : Array Oper := match Try.f14.body with
  | some (.seq _ (.seq _ (.seq (.seq _ (.block _ (.loop (.seq _ (.seq _ (.seq (.block _ (.seq _ (.seq (.region _ o _) _))) _)))))) _))) => o
  | _ => #[]
noncomputable def lscc_5 : List Oper := match Try.f14.body with
  | some (.seq _ (.seq _ (.seq (.seq _ (.block _ (.loop (.seq _ (.seq _ (.seq (.block _ (.seq _ (.seq (.region _ o _) _))) _)))))) _))) => o.toList
  | _ => []
theorem escc_5 : rscc_5.toList = lscc_5 := rfl
noncomputable def rscc_6 : Array Oper := match Try.f14.body with
  | some (.seq _ (.seq _ (.seq (.seq _ (.block _ (.loop (.seq _ (.seq _ (.seq (.block _ (.seq _ (.seq _ (.seq (.region _ o _) _)))) _)))))) _))) => o
  | _ => #[]
noncomputable def lscc_6 : List Oper := match Try.f14.body with
  | some (.seq _ (.seq _ (.seq (.seq _ (.block _ (.loop (.seq _ (.seq _ (.seq (.block _ (.seq _ (.seq _ (.seq (.region _ o _) _)))) _)))))) _))) => o.toList
  | _ => []
theorem escc_6 : rscc_6.toList = lscc_6 := rfl
noncomputable def rscc_7 : Array Oper := match Try.f14.body with
  | some (.seq _ (.seq _ (.seq (.seq _ (.block _ (.loop (.seq _ (.seq _ (.seq (.block _ (.seq _ (.seq _ (.seq _ (.cond _ (.region _ o _) _))))) _)))))) _))) => o
  | _ => #[]
noncomputable def lscc_7 : List Oper := match Try.f14.body with
  | some (.seq _ (.seq _ (.seq (.seq _ (.block _ (.loop (.seq _ (.seq _ (.seq (.block _ (.seq _ (.seq _ (.seq _ (.cond _ (.region _ o _) _))))) _)))))) _))) => o.toList
  | _ => []
theorem escc_7 : rscc_7.toList = lscc_7 := rfl
noncomputable def rscc_8 : Array Oper := match Try.f14.body with
  | some (.seq _ (.seq _ (.seq (.seq _ (.block _ (.loop (.seq _ (.seq _ (.seq _ (.region _ o _))))))) _))) => o
  | _ => #[]
noncomputable def lscc_8 : List Oper := match Try.f14.body with
  | some (.seq _ (.seq _ (.seq (.seq _ (.block _ (.loop (.seq _ (.seq _ (.seq _ (.region _ o _))))))) _))) => o.toList
  | _ => []
theorem escc_8 : rscc_8.toList = lscc_8 := rfl
theorem lpscc_0_eq : lpscc_0 = (.seq (.region 3 rscc_3 false) (.seq (.cond (.tmp 12) .skip (.exit 0)) (.seq (.block 1 (.seq (.region 4 rscc_4 false) (.seq (.region 5 rscc_5 false) (.seq (.region 6 rscc_6 false) (.cond (.tmp 20) (.region 7 rscc_7 false) .skip))))) (.region 8 rscc_8 false)))) := rfl
noncomputable def rscc_9 : Array Oper := match Try.f14.body with
  | some (.seq _ (.seq _ (.seq _ (.seq (.region _ o _) _)))) => o
  | _ => #[]
noncomputable def lscc_9 : List Oper := match Try.f14.body with
  | some (.seq _ (.seq _ (.seq _ (.seq (.region _ o _) _)))) => o.toList
  | _ => []
theorem escc_9 : rscc_9.toList = lscc_9 := rfl
noncomputable def rscc_10 : Array Oper := match Try.f14.body with
  | some (.seq _ (.seq _ (.seq _ (.seq _ (.seq (.seq (.region _ o _) _) _))))) => o
  | _ => #[]
noncomputable def lscc_10 : List Oper := match Try.f14.body with
  | some (.seq _ (.seq _ (.seq _ (.seq _ (.seq (.seq (.region _ o _) _) _))))) => o.toList
  | _ => []
theorem escc_10 : rscc_10.toList = lscc_10 := rfl
noncomputable def lpscc_1 : Code := match Try.f14.body with
  | some (.seq _ (.seq _ (.seq _ (.seq _ (.seq (.seq _ (.block _ (.loop c))) _))))) => c
  | _ => .skip
noncomputable def rscc_11 : Array Oper := match Try.f14.body with
  | some (.seq _ (.seq _ (.seq _ (.seq _ (.seq (.seq _ (.block _ (.loop (.seq (.region _ o _) _)))) _))))) => o
  | _ => #[]
noncomputable def lscc_11 : List Oper := match Try.f14.body with
  | some (.seq _ (.seq _ (.seq _ (.seq _ (.seq (.seq _ (.block _ (.loop (.seq (.region _ o _) _)))) _))))) => o.toList
  | _ => []
theorem escc_11 : rscc_11.toList = lscc_11 := rfl
noncomputable def rscc_12 : Array Oper := match Try.f14.body with
  | some (.seq _ (.seq _ (.seq _ (.seq _ (.seq (.seq _ (.block _ (.loop (.seq _ (.seq _ (.seq (.block _ (.seq (.region _ o _) _)) _)))))) _))))) => o
  | _ => #[]
noncomputable def lscc_12 : List Oper := match Try.f14.body with
  | some (.seq _ (.seq _ (.seq _ (.seq _ (.seq (.seq _ (.block _ (.loop (.seq _ (.seq _ (.seq (.block _ (.seq (.region _ o _) _)) _)))))) _))))) => o.toList
  | _ => []
theorem escc_12 : rscc_12.toList = lscc_12 := rfl
noncomputable def rscc_13 : Array Oper := match Try.f14.body with
  | some (.seq _ (.seq _ (.seq _ (.seq _ (.seq (.seq _ (.block _ (.loop (.seq _ (.seq _ (.seq (.block _ (.seq _ (.region _ o _))) _)))))) _))))) => o
  | _ => #[]
noncomputable def lscc_13 : List Oper := match Try.f14.body with
  | some (.seq _ (.seq _ (.seq _ (.seq _ (.seq (.seq _ (.block _ (.loop (.seq _ (.seq _ (.seq (.block _ (.seq _ (.region _ o _))) _)))))) _))))) => o.toList
  | _ => []
theorem escc_13 : rscc_13.toList = lscc_13 := rfl
noncomputable def rscc_14 : Array Oper := match Try.f14.body with
  | some (.seq _ (.seq _ (.seq _ (.seq _ (.seq (.seq _ (.block _ (.loop (.seq _ (.seq _ (.seq _ (.region _ o _))))))) _))))) => o
  | _ => #[]
noncomputable def lscc_14 : List Oper := match Try.f14.body with
  | some (.seq _ (.seq _ (.seq _ (.seq _ (.seq (.seq _ (.block _ (.loop (.seq _ (.seq _ (.seq _ (.region _ o _))))))) _))))) => o.toList
  | _ => []
theorem escc_14 : rscc_14.toList = lscc_14 := rfl
theorem lpscc_1_eq : lpscc_1 = (.seq (.region 11 rscc_11 false) (.seq (.cond (.tmp 28) .skip (.exit 2)) (.seq (.block 3 (.seq (.region 12 rscc_12 false) (.region 13 rscc_13 false))) (.region 14 rscc_14 false)))) := rfl
noncomputable def rscc_15 : Array Oper := match Try.f14.body with
  | some (.seq _ (.seq _ (.seq _ (.seq _ (.seq _ (.seq (.region _ o _) _)))))) => o
  | _ => #[]
noncomputable def lscc_15 : List Oper := match Try.f14.body with
  | some (.seq _ (.seq _ (.seq _ (.seq _ (.seq _ (.seq (.region _ o _) _)))))) => o.toList
  | _ => []
theorem escc_15 : rscc_15.toList = lscc_15 := rfl
theorem bodyscc : Try.f14.body = some (.seq (.region 0 rscc_0 false) (.seq (.region 1 rscc_1 false) (.seq (.seq (.region 2 rscc_2 false) (.block 0 (.loop lpscc_0))) (.seq (.region 9 rscc_9 false) (.seq (.seq (.region 10 rscc_10 false) (.block 2 (.loop lpscc_1))) (.seq (.region 15 rscc_15 false) .ret)))))) := rfl
-- ntmps 36

section
variable {nf : Nat} {m : Mem} {F : Nat → Value} {b c b2 k : Nat} {sz : Nat}

theorem scc_iter (h9 : F 9 = .slice (some ⟨b, 0, none⟩) 1 c) (h10 : F 10 = .int .i64 ((1 : Nat) : Int)) (h11 : F 11 = .int .i64 ((0 : Nat) : Int)) (h3 : F 3 = .int .i64 0) (hx : cellAt m b (0 + 0) = some (.slice (some ⟨b2, 0, none⟩) k k)) (hk : k ≤ 1000) :
    ∃ F', acodeN E (runQ E mem0 [] 1999).1 nf lpscc_0 (lst F 36) m = some (.normal, lst F' 36, m) ∧ F' 0 = F 0 ∧ F' 10 = F 10 ∧ F' 11 = .int .i64 ((1 : Nat) : Int) ∧ F' 3 = .int .i64 (k : Nat) := by
  have hlt : decide (((0 : Nat) : Int) < ((1 : Nat) : Int)) = true := rfl
  have e1 : wrapF .i64 (0 + ((k : Nat) : Int)) = ((k : Nat) : Int) := by rw [wrap_i64 (by omega) (by omega)]; omega
  have q : decide (((k : Nat) : Int) < 0) = false := decide_eq_false (by omega)
  have e2 : wrapF .i64 (((0 : Nat) : Int) + 1) = ((1 : Nat) : Int) := rfl
  simp only [lpscc_0_eq, escc_0, escc_1, escc_10, escc_11, escc_12, escc_13, escc_14, escc_15, escc_2, escc_3, escc_4, escc_5, escc_6, escc_7, escc_8, escc_9, lscc_0, lscc_1, lscc_2, lscc_3, lscc_4, lscc_5, lscc_6, lscc_7, lscc_8, lscc_9, lscc_10, lscc_11, lscc_12, lscc_13, lscc_14, lscc_15, agd_none, gdAt, gdV_bool, gdV_undef, Try.f14, List.append_eq, List.cons_append, List.nil_append, apure_call1, apure_call2, apure_call3, bft, btf, acodeN, List.getElem?_toArray, List.getElem?_cons_zero, List.getElem?_cons_succ, aopsN, adrawT, cls, astep, aop, afloat, ev, nth_lst, get_lst, aput, setAt_lst, upd_at, init_zero, init_succ, init_nil, Nat.reduceLT, Nat.reduceEqDiff, reduceIte, abuiltin, alen, Option.map_some, Option.map_none, orElse_some, apure_add, apure_eqlV, eqlVal_str, eqlVal_bool, eqlVal_ptr, eqlVal_slice, eqlVal_int, allT, ↓aop_eqlV, apure_neq, List.map_cons, List.map_nil, List.all_cons, List.all_nil, lit2, lit1, lit0, List.isEmpty_nil, Bool.and_self, Bool.and_true, Bool.true_and, Bool.false_and, Bool.and_false, Bool.not_true, Bool.not_false, Bool.or_true, Bool.true_or, Bool.false_or, Bool.or_false, Bool.false_eq_true, if_true, if_false, List.length_map, beq_self_eq_true, und3, und4, und5, und9, h9, h10, h11, h3, lss64, hlt, ixSLS (show 0 < 1 by decide), ldSL, hx, undSS, add64', e1, q, e2]
  exact ⟨_, rfl, by simp only [upd_at, Nat.reduceEqDiff, reduceIte], by simp only [upd_at, Nat.reduceEqDiff, reduceIte, h10], by simp only [upd_at, Nat.reduceEqDiff, reduceIte], by simp only [upd_at, Nat.reduceEqDiff, reduceIte]⟩
theorem scc_last (h10 : F 10 = .int .i64 ((1 : Nat) : Int)) (h11 : F 11 = .int .i64 ((1 : Nat) : Int)) :
    ∃ F', acodeN E (runQ E mem0 [] 1999).1 nf lpscc_0 (lst F 36) m = some (.exit 0, lst F' 36, m) ∧ F' 0 = F 0 ∧ F' 3 = F 3 := by
  have hlt : decide (((1 : Nat) : Int) < ((1 : Nat) : Int)) = false := rfl
  simp only [lpscc_0_eq, escc_0, escc_1, escc_10, escc_11, escc_12, escc_13, escc_14, escc_15, escc_2, escc_3, escc_4, escc_5, escc_6, escc_7, escc_8, escc_9, lscc_0, lscc_1, lscc_2, lscc_3, lscc_4, lscc_5, lscc_6, lscc_7, lscc_8, lscc_9, lscc_10, lscc_11, lscc_12, lscc_13, lscc_14, lscc_15, agd_none, gdAt, gdV_bool, gdV_undef, Try.f14, List.append_eq, List.cons_append, List.nil_append, apure_call1, apure_call2, apure_call3, bft, btf, acodeN, List.getElem?_toArray, List.getElem?_cons_zero, List.getElem?_cons_succ, aopsN, adrawT, cls, astep, aop, afloat, ev, nth_lst, get_lst, aput, setAt_lst, upd_at, init_zero, init_succ, init_nil, Nat.reduceLT, Nat.reduceEqDiff, reduceIte, abuiltin, alen, Option.map_some, Option.map_none, orElse_some, apure_add, apure_eqlV, eqlVal_str, eqlVal_bool, eqlVal_ptr, eqlVal_slice, eqlVal_int, allT, ↓aop_eqlV, apure_neq, List.map_cons, List.map_nil, List.all_cons, List.all_nil, lit2, lit1, lit0, List.isEmpty_nil, Bool.and_self, Bool.and_true, Bool.true_and, Bool.false_and, Bool.and_false, Bool.not_true, Bool.not_false, Bool.or_true, Bool.true_or, Bool.false_or, Bool.or_false, Bool.false_eq_true, if_true, if_false, List.length_map, beq_self_eq_true, und3, und4, und5, und9, h10, h11, lss64, hlt]
  exact ⟨_, rfl, by simp only [upd_at, Nat.reduceEqDiff, reduceIte], by simp only [upd_at, Nat.reduceEqDiff, reduceIte]⟩
theorem scc2_iter {v6 v7 : Value} {m' : Mem} (h25 : F 25 = .slice (some ⟨b, 0, none⟩) 1 c) (h26 : F 26 = .int .i64 ((1 : Nat) : Int)) (h27 : F 27 = .int .i64 ((0 : Nat) : Int)) (h6 : F 6 = v6) (hx : cellAt m b (0 + 0) = some (.slice (some ⟨b2, 0, none⟩) k k))
    (ha : aappend E.P 23 23 v6 (.slice (some ⟨b2, 0, none⟩) k k) m = some (v7, m')) :
    ∃ F', acodeN E (runQ E mem0 [] 1999).1 nf lpscc_1 (lst F 36) m = some (.normal, lst F' 36, m') ∧ F' 26 = F 26 ∧ F' 27 = .int .i64 ((1 : Nat) : Int) ∧ F' 6 = v7 := by
  have hlt : decide (((0 : Nat) : Int) < ((1 : Nat) : Int)) = true := rfl
  have e2 : wrapF .i64 (((0 : Nat) : Int) + 1) = ((1 : Nat) : Int) := rfl
  simp only [lpscc_1_eq, escc_0, escc_1, escc_10, escc_11, escc_12, escc_13, escc_14, escc_15, escc_2, escc_3, escc_4, escc_5, escc_6, escc_7, escc_8, escc_9, lscc_0, lscc_1, lscc_2, lscc_3, lscc_4, lscc_5, lscc_6, lscc_7, lscc_8, lscc_9, lscc_10, lscc_11, lscc_12, lscc_13, lscc_14, lscc_15, agd_none, gdAt, gdV_bool, gdV_undef, Try.f14, List.append_eq, List.cons_append, List.nil_append, apure_call1, apure_call2, apure_call3, bft, btf, acodeN, List.getElem?_toArray, List.getElem?_cons_zero, List.getElem?_cons_succ, aopsN, adrawT, cls, astep, aop, afloat, ev, nth_lst, get_lst, aput, setAt_lst, upd_at, init_zero, init_succ, init_nil, Nat.reduceLT, Nat.reduceEqDiff, reduceIte, abuiltin, alen, Option.map_some, Option.map_none, orElse_some, apure_add, apure_eqlV, eqlVal_str, eqlVal_bool, eqlVal_ptr, eqlVal_slice, eqlVal_int, allT, ↓aop_eqlV, apure_neq, List.map_cons, List.map_nil, List.all_cons, List.all_nil, lit2, lit1, lit0, List.isEmpty_nil, Bool.and_self, Bool.and_true, Bool.true_and, Bool.false_and, Bool.and_false, Bool.not_true, Bool.not_false, Bool.or_true, Bool.true_or, Bool.false_or, Bool.or_false, Bool.false_eq_true, if_true, if_false, List.length_map, beq_self_eq_true, und3, und4, und5, und9, h25, h26, h27, h6, lss64, hlt, ixSLS (show 0 < 1 by decide), ldSL, hx, ha, add64', e2]
  exact ⟨_, rfl, by simp only [upd_at, Nat.reduceEqDiff, reduceIte, h26], by simp only [upd_at, Nat.reduceEqDiff, reduceIte], by simp only [upd_at, Nat.reduceEqDiff, reduceIte]⟩
theorem scc2_last (h26 : F 26 = .int .i64 ((1 : Nat) : Int)) (h27 : F 27 = .int .i64 ((1 : Nat) : Int)) :
    ∃ F', acodeN E (runQ E mem0 [] 1999).1 nf lpscc_1 (lst F 36) m = some (.exit 2, lst F' 36, m) ∧ F' 6 = F 6 := by
  have hlt : decide (((1 : Nat) : Int) < ((1 : Nat) : Int)) = false := rfl
  simp only [lpscc_1_eq, escc_0, escc_1, escc_10, escc_11, escc_12, escc_13, escc_14, escc_15, escc_2, escc_3, escc_4, escc_5, escc_6, escc_7, escc_8, escc_9, lscc_0, lscc_1, lscc_2, lscc_3, lscc_4, lscc_5, lscc_6, lscc_7, lscc_8, lscc_9, lscc_10, lscc_11, lscc_12, lscc_13, lscc_14, lscc_15, agd_none, gdAt, gdV_bool, gdV_undef, Try.f14, List.append_eq, List.cons_append, List.nil_append, apure_call1, apure_call2, apure_call3, bft, btf, acodeN, List.getElem?_toArray, List.getElem?_cons_zero, List.getElem?_cons_succ, aopsN, adrawT, cls, astep, aop, afloat, ev, nth_lst, get_lst, aput, setAt_lst, upd_at, init_zero, init_succ, init_nil, Nat.reduceLT, Nat.reduceEqDiff, reduceIte, abuiltin, alen, Option.map_some, Option.map_none, orElse_some, apure_add, apure_eqlV, eqlVal_str, eqlVal_bool, eqlVal_ptr, eqlVal_slice, eqlVal_int, allT, ↓aop_eqlV, apure_neq, List.map_cons, List.map_nil, List.all_cons, List.all_nil, lit2, lit1, lit0, List.isEmpty_nil, Bool.and_self, Bool.and_true, Bool.true_and, Bool.false_and, Bool.and_false, Bool.not_true, Bool.not_false, Bool.or_true, Bool.true_or, Bool.false_or, Bool.or_false, Bool.false_eq_true, if_true, if_false, List.length_map, beq_self_eq_true, und3, und4, und5, und9, h26, h27, lss64, hlt]
  exact ⟨_, rfl, by simp only [upd_at, Nat.reduceEqDiff, reduceIte]⟩
end
end Go.Am.Seat

/-
  One row of texts, put together, as a call; a message's parts (own work).
-/
set_option linter.unusedSimpArgs false
set_option linter.unusedVariables false
namespace Go.Am.Seat
open Go.Proofs Go.Am
set_option maxRecDepth 100000

theorem cellOk_texts (l : List ByteArray) : (l.map Value.string).all cellOk = true := by
  rw [List.all_map, List.all_eq_true]
  intro x _
  rfl

theorem concat1 {k : Nat} (hk : k = 1 ∨ k = 2 ∨ k = 3 ∨ k = 6) {M : Mem} (hM : Tabs M) {b b2 : Nat} {ro ro2 : Bool} {l : List ByteArray} (hb : M[b]? = some (.row ro 23 [.slice (some ⟨b2, 0, none⟩) k k])) (hb2 : M[b2]? = some (.row ro2 9 (l.map Value.string))) (hlen : l.length = k) :
    ainv E (runQ E mem0 [] 2000).1 14 [(.slice (some ⟨b, 0, none⟩) 1 1)] M = some (.slice (some ⟨M.length, 0, none⟩) k k, M ++ [.row false 9 (l.map Value.string)]) := by
  have hbs : (M.map sealed)[b]? = some (.row true 23 [.slice (some ⟨b2, 0, none⟩) k k]) := by rw [List.getElem?_map, hb]; rfl
  have hbs2 : (M.map sealed)[b2]? = some (.row true 9 (l.map Value.string)) := by rw [List.getElem?_map, hb2]; rfl
  have hlt2 : b2 < (M.map sealed).length := (List.getElem?_eq_some_iff.1 hbs2).1
  have hlt1 : b < (M.map sealed).length := (List.getElem?_eq_some_iff.1 hbs).1
  have hx : cellAt (M.map sealed) b (0 + 0) = some (.slice (some ⟨b2, 0, none⟩) k k) := by rw [cellAt_row hbs]; rfl
  have hgr := grow_call hk hM.sealed
  have hkl : k ≤ 1000 := by omega
  have hbody : abody E (runQ E mem0 [] 1999).1 2000 14 [(.slice (some ⟨b, 0, none⟩) 1 1)] (M.map sealed) = some (.slice (some ⟨(M.map sealed).length, 0, none⟩) k k, M.map sealed ++ [.row false 9 (l.map Value.string)]) := by
    rw [abody_eqF (by kernel_rfl) Try.func14 bodyscc (by kernel_rfl) (Nat.le_of_ble_eq_true rfl)]
    rw [show Try.f14.ntmps = 36 from rfl]
    obtain ⟨F1, r1, f10, f110, f111, f13⟩ := scc_iter (nf := 2000) (m := M.map sealed) (F := upd (upd (upd (upd (upd (init [(.slice (some ⟨b, 0, none⟩) 1 1)]) 2 (.slice none 0 0)) 3 (.int .i64 0)) 9 (.slice (some ⟨b, 0, none⟩) 1 1)) 10 (.int .i64 ((1 : Nat) : Int))) 11 (.int .i64 0)) (b := b) (c := 1) (b2 := b2) (k := k) rfl rfl rfl rfl hx hkl
    obtain ⟨F2, r2, f20, f23⟩ := scc_last (nf := 2000) (m := M.map sealed) (F := F1) f110 f111
    have l1 : aloop (acodeN E (runQ E mem0 [] 1999).1 2000 lpscc_0) 2000 (lst (upd (upd (upd (upd (upd (init [(.slice (some ⟨b, 0, none⟩) 1 1)]) 2 (.slice none 0 0)) 3 (.int .i64 0)) 9 (.slice (some ⟨b, 0, none⟩) 1 1)) 10 (.int .i64 ((1 : Nat) : Int))) 11 (.int .i64 0)) 36) (M.map sealed) = some (.exit 0, lst F2 36, M.map sealed) := by
      rw [show (2000 : Nat) = 1998 + 1 + 1 from rfl, aloop]
      simp only [show (1998 + 1 + 1 : Nat) = 2000 from rfl, r1]
      rw [aloop]
      simp only [r2]
    have f20 : F2 0 = (.slice (some ⟨b, 0, none⟩) 1 1) := f20.trans f10
    have f23 : F2 3 = .int .i64 ((k : Nat) : Int) := f23.trans f13
    have hx2 : cellAt (M.map sealed ++ [Blk.row false 9 (blanks k)]) b (0 + 0) = some (.slice (some ⟨b2, 0, none⟩) k k) := by
      rw [cellAt_row (show (M.map sealed ++ [Blk.row false 9 (blanks k)])[b]? = some (.row true 23 [.slice (some ⟨b2, 0, none⟩) k k]) by rw [List.getElem?_append_left hlt1]; exact hbs)]
      rfl
    have ha := appRoom (m := M.map sealed ++ [Blk.row false 9 (blanks k)]) (b := (M.map sealed).length) (b2 := b2) (k := k) (ro := true) (l := l.map Value.string) (by simp) (by rw [List.getElem?_append_left hlt2]; exact hbs2) (by rw [List.length_map]; exact hlen) (cellOk_texts l)
    have hset : (M.map sealed ++ [Blk.row false 9 (blanks k)]).set (M.map sealed).length (.row false 9 (l.map Value.string)) = M.map sealed ++ [.row false 9 (l.map Value.string)] := by
      rw [List.set_append_right _ _ (Nat.le_refl _)]
      simp
    rw [hset] at ha
    obtain ⟨F3, r3, f36, f37, f38⟩ := scc2_iter (nf := 2000) (m := M.map sealed ++ [Blk.row false 9 (blanks k)]) (F := upd (upd (upd (upd (upd (upd (F2) 23 (.int .i64 ((k : Nat) : Int))) 24 (.slice (some ⟨(M.map sealed).length, 0, none⟩) 0 k)) 6 (.slice (some ⟨(M.map sealed).length, 0, none⟩) 0 k)) 25 (.slice (some ⟨b, 0, none⟩) 1 1)) 26 (.int .i64 ((1 : Nat) : Int))) 27 (.int .i64 0)) (b := b) (c := 1) (b2 := b2) (k := k) rfl rfl rfl rfl hx2 ha
    obtain ⟨F4, r4, f46⟩ := scc2_last (nf := 2000) (m := M.map sealed ++ [.row false 9 (l.map Value.string)]) (F := F3) f36 f37
    have l2 : aloop (acodeN E (runQ E mem0 [] 1999).1 2000 lpscc_1) 2000 (lst (upd (upd (upd (upd (upd (upd (F2) 23 (.int .i64 ((k : Nat) : Int))) 24 (.slice (some ⟨(M.map sealed).length, 0, none⟩) 0 k)) 6 (.slice (some ⟨(M.map sealed).length, 0, none⟩) 0 k)) 25 (.slice (some ⟨b, 0, none⟩) 1 1)) 26 (.int .i64 ((1 : Nat) : Int))) 27 (.int .i64 0)) 36) (M.map sealed ++ [Blk.row false 9 (blanks k)]) = some (.exit 2, lst F4 36, M.map sealed ++ [.row false 9 (l.map Value.string)]) := by
      rw [show (2000 : Nat) = 1998 + 1 + 1 from rfl, aloop]
      simp only [show (1998 + 1 + 1 : Nat) = 2000 from rfl, r3]
      rw [aloop]
      simp only [r4]
    have f46 : F4 6 = .slice (some ⟨(M.map sealed).length, 0, none⟩) k k := f46.trans f38
    rw [List.length_map] at l2 f46
    simp only [escc_0, escc_1, escc_10, escc_11, escc_12, escc_13, escc_14, escc_15, escc_2, escc_3, escc_4, escc_5, escc_6, escc_7, escc_8, escc_9, lscc_0, lscc_1, lscc_2, lscc_3, lscc_4, lscc_5, lscc_6, lscc_7, lscc_8, lscc_9, lscc_10, lscc_11, lscc_12, lscc_13, lscc_14, lscc_15, agd_none, gdAt, gdV_bool, gdV_undef, Try.f14, List.append_eq, List.cons_append, List.nil_append, apure_call1, apure_call2, apure_call3, bft, btf, acodeN, List.getElem?_toArray, List.getElem?_cons_zero, List.getElem?_cons_succ, aopsN, adrawT, cls, astep, aop, afloat, ev, nth_lst, get_lst, aput, setAt_lst, upd_at, init_zero, init_succ, init_nil, Nat.reduceLT, Nat.reduceEqDiff, reduceIte, abuiltin, alen, Option.map_some, Option.map_none, orElse_some, apure_add, apure_eqlV, eqlVal_str, eqlVal_bool, eqlVal_ptr, eqlVal_slice, eqlVal_int, allT, ↓aop_eqlV, apure_neq, List.map_cons, List.map_nil, List.all_cons, List.all_nil, lit2, lit1, lit0, List.isEmpty_nil, Bool.and_self, Bool.and_true, Bool.true_and, Bool.false_and, Bool.and_false, Bool.not_true, Bool.not_false, Bool.or_true, Bool.true_or, Bool.false_or, Bool.or_false, Bool.false_eq_true, if_true, if_false, List.length_map, beq_self_eq_true, und3, und4, und5, und9, undSLS, l1, f20, f23, callGr, hgr, l2, f46, finish, ares, aresL, ares1]
  have hself := runQ_body (M := mem0) (n := 1999) hbody
  unfold ainv
  rw [show ([Value.slice (some ⟨b, 0, none⟩) 1 1].all lit2) = false from rfl, show E.wr 14 = false from by kernel_rfl]
  simp only [Bool.false_eq_true, if_false, hself]
  exact acoll_new (Nat.le_refl _) (by simp) (lits_texts l)
end Go.Am.Seat
