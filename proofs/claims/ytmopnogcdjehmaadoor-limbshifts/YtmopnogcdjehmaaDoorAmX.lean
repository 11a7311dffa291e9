/-
  Counted on the abstract machine, for any texts (own work).
-/
import Derived.Test.YtmopnogcdjehmaaDoorAmW
set_option linter.unusedSimpArgs false
set_option linter.unusedVariables false
namespace Go.Am.Seat
open Go.Proofs Go.Am
set_option maxRecDepth 100000

noncomputable def loop40 : Code := match Tryd.f42.body with
  | some (.seq _ (.seq _ (.seq (.seq _ (.block _ (.loop c))) _))) => c
  | _ => .skip

theorem load9 (b o : Nat) (m : Mem) : aload E.P 9 (.pointer (some ⟨b, o, none⟩)) m = cellAt m b o := aload_cell Tryd.underlying9 rfl b o m
theorem call63 : callableB E.P 68 = true := by kernel_rfl
theorem call64 : callableB E.P 69 = true := by kernel_rfl
theorem call65 : callableB E.P 70 = true := by kernel_rfl
theorem wr63 : E.wr 68 = true := by kernel_rfl
theorem wr64 : E.wr 69 = true := by kernel_rfl
theorem wr65 : E.wr 70 = true := by kernel_rfl
theorem conv92 (k : Int) : aconv E.P 3 68 (.int .i64 k) = some (.int .u16 (k % 65536)) := by kernel_rfl
theorem conv5 (k : Int) : aconv E.P 68 5 (.int .u16 k) = some (.int .u8 (k % 256)) := by kernel_rfl
theorem shr8 (k : Int) : abin .shr .u16 k .u64 8 = some (.int .u16 (k.fdiv 256)) := by kernel_rfl
theorem add1 (k : Int) : abin .add .i64 k .i64 1 = some (.int .i64 (wrapF .i64 (k + 1))) := by kernel_rfl
theorem lss64 (a b : Int) : abin .lss .i64 a .i64 b = some (.bool (decide (a < b))) := by kernel_rfl

section
variable {self : Self} {nf p q : Nat} {m m1 m2 m3 : Mem}

theorem iter40 {t1 t2 t4 t5 t6 t10 t11 t12 t13 t14 t15 t16 t17 t18 t19 t20 t21 t22 t23 t24 t25 t26 v : Value} {L i : Int} {pv : Value} {j : Nat} {s : ByteArray}
    (hlt : decide (i < L) = true) (hix : aindexAddr E.P 96 pv (.int .i64 i) = some (.pointer (some ⟨p, j, none⟩))) (hs : cellAt m p j = some (.string s))
    (h1 : self 68 [.pointer (some ⟨q, 0, none⟩), .int .u8 ((((s.data.toList.length : Nat) : Int) % 65536).fdiv 256 % 256)] m = some (.nilIface, m1))
    (h2 : self 68 [.pointer (some ⟨q, 0, none⟩), .int .u8 (((s.data.toList.length : Nat) : Int) % 65536 % 256)] m1 = some (.nilIface, m2))
    (h3 : self 70 [.pointer (some ⟨q, 0, none⟩), .string s] m2 = some (v, m3)) :
    ∃ u5 u6 u10 u11 u12 u13 u14 u15 u16 u17 u18 u19 u20 u21 u22 u23 u24 u25,
    acodeN E self nf loop40 [pv, t1, t2, .pointer (some ⟨q, 0, none⟩), t4, t5, t6, pv, .int .i64 L, .int .i64 i, t10, t11, t12, t13, t14, t15, t16, t17, t18, t19, t20, t21, t22, t23, t24, t25, t26] m =
      some (.normal, [pv, t1, t2, .pointer (some ⟨q, 0, none⟩), t4, u5, u6, pv, .int .i64 L, .int .i64 (wrapF .i64 (i + 1)), u10, u11, u12, u13, u14, u15, u16, u17, u18, u19, u20, u21, u22, u23, u24, u25, t26], m3) := by
  simp only [loop40, Tryd.f42, acodeN, aopsN, agd, astep, aop, ev, nth_zero, nth_succ, aput, setAt_zero, setAt_succ, Option.map_some, lss64, hlt, hix, load9, hs, conv92, conv5, shr8, add1, abuiltin, alen, show E.P.underlying 9 = some .string from Tryd.underlying9, call63, call65, ainv, wr63, wr65, List.map_cons, List.map_nil, List.all_cons, List.all_nil, lit2, lit1, lit0, List.isEmpty_nil, Bool.and_self, if_true, Bool.false_and, Bool.false_eq_true, if_false, h1, h2, h3]
  exact ⟨_, _, _, _, _, _, _, _, _, _, _, _, _, _, _, _, _, _, rfl⟩

theorem last40 {t1 t2 t3 t4 t5 t6 t10 t11 t12 t13 t14 t15 t16 t17 t18 t19 t20 t21 t22 t23 t24 t25 t26 : Value} {L i : Int} {pv : Value} (hlt : decide (i < L) = false) :
    acodeN E self nf loop40 [pv, t1, t2, t3, t4, t5, t6, pv, .int .i64 L, .int .i64 i, t10, t11, t12, t13, t14, t15, t16, t17, t18, t19, t20, t21, t22, t23, t24, t25, t26] m =
      some (.exit 0, [pv, t1, t2, t3, t4, t5, t6, pv, .int .i64 L, .int .i64 i, .bool false, t11, t12, t13, t14, t15, t16, t17, t18, t19, t20, t21, t22, t23, t24, t25, t26], m) := by
  simp only [loop40, Tryd.f42, acodeN, aopsN, agd, astep, aop, ev, nth_zero, nth_succ, aput, setAt_zero, setAt_succ, lss64, hlt]
end
end Go.Am.Seat
