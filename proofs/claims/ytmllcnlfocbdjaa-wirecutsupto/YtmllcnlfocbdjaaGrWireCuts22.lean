/-
  Texts of my own, put together: W26, W27.
-/
import Derived.Test.YtmllcnlfocbdjaaGrWireCuts21
import Derived.Test.YtmllcnlfocbdjaaGrWireCuts19
import Derived.Test.YtmllcnlfocbdjaaGrWireCuts18
import Derived.Test.YtmllcnlfocbdjaaGrWireCuts20
/-
  wire: messages of texts (own work).
-/
set_option linter.unusedSimpArgs false
set_option linter.unusedVariables false
namespace Go.Am.Seat
open Go.Proofs Go.Am
set_option maxRecDepth 100000

noncomputable def rrd0_0 : Array Oper := match Try.f37.body with
  | some (.seq (.region _ o _) _) => o
  | _ => #[]
noncomputable def lrd0_0 : List Oper := match Try.f37.body with
  | some (.seq (.region _ o _) _) => o.toList
  | _ => []
theorem erd0_0 : rrd0_0.toList = lrd0_0 := rfl
noncomputable def rrd0_1 : Array Oper := match Try.f37.body with
  | some (.seq _ (.seq (.region _ o _) _)) => o
  | _ => #[]
noncomputable def lrd0_1 : List Oper := match Try.f37.body with
  | some (.seq _ (.seq (.region _ o _) _)) => o.toList
  | _ => []
theorem erd0_1 : rrd0_1.toList = lrd0_1 := rfl
noncomputable def rrd0_2 : Array Oper := match Try.f37.body with
  | some (.seq _ (.seq _ (.seq (.seq (.region _ o _) _) _))) => o
  | _ => #[]
noncomputable def lrd0_2 : List Oper := match Try.f37.body with
  | some (.seq _ (.seq _ (.seq (.seq (.region _ o _) _) _))) => o.toList
  | _ => []
theorem erd0_2 : rrd0_2.toList = lrd0_2 := rfl
noncomputable def rrd0_3 : Array Oper := match Try.f37.body with
  | some (.seq _ (.seq _ (.seq (.seq _ (.cond _ (.seq (.region _ o _) _) _)) _))) => o
  | _ => #[]
noncomputable def lrd0_3 : List Oper := match Try.f37.body with
  | some (.seq _ (.seq _ (.seq (.seq _ (.cond _ (.seq (.region _ o _) _) _)) _))) => o.toList
  | _ => []
theorem erd0_3 : rrd0_3.toList = lrd0_3 := rfl
noncomputable def rrd0_4 : Array Oper := match Try.f37.body with
  | some (.seq _ (.seq _ (.seq (.seq _ (.cond _ (.seq _ (.seq (.region _ o _) _)) _)) _))) => o
  | _ => #[]
noncomputable def lrd0_4 : List Oper := match Try.f37.body with
  | some (.seq _ (.seq _ (.seq (.seq _ (.cond _ (.seq _ (.seq (.region _ o _) _)) _)) _))) => o.toList
  | _ => []
theorem erd0_4 : rrd0_4.toList = lrd0_4 := rfl
noncomputable def rrd0_5 : Array Oper := match Try.f37.body with
  | some (.seq _ (.seq _ (.seq _ (.seq (.region _ o _) _)))) => o
  | _ => #[]
noncomputable def lrd0_5 : List Oper := match Try.f37.body with
  | some (.seq _ (.seq _ (.seq _ (.seq (.region _ o _) _)))) => o.toList
  | _ => []
theorem erd0_5 : rrd0_5.toList = lrd0_5 := rfl
theorem bodyrd0 : Try.f37.body = some (.seq (.region 0 rrd0_0 false) (.seq (.region 1 rrd0_1 false) (.seq (.seq (.region 2 rrd0_2 false) (.cond (.tmp 18) (.seq (.region 3 rrd0_3 false) (.seq (.region 4 rrd0_4 false) .ret)) .skip)) (.seq (.region 5 rrd0_5 false) .ret)))) := rfl
-- ntmps 24
noncomputable def rpr0_0 : Array Oper := match Try.f21.body with
  | some (.seq (.region _ o _) _) => o
  | _ => #[]
noncomputable def lpr0_0 : List Oper := match Try.f21.body with
  | some (.seq (.region _ o _) _) => o.toList
  | _ => []
theorem epr0_0 : rpr0_0.toList = lpr0_0 := rfl
noncomputable def rpr0_1 : Array Oper := match Try.f21.body with
  | some (.seq _ (.seq (.region _ o _) _)) => o
  | _ => #[]
noncomputable def lpr0_1 : List Oper := match Try.f21.body with
  | some (.seq _ (.seq (.region _ o _) _)) => o.toList
  | _ => []
theorem epr0_1 : rpr0_1.toList = lpr0_1 := rfl
theorem bodypr0 : Try.f21.body = some (.seq (.region 0 rpr0_0 false) (.seq (.region 1 rpr0_1 false) .ret)) := rfl
-- ntmps 9


noncomputable def prA0 : Mem := mem0 ++ [.row false 54 [.string ⟨#[]⟩]]
noncomputable def prB0 : Mem := mem0 ++ [.row false 54 [.string ⟨#[]⟩], .row false 3 [.int .i64 32]]
noncomputable def rdA0 : Mem := mem0 ++ [.row true 54 [.string ⟨#[]⟩], .row true 3 [.int .i64 32]]
noncomputable def rdB0 : Mem := mem0 ++ [.row true 54 [.string ⟨#[]⟩], .row true 3 [.int .i64 32], .row false 54 [.string ⟨#[]⟩]]
noncomputable def rdE0 : Mem := mem0 ++ [.row true 54 [.string ⟨#[]⟩], .row true 3 [.int .i64 32], .row false 54 [.string ⟨#[]⟩], .row false 54 [.string ⟨#[]⟩]]
section
variable (s0 : ByteArray)
noncomputable def prC0 : Mem := mem0 ++ [.row false 54 [.string s0], .row false 3 [.int .i64 32]]
noncomputable def rdC0 : Mem := mem0 ++ [.row true 54 [.string ⟨#[]⟩], .row true 3 [.int .i64 32], .row false 54 [.string ⟨#[]⟩], .row false 9 [.string s0]]
noncomputable def rdD0 : Mem := mem0 ++ [.row true 54 [.string ⟨#[]⟩], .row true 3 [.int .i64 32], .row false 54 [.string s0], .row false 9 [.string s0]]
theorem rdpick0 (n : Nat) : ainv E (runQ E mem0 [] (n + 1)).1 38 [.slice (some ⟨1 + 3, 0, none⟩) 1 1] (rdC0 s0) = some (.agg ⟨[.string s0]⟩, rdC0 s0) := by kernel_rfl
theorem rdst0 : astore E.P 54 (.pointer (some ⟨1 + 2, 0, none⟩)) (.agg ⟨[.string s0]⟩) (rdC0 s0) = some (rdD0 s0) := by kernel_rfl
theorem rdld0 : aload E.P 54 (.pointer (some ⟨1 + 2, 0, none⟩)) (rdD0 s0) = some (.agg ⟨[.string s0]⟩) := by kernel_rfl
theorem prst0 : astore E.P 54 (.pointer (some ⟨1 + 0, 0, none⟩)) (.agg ⟨[.string s0]⟩) prB0 = some (prC0 s0) := by kernel_rfl
theorem prld0 : aload E.P 54 (.pointer (some ⟨1 + 0, 0, none⟩)) (prC0 s0) = some (.agg ⟨[.string s0]⟩) := by kernel_rfl
end
theorem rdal0 : aalloc E.P 54 rdA0 = some (.pointer (some ⟨1 + 2, 0, none⟩), rdB0) := by kernel_rfl
theorem rdal20 : aalloc E.P 54 rdB0 = some (.pointer (some ⟨1 + 3, 0, none⟩), rdE0) := by kernel_rfl
theorem rdld20 : aload E.P 54 (.pointer (some ⟨1 + 3, 0, none⟩)) rdE0 = some (.agg ⟨[.string ⟨#[]⟩]⟩) := by kernel_rfl
theorem rdst20 : astore E.P 54 (.pointer (some ⟨1 + 2, 0, none⟩)) (.agg ⟨[.string ⟨#[]⟩]⟩) rdE0 = some rdE0 := by kernel_rfl
theorem rdld30 : aload E.P 54 (.pointer (some ⟨1 + 2, 0, none⟩)) rdE0 = some (.agg ⟨[.string ⟨#[]⟩]⟩) := by kernel_rfl
theorem pral0 : aalloc E.P 54 mem0 = some (.pointer (some ⟨1 + 0, 0, none⟩), prA0) := by kernel_rfl
theorem prsz0 (n : Nat) : ainv E (runQ E mem0 [] (n + 1)).1 39 [] prA0 = some (.slice (some ⟨1 + 1, 0, none⟩) 1 1, prB0) := by kernel_rfl
theorem prse0 : prB0.map sealed = rdA0 := by kernel_rfl
theorem callrd0 : callableB E.P 37 = true := by kernel_rfl
theorem callpc0 : callableB E.P 38 = true := by kernel_rfl
theorem callsz0 : callableB E.P 39 = true := by kernel_rfl
theorem rdrs0 : RS rdB0 (.slice (some ⟨1 + 1, 0, none⟩) 1 1) ((szs11 0).map (Value.int .i64)) := RS.row (c := 1) (ro := true) (e := 3) (cs := (szs11 0).map (Value.int .i64)) (by kernel_rfl)

theorem rd0_body {n nf : Nat} {s : ByteArray} (hn : 1000 ≤ n) (hsl : s.data.toList.length ≤ 1000) :
    ∃ m', abody E (runQ E mem0 [] (n + 2)).1 nf 37 [.string s, .func (.func 38) ⟨[]⟩ ⟨[]⟩, .slice (some ⟨1 + 1, 0, none⟩) 1 1] rdA0 = some (.tuple ⟨[.agg ⟨(mparts (szs11 0) s).map Value.string⟩, .int .i64 (splitE s (szs11 0) : Nat)]⟩, m') := by
  have hsp := csplit_ex (n := n) hn (s := s) (b := 1 + 1) (o := 0) (c := 1) (szs := szs11 0) rdrs0 (by decide) hsl
  rw [show (szs11 0).length = 1 from rfl] at hsp
  rw [abody_eqF (by kernel_rfl) Try.func37 bodyrd0 (by kernel_rfl) (Nat.le_of_ble_eq_true rfl)]
  rw [show Try.f37.ntmps = 24 from rfl]
  by_cases he : splitE s (szs11 0) = 0
  · have hl : (splitL s (szs11 0)).length = 1 := by unfold splitL; rw [if_pos he, List.length_map, List.length_range]; rfl
    have hm : mparts (szs11 0) s = splitL s (szs11 0) := by unfold mparts; rw [if_pos he]
    obtain ⟨s0, hss⟩ := len1 hl
    rw [if_pos he, hss] at hsp
    have hsp : ainv E (runQ E mem0 [] (n + 2)).1 7 [.string s, .slice (some ⟨1 + 1, 0, none⟩) 1 1] rdB0 = some (.tuple ⟨[.slice (some ⟨1 + 3, 0, none⟩) 1 1, .int .i64 0]⟩, rdC0 s0) := hsp
    have hp := rdpick0 s0 (n + 1)
    have q : ((0 : Int) != 0) = false := rfl
    rw [hm, hss, he]
    simp only [erd0_0, erd0_1, erd0_2, erd0_3, erd0_4, erd0_5, lrd0_0, lrd0_1, lrd0_2, lrd0_3, lrd0_4, lrd0_5, agd_none, gdAt, gdV_bool, gdV_undef, Try.f37, List.append_eq, List.cons_append, List.nil_append, apure_call1, apure_call2, apure_call3, bft, btf, acodeN, List.getElem?_toArray, List.getElem?_cons_zero, List.getElem?_cons_succ, aopsN, adrawT, cls, astep, aop, afloat, ev, nth_lst, get_lst, aput, setAt_lst, upd_at, init_zero, init_succ, init_nil, Nat.reduceLT, Nat.reduceEqDiff, reduceIte, abuiltin, alen, Option.map_some, Option.map_none, orElse_some, apure_add, apure_eqlV, eqlVal_str, eqlVal_bool, eqlVal_ptr, eqlVal_slice, eqlVal_int, allT, ↓aop_eqlV, apure_neq, List.map_cons, List.map_nil, List.all_cons, List.all_nil, lit2, lit1, lit0, List.isEmpty_nil, Bool.and_self, Bool.and_true, Bool.true_and, Bool.false_and, Bool.and_false, Bool.not_true, Bool.not_false, Bool.or_true, Bool.true_or, Bool.false_or, Bool.or_false, Bool.false_eq_true, if_true, if_false, List.length_map, beq_self_eq_true, und3, und4, und5, und9, rdal0, callWS, hsp, aextract, neq64, q, callpc0, hp, rdst0 s0, finish, ares, aresL, ares1, rdld0 s0]
    exact ⟨_, rfl⟩
  · have hm : mparts (szs11 0) s = (szs11 0).map fun _ => ⟨#[]⟩ := by unfold mparts; rw [if_neg he]
    rw [if_neg he] at hsp
    have q : (((splitE s (szs11 0) : Nat) : Int) != 0) = true := by
      have : ((splitE s (szs11 0) : Nat) : Int) ≠ 0 := by omega
      simpa using this
    rw [hm]
    simp only [erd0_0, erd0_1, erd0_2, erd0_3, erd0_4, erd0_5, lrd0_0, lrd0_1, lrd0_2, lrd0_3, lrd0_4, lrd0_5, agd_none, gdAt, gdV_bool, gdV_undef, Try.f37, List.append_eq, List.cons_append, List.nil_append, apure_call1, apure_call2, apure_call3, bft, btf, acodeN, List.getElem?_toArray, List.getElem?_cons_zero, List.getElem?_cons_succ, aopsN, adrawT, cls, astep, aop, afloat, ev, nth_lst, get_lst, aput, setAt_lst, upd_at, init_zero, init_succ, init_nil, Nat.reduceLT, Nat.reduceEqDiff, reduceIte, abuiltin, alen, Option.map_some, Option.map_none, orElse_some, apure_add, apure_eqlV, eqlVal_str, eqlVal_bool, eqlVal_ptr, eqlVal_slice, eqlVal_int, allT, ↓aop_eqlV, apure_neq, List.map_cons, List.map_nil, List.all_cons, List.all_nil, lit2, lit1, lit0, List.isEmpty_nil, Bool.and_self, Bool.and_true, Bool.true_and, Bool.false_and, Bool.and_false, Bool.not_true, Bool.not_false, Bool.or_true, Bool.true_or, Bool.false_or, Bool.or_false, Bool.false_eq_true, if_true, if_false, List.length_map, beq_self_eq_true, und3, und4, und5, und9, rdal0, callWS, hsp, aextract, neq64, q, rdal20, rdld20, rdst20, finish, ares, aresL, ares1, rdld30]
    exact ⟨_, rfl⟩

theorem cparse0 {n : Nat} (hn : 1000 ≤ n) : CParse 21 (szs11 0) (runQ E mem0 [] (n + 4)).1 := by
  intro m s hT hsl
  obtain ⟨m', hrd⟩ := rd0_body (n := n) (nf := n + 3) (s := s) hn hsl
  have hrd := runQ_body hrd
  have hin : ainv E (runQ E mem0 [] (n + 3)).1 37 [.string s, .func (.func 38) ⟨[]⟩ ⟨[]⟩, .slice (some ⟨1 + 1, 0, none⟩) 1 1] prB0 = some (.tuple ⟨[.agg ⟨(mparts (szs11 0) s).map Value.string⟩, .int .i64 (splitE s (szs11 0) : Nat)]⟩, prB0) := by
    unfold ainv
    rw [show ([Value.string s, .func (.func 38) ⟨[]⟩ ⟨[]⟩, .slice (some ⟨1 + 1, 0, none⟩) 1 1].all lit2) = false from rfl, show E.wr 37 = false from by kernel_rfl]
    simp only [Bool.false_eq_true, if_false, prse0, hrd]
    obtain ⟨s0, hss⟩ := len1 (show (mparts (szs11 0) s).length = 1 from mparts_len _ _)
    rw [hss]
    unfold acoll
    exact if_pos rfl
  have hz := prsz0 (n + 2)
  have hr : ∃ m2, abody E (runQ E mem0 [] (n + 3)).1 (n + 4) 21 [.string s] mem0 = some (.tuple ⟨[.agg ⟨(mparts (szs11 0) s).map Value.string⟩, .int .i64 (splitE s (szs11 0) : Nat)]⟩, m2) := by
    obtain ⟨s0, hss⟩ := len1 (show (mparts (szs11 0) s).length = 1 from mparts_len _ _)
    rw [hss] at hin ⊢
    rw [abody_eqF (by kernel_rfl) Try.func21 bodypr0 (by kernel_rfl) (Nat.le_of_ble_eq_true rfl)]
    rw [show Try.f21.ntmps = 9 from rfl]
    simp only [List.map_cons, List.map_nil] at hin
    simp only [epr0_0, epr0_1, lpr0_0, lpr0_1, agd_none, gdAt, gdV_bool, gdV_undef, Try.f21, List.append_eq, List.cons_append, List.nil_append, apure_call1, apure_call2, apure_call3, bft, btf, acodeN, List.getElem?_toArray, List.getElem?_cons_zero, List.getElem?_cons_succ, aopsN, adrawT, cls, astep, aop, afloat, ev, nth_lst, get_lst, aput, setAt_lst, upd_at, init_zero, init_succ, init_nil, Nat.reduceLT, Nat.reduceEqDiff, reduceIte, abuiltin, alen, Option.map_some, Option.map_none, orElse_some, apure_add, apure_eqlV, eqlVal_str, eqlVal_bool, eqlVal_ptr, eqlVal_slice, eqlVal_int, allT, ↓aop_eqlV, apure_neq, List.map_cons, List.map_nil, List.all_cons, List.all_nil, lit2, lit1, lit0, List.isEmpty_nil, Bool.and_self, Bool.and_true, Bool.true_and, Bool.false_and, Bool.and_false, Bool.not_true, Bool.not_false, Bool.or_true, Bool.true_or, Bool.false_or, Bool.or_false, Bool.false_eq_true, if_true, if_false, List.length_map, beq_self_eq_true, und3, und4, und5, und9, pral0, callsz0, hz, callrd0, hin, aextract, prst0 s0, finish, ares, aresL, ares1, prld0 s0]
    exact ⟨_, rfl⟩
  obtain ⟨m2, hr⟩ := hr
  rw [ainv_tabs rfl (by kernel_rfl) hT (runQ_body hr)]
  obtain ⟨s0, hss⟩ := len1 (show (mparts (szs11 0) s).length = 1 from mparts_len _ _)
  rw [hss]
  unfold acoll
  exact if_pos rfl

noncomputable def rrd1_0 : Array Oper := match Try.f40.body with
  | some (.seq (.region _ o _) _) => o
  | _ => #[]
noncomputable def lrd1_0 : List Oper := match Try.f40.body with
  | some (.seq (.region _ o _) _) => o.toList
  | _ => []
theorem erd1_0 : rrd1_0.toList = lrd1_0 := rfl
noncomputable def rrd1_1 : Array Oper := match Try.f40.body with
  | some (.seq _ (.seq (.region _ o _) _)) => o
  | _ => #[]
noncomputable def lrd1_1 : List Oper := match Try.f40.body with
  | some (.seq _ (.seq (.region _ o _) _)) => o.toList
  | _ => []
theorem erd1_1 : rrd1_1.toList = lrd1_1 := rfl
noncomputable def rrd1_2 : Array Oper := match Try.f40.body with
  | some (.seq _ (.seq _ (.seq (.seq (.region _ o _) _) _))) => o
  | _ => #[]
noncomputable def lrd1_2 : List Oper := match Try.f40.body with
  | some (.seq _ (.seq _ (.seq (.seq (.region _ o _) _) _))) => o.toList
  | _ => []
theorem erd1_2 : rrd1_2.toList = lrd1_2 := rfl
noncomputable def rrd1_3 : Array Oper := match Try.f40.body with
  | some (.seq _ (.seq _ (.seq (.seq _ (.cond _ (.seq (.region _ o _) _) _)) _))) => o
  | _ => #[]
noncomputable def lrd1_3 : List Oper := match Try.f40.body with
  | some (.seq _ (.seq _ (.seq (.seq _ (.cond _ (.seq (.region _ o _) _) _)) _))) => o.toList
  | _ => []
theorem erd1_3 : rrd1_3.toList = lrd1_3 := rfl
noncomputable def rrd1_4 : Array Oper := match Try.f40.body with
  | some (.seq _ (.seq _ (.seq (.seq _ (.cond _ (.seq _ (.seq (.region _ o _) _)) _)) _))) => o
  | _ => #[]
noncomputable def lrd1_4 : List Oper := match Try.f40.body with
  | some (.seq _ (.seq _ (.seq (.seq _ (.cond _ (.seq _ (.seq (.region _ o _) _)) _)) _))) => o.toList
  | _ => []
theorem erd1_4 : rrd1_4.toList = lrd1_4 := rfl
noncomputable def rrd1_5 : Array Oper := match Try.f40.body with
  | some (.seq _ (.seq _ (.seq _ (.seq (.region _ o _) _)))) => o
  | _ => #[]
noncomputable def lrd1_5 : List Oper := match Try.f40.body with
  | some (.seq _ (.seq _ (.seq _ (.seq (.region _ o _) _)))) => o.toList
  | _ => []
theorem erd1_5 : rrd1_5.toList = lrd1_5 := rfl
theorem bodyrd1 : Try.f40.body = some (.seq (.region 0 rrd1_0 false) (.seq (.region 1 rrd1_1 false) (.seq (.seq (.region 2 rrd1_2 false) (.cond (.tmp 18) (.seq (.region 3 rrd1_3 false) (.seq (.region 4 rrd1_4 false) .ret)) .skip)) (.seq (.region 5 rrd1_5 false) .ret)))) := rfl
-- ntmps 24
noncomputable def rpr1_0 : Array Oper := match Try.f23.body with
  | some (.seq (.region _ o _) _) => o
  | _ => #[]
noncomputable def lpr1_0 : List Oper := match Try.f23.body with
  | some (.seq (.region _ o _) _) => o.toList
  | _ => []
theorem epr1_0 : rpr1_0.toList = lpr1_0 := rfl
noncomputable def rpr1_1 : Array Oper := match Try.f23.body with
  | some (.seq _ (.seq (.region _ o _) _)) => o
  | _ => #[]
noncomputable def lpr1_1 : List Oper := match Try.f23.body with
  | some (.seq _ (.seq (.region _ o _) _)) => o.toList
  | _ => []
theorem epr1_1 : rpr1_1.toList = lpr1_1 := rfl
theorem bodypr1 : Try.f23.body = some (.seq (.region 0 rpr1_0 false) (.seq (.region 1 rpr1_1 false) .ret)) := rfl
-- ntmps 9


noncomputable def prA1 : Mem := mem0 ++ [.row false 58 [.string ⟨#[]⟩, .string ⟨#[]⟩]]
noncomputable def prB1 : Mem := mem0 ++ [.row false 58 [.string ⟨#[]⟩, .string ⟨#[]⟩], .row false 3 [.int .i64 32, .int .i64 32]]
noncomputable def rdA1 : Mem := mem0 ++ [.row true 58 [.string ⟨#[]⟩, .string ⟨#[]⟩], .row true 3 [.int .i64 32, .int .i64 32]]
noncomputable def rdB1 : Mem := mem0 ++ [.row true 58 [.string ⟨#[]⟩, .string ⟨#[]⟩], .row true 3 [.int .i64 32, .int .i64 32], .row false 58 [.string ⟨#[]⟩, .string ⟨#[]⟩]]
noncomputable def rdE1 : Mem := mem0 ++ [.row true 58 [.string ⟨#[]⟩, .string ⟨#[]⟩], .row true 3 [.int .i64 32, .int .i64 32], .row false 58 [.string ⟨#[]⟩, .string ⟨#[]⟩], .row false 58 [.string ⟨#[]⟩, .string ⟨#[]⟩]]
section
variable (s0 s1 : ByteArray)
noncomputable def prC1 : Mem := mem0 ++ [.row false 58 [.string s0, .string s1], .row false 3 [.int .i64 32, .int .i64 32]]
noncomputable def rdC1 : Mem := mem0 ++ [.row true 58 [.string ⟨#[]⟩, .string ⟨#[]⟩], .row true 3 [.int .i64 32, .int .i64 32], .row false 58 [.string ⟨#[]⟩, .string ⟨#[]⟩], .row false 9 [.string s0, .string s1]]
noncomputable def rdD1 : Mem := mem0 ++ [.row true 58 [.string ⟨#[]⟩, .string ⟨#[]⟩], .row true 3 [.int .i64 32, .int .i64 32], .row false 58 [.string s0, .string s1], .row false 9 [.string s0, .string s1]]
theorem rdpick1 (n : Nat) : ainv E (runQ E mem0 [] (n + 1)).1 41 [.slice (some ⟨1 + 3, 0, none⟩) 2 2] (rdC1 s0 s1) = some (.agg ⟨[.string s0, .string s1]⟩, rdC1 s0 s1) := by kernel_rfl
theorem rdst1 : astore E.P 58 (.pointer (some ⟨1 + 2, 0, none⟩)) (.agg ⟨[.string s0, .string s1]⟩) (rdC1 s0 s1) = some (rdD1 s0 s1) := by kernel_rfl
theorem rdld1 : aload E.P 58 (.pointer (some ⟨1 + 2, 0, none⟩)) (rdD1 s0 s1) = some (.agg ⟨[.string s0, .string s1]⟩) := by kernel_rfl
theorem prst1 : astore E.P 58 (.pointer (some ⟨1 + 0, 0, none⟩)) (.agg ⟨[.string s0, .string s1]⟩) prB1 = some (prC1 s0 s1) := by kernel_rfl
theorem prld1 : aload E.P 58 (.pointer (some ⟨1 + 0, 0, none⟩)) (prC1 s0 s1) = some (.agg ⟨[.string s0, .string s1]⟩) := by kernel_rfl
end
theorem rdal1 : aalloc E.P 58 rdA1 = some (.pointer (some ⟨1 + 2, 0, none⟩), rdB1) := by kernel_rfl
theorem rdal21 : aalloc E.P 58 rdB1 = some (.pointer (some ⟨1 + 3, 0, none⟩), rdE1) := by kernel_rfl
theorem rdld21 : aload E.P 58 (.pointer (some ⟨1 + 3, 0, none⟩)) rdE1 = some (.agg ⟨[.string ⟨#[]⟩, .string ⟨#[]⟩]⟩) := by kernel_rfl
theorem rdst21 : astore E.P 58 (.pointer (some ⟨1 + 2, 0, none⟩)) (.agg ⟨[.string ⟨#[]⟩, .string ⟨#[]⟩]⟩) rdE1 = some rdE1 := by kernel_rfl
theorem rdld31 : aload E.P 58 (.pointer (some ⟨1 + 2, 0, none⟩)) rdE1 = some (.agg ⟨[.string ⟨#[]⟩, .string ⟨#[]⟩]⟩) := by kernel_rfl
theorem pral1 : aalloc E.P 58 mem0 = some (.pointer (some ⟨1 + 0, 0, none⟩), prA1) := by kernel_rfl
theorem prsz1 (n : Nat) : ainv E (runQ E mem0 [] (n + 1)).1 42 [] prA1 = some (.slice (some ⟨1 + 1, 0, none⟩) 2 2, prB1) := by kernel_rfl
theorem prse1 : prB1.map sealed = rdA1 := by kernel_rfl
theorem callrd1 : callableB E.P 40 = true := by kernel_rfl
theorem callpc1 : callableB E.P 41 = true := by kernel_rfl
theorem callsz1 : callableB E.P 42 = true := by kernel_rfl
theorem rdrs1 : RS rdB1 (.slice (some ⟨1 + 1, 0, none⟩) 2 2) ((szs11 1).map (Value.int .i64)) := RS.row (c := 2) (ro := true) (e := 3) (cs := (szs11 1).map (Value.int .i64)) (by kernel_rfl)

theorem rd1_body {n nf : Nat} {s : ByteArray} (hn : 1000 ≤ n) (hsl : s.data.toList.length ≤ 1000) :
    ∃ m', abody E (runQ E mem0 [] (n + 2)).1 nf 40 [.string s, .func (.func 41) ⟨[]⟩ ⟨[]⟩, .slice (some ⟨1 + 1, 0, none⟩) 2 2] rdA1 = some (.tuple ⟨[.agg ⟨(mparts (szs11 1) s).map Value.string⟩, .int .i64 (splitE s (szs11 1) : Nat)]⟩, m') := by
  have hsp := csplit_ex (n := n) hn (s := s) (b := 1 + 1) (o := 0) (c := 2) (szs := szs11 1) rdrs1 (by decide) hsl
  rw [show (szs11 1).length = 2 from rfl] at hsp
  rw [abody_eqF (by kernel_rfl) Try.func40 bodyrd1 (by kernel_rfl) (Nat.le_of_ble_eq_true rfl)]
  rw [show Try.f40.ntmps = 24 from rfl]
  by_cases he : splitE s (szs11 1) = 0
  · have hl : (splitL s (szs11 1)).length = 2 := by unfold splitL; rw [if_pos he, List.length_map, List.length_range]; rfl
    have hm : mparts (szs11 1) s = splitL s (szs11 1) := by unfold mparts; rw [if_pos he]
    obtain ⟨s0, s1, hss⟩ := len2 hl
    rw [if_pos he, hss] at hsp
    have hsp : ainv E (runQ E mem0 [] (n + 2)).1 7 [.string s, .slice (some ⟨1 + 1, 0, none⟩) 2 2] rdB1 = some (.tuple ⟨[.slice (some ⟨1 + 3, 0, none⟩) 2 2, .int .i64 0]⟩, rdC1 s0 s1) := hsp
    have hp := rdpick1 s0 s1 (n + 1)
    have q : ((0 : Int) != 0) = false := rfl
    rw [hm, hss, he]
    simp only [erd1_0, erd1_1, erd1_2, erd1_3, erd1_4, erd1_5, lrd1_0, lrd1_1, lrd1_2, lrd1_3, lrd1_4, lrd1_5, agd_none, gdAt, gdV_bool, gdV_undef, Try.f40, List.append_eq, List.cons_append, List.nil_append, apure_call1, apure_call2, apure_call3, bft, btf, acodeN, List.getElem?_toArray, List.getElem?_cons_zero, List.getElem?_cons_succ, aopsN, adrawT, cls, astep, aop, afloat, ev, nth_lst, get_lst, aput, setAt_lst, upd_at, init_zero, init_succ, init_nil, Nat.reduceLT, Nat.reduceEqDiff, reduceIte, abuiltin, alen, Option.map_some, Option.map_none, orElse_some, apure_add, apure_eqlV, eqlVal_str, eqlVal_bool, eqlVal_ptr, eqlVal_slice, eqlVal_int, allT, ↓aop_eqlV, apure_neq, List.map_cons, List.map_nil, List.all_cons, List.all_nil, lit2, lit1, lit0, List.isEmpty_nil, Bool.and_self, Bool.and_true, Bool.true_and, Bool.false_and, Bool.and_false, Bool.not_true, Bool.not_false, Bool.or_true, Bool.true_or, Bool.false_or, Bool.or_false, Bool.false_eq_true, if_true, if_false, List.length_map, beq_self_eq_true, und3, und4, und5, und9, rdal1, callWS, hsp, aextract, neq64, q, callpc1, hp, rdst1 s0 s1, finish, ares, aresL, ares1, rdld1 s0 s1]
    exact ⟨_, rfl⟩
  · have hm : mparts (szs11 1) s = (szs11 1).map fun _ => ⟨#[]⟩ := by unfold mparts; rw [if_neg he]
    rw [if_neg he] at hsp
    have q : (((splitE s (szs11 1) : Nat) : Int) != 0) = true := by
      have : ((splitE s (szs11 1) : Nat) : Int) ≠ 0 := by omega
      simpa using this
    rw [hm]
    simp only [erd1_0, erd1_1, erd1_2, erd1_3, erd1_4, erd1_5, lrd1_0, lrd1_1, lrd1_2, lrd1_3, lrd1_4, lrd1_5, agd_none, gdAt, gdV_bool, gdV_undef, Try.f40, List.append_eq, List.cons_append, List.nil_append, apure_call1, apure_call2, apure_call3, bft, btf, acodeN, List.getElem?_toArray, List.getElem?_cons_zero, List.getElem?_cons_succ, aopsN, adrawT, cls, astep, aop, afloat, ev, nth_lst, get_lst, aput, setAt_lst, upd_at, init_zero, init_succ, init_nil, Nat.reduceLT, Nat.reduceEqDiff, reduceIte, abuiltin, alen, Option.map_some, Option.map_none, orElse_some, apure_add, apure_eqlV, eqlVal_str, eqlVal_bool, eqlVal_ptr, eqlVal_slice, eqlVal_int, allT, ↓aop_eqlV, apure_neq, List.map_cons, List.map_nil, List.all_cons, List.all_nil, lit2, lit1, lit0, List.isEmpty_nil, Bool.and_self, Bool.and_true, Bool.true_and, Bool.false_and, Bool.and_false, Bool.not_true, Bool.not_false, Bool.or_true, Bool.true_or, Bool.false_or, Bool.or_false, Bool.false_eq_true, if_true, if_false, List.length_map, beq_self_eq_true, und3, und4, und5, und9, rdal1, callWS, hsp, aextract, neq64, q, rdal21, rdld21, rdst21, finish, ares, aresL, ares1, rdld31]
    exact ⟨_, rfl⟩

theorem cparse1 {n : Nat} (hn : 1000 ≤ n) : CParse 23 (szs11 1) (runQ E mem0 [] (n + 4)).1 := by
  intro m s hT hsl
  obtain ⟨m', hrd⟩ := rd1_body (n := n) (nf := n + 3) (s := s) hn hsl
  have hrd := runQ_body hrd
  have hin : ainv E (runQ E mem0 [] (n + 3)).1 40 [.string s, .func (.func 41) ⟨[]⟩ ⟨[]⟩, .slice (some ⟨1 + 1, 0, none⟩) 2 2] prB1 = some (.tuple ⟨[.agg ⟨(mparts (szs11 1) s).map Value.string⟩, .int .i64 (splitE s (szs11 1) : Nat)]⟩, prB1) := by
    unfold ainv
    rw [show ([Value.string s, .func (.func 41) ⟨[]⟩ ⟨[]⟩, .slice (some ⟨1 + 1, 0, none⟩) 2 2].all lit2) = false from rfl, show E.wr 40 = false from by kernel_rfl]
    simp only [Bool.false_eq_true, if_false, prse1, hrd]
    obtain ⟨s0, s1, hss⟩ := len2 (show (mparts (szs11 1) s).length = 2 from mparts_len _ _)
    rw [hss]
    unfold acoll
    exact if_pos rfl
  have hz := prsz1 (n + 2)
  have hr : ∃ m2, abody E (runQ E mem0 [] (n + 3)).1 (n + 4) 23 [.string s] mem0 = some (.tuple ⟨[.agg ⟨(mparts (szs11 1) s).map Value.string⟩, .int .i64 (splitE s (szs11 1) : Nat)]⟩, m2) := by
    obtain ⟨s0, s1, hss⟩ := len2 (show (mparts (szs11 1) s).length = 2 from mparts_len _ _)
    rw [hss] at hin ⊢
    rw [abody_eqF (by kernel_rfl) Try.func23 bodypr1 (by kernel_rfl) (Nat.le_of_ble_eq_true rfl)]
    rw [show Try.f23.ntmps = 9 from rfl]
    simp only [List.map_cons, List.map_nil] at hin
    simp only [epr1_0, epr1_1, lpr1_0, lpr1_1, agd_none, gdAt, gdV_bool, gdV_undef, Try.f23, List.append_eq, List.cons_append, List.nil_append, apure_call1, apure_call2, apure_call3, bft, btf, acodeN, List.getElem?_toArray, List.getElem?_cons_zero, List.getElem?_cons_succ, aopsN, adrawT, cls, astep, aop, afloat, ev, nth_lst, get_lst, aput, setAt_lst, upd_at, init_zero, init_succ, init_nil, Nat.reduceLT, Nat.reduceEqDiff, reduceIte, abuiltin, alen, Option.map_some, Option.map_none, orElse_some, apure_add, apure_eqlV, eqlVal_str, eqlVal_bool, eqlVal_ptr, eqlVal_slice, eqlVal_int, allT, ↓aop_eqlV, apure_neq, List.map_cons, List.map_nil, List.all_cons, List.all_nil, lit2, lit1, lit0, List.isEmpty_nil, Bool.and_self, Bool.and_true, Bool.true_and, Bool.false_and, Bool.and_false, Bool.not_true, Bool.not_false, Bool.or_true, Bool.true_or, Bool.false_or, Bool.or_false, Bool.false_eq_true, if_true, if_false, List.length_map, beq_self_eq_true, und3, und4, und5, und9, pral1, callsz1, hz, callrd1, hin, aextract, prst1 s0 s1, finish, ares, aresL, ares1, prld1 s0 s1]
    exact ⟨_, rfl⟩
  obtain ⟨m2, hr⟩ := hr
  rw [ainv_tabs rfl (by kernel_rfl) hT (runQ_body hr)]
  obtain ⟨s0, s1, hss⟩ := len2 (show (mparts (szs11 1) s).length = 2 from mparts_len _ _)
  rw [hss]
  unfold acoll
  exact if_pos rfl

noncomputable def rrd2_0 : Array Oper := match Try.f43.body with
  | some (.seq (.region _ o _) _) => o
  | _ => #[]
noncomputable def lrd2_0 : List Oper := match Try.f43.body with
  | some (.seq (.region _ o _) _) => o.toList
  | _ => []
theorem erd2_0 : rrd2_0.toList = lrd2_0 := rfl
noncomputable def rrd2_1 : Array Oper := match Try.f43.body with
  | some (.seq _ (.seq (.region _ o _) _)) => o
  | _ => #[]
noncomputable def lrd2_1 : List Oper := match Try.f43.body with
  | some (.seq _ (.seq (.region _ o _) _)) => o.toList
  | _ => []
theorem erd2_1 : rrd2_1.toList = lrd2_1 := rfl
noncomputable def rrd2_2 : Array Oper := match Try.f43.body with
  | some (.seq _ (.seq _ (.seq (.seq (.region _ o _) _) _))) => o
  | _ => #[]
noncomputable def lrd2_2 : List Oper := match Try.f43.body with
  | some (.seq _ (.seq _ (.seq (.seq (.region _ o _) _) _))) => o.toList
  | _ => []
theorem erd2_2 : rrd2_2.toList = lrd2_2 := rfl
noncomputable def rrd2_3 : Array Oper := match Try.f43.body with
  | some (.seq _ (.seq _ (.seq (.seq _ (.cond _ (.seq (.region _ o _) _) _)) _))) => o
  | _ => #[]
noncomputable def lrd2_3 : List Oper := match Try.f43.body with
  | some (.seq _ (.seq _ (.seq (.seq _ (.cond _ (.seq (.region _ o _) _) _)) _))) => o.toList
  | _ => []
theorem erd2_3 : rrd2_3.toList = lrd2_3 := rfl
noncomputable def rrd2_4 : Array Oper := match Try.f43.body with
  | some (.seq _ (.seq _ (.seq (.seq _ (.cond _ (.seq _ (.seq (.region _ o _) _)) _)) _))) => o
  | _ => #[]
noncomputable def lrd2_4 : List Oper := match Try.f43.body with
  | some (.seq _ (.seq _ (.seq (.seq _ (.cond _ (.seq _ (.seq (.region _ o _) _)) _)) _))) => o.toList
  | _ => []
theorem erd2_4 : rrd2_4.toList = lrd2_4 := rfl
noncomputable def rrd2_5 : Array Oper := match Try.f43.body with
  | some (.seq _ (.seq _ (.seq _ (.seq (.region _ o _) _)))) => o
  | _ => #[]
noncomputable def lrd2_5 : List Oper := match Try.f43.body with
  | some (.seq _ (.seq _ (.seq _ (.seq (.region _ o _) _)))) => o.toList
  | _ => []
theorem erd2_5 : rrd2_5.toList = lrd2_5 := rfl
theorem bodyrd2 : Try.f43.body = some (.seq (.region 0 rrd2_0 false) (.seq (.region 1 rrd2_1 false) (.seq (.seq (.region 2 rrd2_2 false) (.cond (.tmp 18) (.seq (.region 3 rrd2_3 false) (.seq (.region 4 rrd2_4 false) .ret)) .skip)) (.seq (.region 5 rrd2_5 false) .ret)))) := rfl
-- ntmps 24
noncomputable def rpr2_0 : Array Oper := match Try.f25.body with
  | some (.seq (.region _ o _) _) => o
  | _ => #[]
noncomputable def lpr2_0 : List Oper := match Try.f25.body with
  | some (.seq (.region _ o _) _) => o.toList
  | _ => []
theorem epr2_0 : rpr2_0.toList = lpr2_0 := rfl
noncomputable def rpr2_1 : Array Oper := match Try.f25.body with
  | some (.seq _ (.seq (.region _ o _) _)) => o
  | _ => #[]
noncomputable def lpr2_1 : List Oper := match Try.f25.body with
  | some (.seq _ (.seq (.region _ o _) _)) => o.toList
  | _ => []
theorem epr2_1 : rpr2_1.toList = lpr2_1 := rfl
theorem bodypr2 : Try.f25.body = some (.seq (.region 0 rpr2_0 false) (.seq (.region 1 rpr2_1 false) .ret)) := rfl
-- ntmps 9


noncomputable def prA2 : Mem := mem0 ++ [.row false 44 [.string ⟨#[]⟩, .string ⟨#[]⟩, .string ⟨#[]⟩]]
noncomputable def prB2 : Mem := mem0 ++ [.row false 44 [.string ⟨#[]⟩, .string ⟨#[]⟩, .string ⟨#[]⟩], .row false 3 [.int .i64 32, .int .i64 64, .int .i64 96]]
noncomputable def rdA2 : Mem := mem0 ++ [.row true 44 [.string ⟨#[]⟩, .string ⟨#[]⟩, .string ⟨#[]⟩], .row true 3 [.int .i64 32, .int .i64 64, .int .i64 96]]
noncomputable def rdB2 : Mem := mem0 ++ [.row true 44 [.string ⟨#[]⟩, .string ⟨#[]⟩, .string ⟨#[]⟩], .row true 3 [.int .i64 32, .int .i64 64, .int .i64 96], .row false 44 [.string ⟨#[]⟩, .string ⟨#[]⟩, .string ⟨#[]⟩]]
noncomputable def rdE2 : Mem := mem0 ++ [.row true 44 [.string ⟨#[]⟩, .string ⟨#[]⟩, .string ⟨#[]⟩], .row true 3 [.int .i64 32, .int .i64 64, .int .i64 96], .row false 44 [.string ⟨#[]⟩, .string ⟨#[]⟩, .string ⟨#[]⟩], .row false 44 [.string ⟨#[]⟩, .string ⟨#[]⟩, .string ⟨#[]⟩]]
section
variable (s0 s1 s2 : ByteArray)
noncomputable def prC2 : Mem := mem0 ++ [.row false 44 [.string s0, .string s1, .string s2], .row false 3 [.int .i64 32, .int .i64 64, .int .i64 96]]
noncomputable def rdC2 : Mem := mem0 ++ [.row true 44 [.string ⟨#[]⟩, .string ⟨#[]⟩, .string ⟨#[]⟩], .row true 3 [.int .i64 32, .int .i64 64, .int .i64 96], .row false 44 [.string ⟨#[]⟩, .string ⟨#[]⟩, .string ⟨#[]⟩], .row false 9 [.string s0, .string s1, .string s2]]
noncomputable def rdD2 : Mem := mem0 ++ [.row true 44 [.string ⟨#[]⟩, .string ⟨#[]⟩, .string ⟨#[]⟩], .row true 3 [.int .i64 32, .int .i64 64, .int .i64 96], .row false 44 [.string s0, .string s1, .string s2], .row false 9 [.string s0, .string s1, .string s2]]
theorem rdpick2 (n : Nat) : ainv E (runQ E mem0 [] (n + 1)).1 44 [.slice (some ⟨1 + 3, 0, none⟩) 3 3] (rdC2 s0 s1 s2) = some (.agg ⟨[.string s0, .string s1, .string s2]⟩, rdC2 s0 s1 s2) := by kernel_rfl
theorem rdst2 : astore E.P 44 (.pointer (some ⟨1 + 2, 0, none⟩)) (.agg ⟨[.string s0, .string s1, .string s2]⟩) (rdC2 s0 s1 s2) = some (rdD2 s0 s1 s2) := by kernel_rfl
theorem rdld2 : aload E.P 44 (.pointer (some ⟨1 + 2, 0, none⟩)) (rdD2 s0 s1 s2) = some (.agg ⟨[.string s0, .string s1, .string s2]⟩) := by kernel_rfl
theorem prst2 : astore E.P 44 (.pointer (some ⟨1 + 0, 0, none⟩)) (.agg ⟨[.string s0, .string s1, .string s2]⟩) prB2 = some (prC2 s0 s1 s2) := by kernel_rfl
theorem prld2 : aload E.P 44 (.pointer (some ⟨1 + 0, 0, none⟩)) (prC2 s0 s1 s2) = some (.agg ⟨[.string s0, .string s1, .string s2]⟩) := by kernel_rfl
end
theorem rdal2 : aalloc E.P 44 rdA2 = some (.pointer (some ⟨1 + 2, 0, none⟩), rdB2) := by kernel_rfl
theorem rdal22 : aalloc E.P 44 rdB2 = some (.pointer (some ⟨1 + 3, 0, none⟩), rdE2) := by kernel_rfl
theorem rdld22 : aload E.P 44 (.pointer (some ⟨1 + 3, 0, none⟩)) rdE2 = some (.agg ⟨[.string ⟨#[]⟩, .string ⟨#[]⟩, .string ⟨#[]⟩]⟩) := by kernel_rfl
theorem rdst22 : astore E.P 44 (.pointer (some ⟨1 + 2, 0, none⟩)) (.agg ⟨[.string ⟨#[]⟩, .string ⟨#[]⟩, .string ⟨#[]⟩]⟩) rdE2 = some rdE2 := by kernel_rfl
theorem rdld32 : aload E.P 44 (.pointer (some ⟨1 + 2, 0, none⟩)) rdE2 = some (.agg ⟨[.string ⟨#[]⟩, .string ⟨#[]⟩, .string ⟨#[]⟩]⟩) := by kernel_rfl
theorem pral2 : aalloc E.P 44 mem0 = some (.pointer (some ⟨1 + 0, 0, none⟩), prA2) := by kernel_rfl
theorem prsz2 (n : Nat) : ainv E (runQ E mem0 [] (n + 1)).1 32 [] prA2 = some (.slice (some ⟨1 + 1, 0, none⟩) 3 3, prB2) := by kernel_rfl
theorem prse2 : prB2.map sealed = rdA2 := by kernel_rfl
theorem callrd2 : callableB E.P 43 = true := by kernel_rfl
theorem callpc2 : callableB E.P 44 = true := by kernel_rfl
theorem callsz2 : callableB E.P 32 = true := by kernel_rfl
theorem rdrs2 : RS rdB2 (.slice (some ⟨1 + 1, 0, none⟩) 3 3) ((szs11 2).map (Value.int .i64)) := RS.row (c := 3) (ro := true) (e := 3) (cs := (szs11 2).map (Value.int .i64)) (by kernel_rfl)

theorem rd2_body {n nf : Nat} {s : ByteArray} (hn : 1000 ≤ n) (hsl : s.data.toList.length ≤ 1000) :
    ∃ m', abody E (runQ E mem0 [] (n + 2)).1 nf 43 [.string s, .func (.func 44) ⟨[]⟩ ⟨[]⟩, .slice (some ⟨1 + 1, 0, none⟩) 3 3] rdA2 = some (.tuple ⟨[.agg ⟨(mparts (szs11 2) s).map Value.string⟩, .int .i64 (splitE s (szs11 2) : Nat)]⟩, m') := by
  have hsp := csplit_ex (n := n) hn (s := s) (b := 1 + 1) (o := 0) (c := 3) (szs := szs11 2) rdrs2 (by decide) hsl
  rw [show (szs11 2).length = 3 from rfl] at hsp
  rw [abody_eqF (by kernel_rfl) Try.func43 bodyrd2 (by kernel_rfl) (Nat.le_of_ble_eq_true rfl)]
  rw [show Try.f43.ntmps = 24 from rfl]
  by_cases he : splitE s (szs11 2) = 0
  · have hl : (splitL s (szs11 2)).length = 3 := by unfold splitL; rw [if_pos he, List.length_map, List.length_range]; rfl
    have hm : mparts (szs11 2) s = splitL s (szs11 2) := by unfold mparts; rw [if_pos he]
    obtain ⟨s0, s1, s2, hss⟩ := len3 hl
    rw [if_pos he, hss] at hsp
    have hsp : ainv E (runQ E mem0 [] (n + 2)).1 7 [.string s, .slice (some ⟨1 + 1, 0, none⟩) 3 3] rdB2 = some (.tuple ⟨[.slice (some ⟨1 + 3, 0, none⟩) 3 3, .int .i64 0]⟩, rdC2 s0 s1 s2) := hsp
    have hp := rdpick2 s0 s1 s2 (n + 1)
    have q : ((0 : Int) != 0) = false := rfl
    rw [hm, hss, he]
    simp only [erd2_0, erd2_1, erd2_2, erd2_3, erd2_4, erd2_5, lrd2_0, lrd2_1, lrd2_2, lrd2_3, lrd2_4, lrd2_5, agd_none, gdAt, gdV_bool, gdV_undef, Try.f43, List.append_eq, List.cons_append, List.nil_append, apure_call1, apure_call2, apure_call3, bft, btf, acodeN, List.getElem?_toArray, List.getElem?_cons_zero, List.getElem?_cons_succ, aopsN, adrawT, cls, astep, aop, afloat, ev, nth_lst, get_lst, aput, setAt_lst, upd_at, init_zero, init_succ, init_nil, Nat.reduceLT, Nat.reduceEqDiff, reduceIte, abuiltin, alen, Option.map_some, Option.map_none, orElse_some, apure_add, apure_eqlV, eqlVal_str, eqlVal_bool, eqlVal_ptr, eqlVal_slice, eqlVal_int, allT, ↓aop_eqlV, apure_neq, List.map_cons, List.map_nil, List.all_cons, List.all_nil, lit2, lit1, lit0, List.isEmpty_nil, Bool.and_self, Bool.and_true, Bool.true_and, Bool.false_and, Bool.and_false, Bool.not_true, Bool.not_false, Bool.or_true, Bool.true_or, Bool.false_or, Bool.or_false, Bool.false_eq_true, if_true, if_false, List.length_map, beq_self_eq_true, und3, und4, und5, und9, rdal2, callWS, hsp, aextract, neq64, q, callpc2, hp, rdst2 s0 s1 s2, finish, ares, aresL, ares1, rdld2 s0 s1 s2]
    exact ⟨_, rfl⟩
  · have hm : mparts (szs11 2) s = (szs11 2).map fun _ => ⟨#[]⟩ := by unfold mparts; rw [if_neg he]
    rw [if_neg he] at hsp
    have q : (((splitE s (szs11 2) : Nat) : Int) != 0) = true := by
      have : ((splitE s (szs11 2) : Nat) : Int) ≠ 0 := by omega
      simpa using this
    rw [hm]
    simp only [erd2_0, erd2_1, erd2_2, erd2_3, erd2_4, erd2_5, lrd2_0, lrd2_1, lrd2_2, lrd2_3, lrd2_4, lrd2_5, agd_none, gdAt, gdV_bool, gdV_undef, Try.f43, List.append_eq, List.cons_append, List.nil_append, apure_call1, apure_call2, apure_call3, bft, btf, acodeN, List.getElem?_toArray, List.getElem?_cons_zero, List.getElem?_cons_succ, aopsN, adrawT, cls, astep, aop, afloat, ev, nth_lst, get_lst, aput, setAt_lst, upd_at, init_zero, init_succ, init_nil, Nat.reduceLT, Nat.reduceEqDiff, reduceIte, abuiltin, alen, Option.map_some, Option.map_none, orElse_some, apure_add, apure_eqlV, eqlVal_str, eqlVal_bool, eqlVal_ptr, eqlVal_slice, eqlVal_int, allT, ↓aop_eqlV, apure_neq, List.map_cons, List.map_nil, List.all_cons, List.all_nil, lit2, lit1, lit0, List.isEmpty_nil, Bool.and_self, Bool.and_true, Bool.true_and, Bool.false_and, Bool.and_false, Bool.not_true, Bool.not_false, Bool.or_true, Bool.true_or, Bool.false_or, Bool.or_false, Bool.false_eq_true, if_true, if_false, List.length_map, beq_self_eq_true, und3, und4, und5, und9, rdal2, callWS, hsp, aextract, neq64, q, rdal22, rdld22, rdst22, finish, ares, aresL, ares1, rdld32]
    exact ⟨_, rfl⟩

theorem cparse2 {n : Nat} (hn : 1000 ≤ n) : CParse 25 (szs11 2) (runQ E mem0 [] (n + 4)).1 := by
  intro m s hT hsl
  obtain ⟨m', hrd⟩ := rd2_body (n := n) (nf := n + 3) (s := s) hn hsl
  have hrd := runQ_body hrd
  have hin : ainv E (runQ E mem0 [] (n + 3)).1 43 [.string s, .func (.func 44) ⟨[]⟩ ⟨[]⟩, .slice (some ⟨1 + 1, 0, none⟩) 3 3] prB2 = some (.tuple ⟨[.agg ⟨(mparts (szs11 2) s).map Value.string⟩, .int .i64 (splitE s (szs11 2) : Nat)]⟩, prB2) := by
    unfold ainv
    rw [show ([Value.string s, .func (.func 44) ⟨[]⟩ ⟨[]⟩, .slice (some ⟨1 + 1, 0, none⟩) 3 3].all lit2) = false from rfl, show E.wr 43 = false from by kernel_rfl]
    simp only [Bool.false_eq_true, if_false, prse2, hrd]
    obtain ⟨s0, s1, s2, hss⟩ := len3 (show (mparts (szs11 2) s).length = 3 from mparts_len _ _)
    rw [hss]
    unfold acoll
    exact if_pos rfl
  have hz := prsz2 (n + 2)
  have hr : ∃ m2, abody E (runQ E mem0 [] (n + 3)).1 (n + 4) 25 [.string s] mem0 = some (.tuple ⟨[.agg ⟨(mparts (szs11 2) s).map Value.string⟩, .int .i64 (splitE s (szs11 2) : Nat)]⟩, m2) := by
    obtain ⟨s0, s1, s2, hss⟩ := len3 (show (mparts (szs11 2) s).length = 3 from mparts_len _ _)
    rw [hss] at hin ⊢
    rw [abody_eqF (by kernel_rfl) Try.func25 bodypr2 (by kernel_rfl) (Nat.le_of_ble_eq_true rfl)]
    rw [show Try.f25.ntmps = 9 from rfl]
    simp only [List.map_cons, List.map_nil] at hin
    simp only [epr2_0, epr2_1, lpr2_0, lpr2_1, agd_none, gdAt, gdV_bool, gdV_undef, Try.f25, List.append_eq, List.cons_append, List.nil_append, apure_call1, apure_call2, apure_call3, bft, btf, acodeN, List.getElem?_toArray, List.getElem?_cons_zero, List.getElem?_cons_succ, aopsN, adrawT, cls, astep, aop, afloat, ev, nth_lst, get_lst, aput, setAt_lst, upd_at, init_zero, init_succ, init_nil, Nat.reduceLT, Nat.reduceEqDiff, reduceIte, abuiltin, alen, Option.map_some, Option.map_none, orElse_some, apure_add, apure_eqlV, eqlVal_str, eqlVal_bool, eqlVal_ptr, eqlVal_slice, eqlVal_int, allT, ↓aop_eqlV, apure_neq, List.map_cons, List.map_nil, List.all_cons, List.all_nil, lit2, lit1, lit0, List.isEmpty_nil, Bool.and_self, Bool.and_true, Bool.true_and, Bool.false_and, Bool.and_false, Bool.not_true, Bool.not_false, Bool.or_true, Bool.true_or, Bool.false_or, Bool.or_false, Bool.false_eq_true, if_true, if_false, List.length_map, beq_self_eq_true, und3, und4, und5, und9, pral2, callsz2, hz, callrd2, hin, aextract, prst2 s0 s1 s2, finish, ares, aresL, ares1, prld2 s0 s1 s2]
    exact ⟨_, rfl⟩
  obtain ⟨m2, hr⟩ := hr
  rw [ainv_tabs rfl (by kernel_rfl) hT (runQ_body hr)]
  obtain ⟨s0, s1, s2, hss⟩ := len3 (show (mparts (szs11 2) s).length = 3 from mparts_len _ _)
  rw [hss]
  unfold acoll
  exact if_pos rfl

noncomputable def rrd3_0 : Array Oper := match Try.f45.body with
  | some (.seq (.region _ o _) _) => o
  | _ => #[]
noncomputable def lrd3_0 : List Oper := match Try.f45.body with
  | some (.seq (.region _ o _) _) => o.toList
  | _ => []
theorem erd3_0 : rrd3_0.toList = lrd3_0 := rfl
noncomputable def rrd3_1 : Array Oper := match Try.f45.body with
  | some (.seq _ (.seq (.region _ o _) _)) => o
  | _ => #[]
noncomputable def lrd3_1 : List Oper := match Try.f45.body with
  | some (.seq _ (.seq (.region _ o _) _)) => o.toList
  | _ => []
theorem erd3_1 : rrd3_1.toList = lrd3_1 := rfl
noncomputable def rrd3_2 : Array Oper := match Try.f45.body with
  | some (.seq _ (.seq _ (.seq (.seq (.region _ o _) _) _))) => o
  | _ => #[]
noncomputable def lrd3_2 : List Oper := match Try.f45.body with
  | some (.seq _ (.seq _ (.seq (.seq (.region _ o _) _) _))) => o.toList
  | _ => []
theorem erd3_2 : rrd3_2.toList = lrd3_2 := rfl
noncomputable def rrd3_3 : Array Oper := match Try.f45.body with
  | some (.seq _ (.seq _ (.seq (.seq _ (.cond _ (.seq (.region _ o _) _) _)) _))) => o
  | _ => #[]
noncomputable def lrd3_3 : List Oper := match Try.f45.body with
  | some (.seq _ (.seq _ (.seq (.seq _ (.cond _ (.seq (.region _ o _) _) _)) _))) => o.toList
  | _ => []
theorem erd3_3 : rrd3_3.toList = lrd3_3 := rfl
noncomputable def rrd3_4 : Array Oper := match Try.f45.body with
  | some (.seq _ (.seq _ (.seq (.seq _ (.cond _ (.seq _ (.seq (.region _ o _) _)) _)) _))) => o
  | _ => #[]
noncomputable def lrd3_4 : List Oper := match Try.f45.body with
  | some (.seq _ (.seq _ (.seq (.seq _ (.cond _ (.seq _ (.seq (.region _ o _) _)) _)) _))) => o.toList
  | _ => []
theorem erd3_4 : rrd3_4.toList = lrd3_4 := rfl
noncomputable def rrd3_5 : Array Oper := match Try.f45.body with
  | some (.seq _ (.seq _ (.seq _ (.seq (.region _ o _) _)))) => o
  | _ => #[]
noncomputable def lrd3_5 : List Oper := match Try.f45.body with
  | some (.seq _ (.seq _ (.seq _ (.seq (.region _ o _) _)))) => o.toList
  | _ => []
theorem erd3_5 : rrd3_5.toList = lrd3_5 := rfl
theorem bodyrd3 : Try.f45.body = some (.seq (.region 0 rrd3_0 false) (.seq (.region 1 rrd3_1 false) (.seq (.seq (.region 2 rrd3_2 false) (.cond (.tmp 18) (.seq (.region 3 rrd3_3 false) (.seq (.region 4 rrd3_4 false) .ret)) .skip)) (.seq (.region 5 rrd3_5 false) .ret)))) := rfl
-- ntmps 24
noncomputable def rpr3_0 : Array Oper := match Try.f26.body with
  | some (.seq (.region _ o _) _) => o
  | _ => #[]
noncomputable def lpr3_0 : List Oper := match Try.f26.body with
  | some (.seq (.region _ o _) _) => o.toList
  | _ => []
theorem epr3_0 : rpr3_0.toList = lpr3_0 := rfl
noncomputable def rpr3_1 : Array Oper := match Try.f26.body with
  | some (.seq _ (.seq (.region _ o _) _)) => o
  | _ => #[]
noncomputable def lpr3_1 : List Oper := match Try.f26.body with
  | some (.seq _ (.seq (.region _ o _) _)) => o.toList
  | _ => []
theorem epr3_1 : rpr3_1.toList = lpr3_1 := rfl
theorem bodypr3 : Try.f26.body = some (.seq (.region 0 rpr3_0 false) (.seq (.region 1 rpr3_1 false) .ret)) := rfl
-- ntmps 9


noncomputable def prA3 : Mem := mem0 ++ [.row false 50 [.string ⟨#[]⟩, .string ⟨#[]⟩, .string ⟨#[]⟩]]
noncomputable def prB3 : Mem := mem0 ++ [.row false 50 [.string ⟨#[]⟩, .string ⟨#[]⟩, .string ⟨#[]⟩], .row false 3 [.int .i64 32, .int .i64 32, .int .i64 32]]
noncomputable def rdA3 : Mem := mem0 ++ [.row true 50 [.string ⟨#[]⟩, .string ⟨#[]⟩, .string ⟨#[]⟩], .row true 3 [.int .i64 32, .int .i64 32, .int .i64 32]]
noncomputable def rdB3 : Mem := mem0 ++ [.row true 50 [.string ⟨#[]⟩, .string ⟨#[]⟩, .string ⟨#[]⟩], .row true 3 [.int .i64 32, .int .i64 32, .int .i64 32], .row false 50 [.string ⟨#[]⟩, .string ⟨#[]⟩, .string ⟨#[]⟩]]
noncomputable def rdE3 : Mem := mem0 ++ [.row true 50 [.string ⟨#[]⟩, .string ⟨#[]⟩, .string ⟨#[]⟩], .row true 3 [.int .i64 32, .int .i64 32, .int .i64 32], .row false 50 [.string ⟨#[]⟩, .string ⟨#[]⟩, .string ⟨#[]⟩], .row false 50 [.string ⟨#[]⟩, .string ⟨#[]⟩, .string ⟨#[]⟩]]
section
variable (s0 s1 s2 : ByteArray)
noncomputable def prC3 : Mem := mem0 ++ [.row false 50 [.string s0, .string s1, .string s2], .row false 3 [.int .i64 32, .int .i64 32, .int .i64 32]]
noncomputable def rdC3 : Mem := mem0 ++ [.row true 50 [.string ⟨#[]⟩, .string ⟨#[]⟩, .string ⟨#[]⟩], .row true 3 [.int .i64 32, .int .i64 32, .int .i64 32], .row false 50 [.string ⟨#[]⟩, .string ⟨#[]⟩, .string ⟨#[]⟩], .row false 9 [.string s0, .string s1, .string s2]]
noncomputable def rdD3 : Mem := mem0 ++ [.row true 50 [.string ⟨#[]⟩, .string ⟨#[]⟩, .string ⟨#[]⟩], .row true 3 [.int .i64 32, .int .i64 32, .int .i64 32], .row false 50 [.string s0, .string s1, .string s2], .row false 9 [.string s0, .string s1, .string s2]]
theorem rdpick3 (n : Nat) : ainv E (runQ E mem0 [] (n + 1)).1 46 [.slice (some ⟨1 + 3, 0, none⟩) 3 3] (rdC3 s0 s1 s2) = some (.agg ⟨[.string s0, .string s1, .string s2]⟩, rdC3 s0 s1 s2) := by kernel_rfl
theorem rdst3 : astore E.P 50 (.pointer (some ⟨1 + 2, 0, none⟩)) (.agg ⟨[.string s0, .string s1, .string s2]⟩) (rdC3 s0 s1 s2) = some (rdD3 s0 s1 s2) := by kernel_rfl
theorem rdld3 : aload E.P 50 (.pointer (some ⟨1 + 2, 0, none⟩)) (rdD3 s0 s1 s2) = some (.agg ⟨[.string s0, .string s1, .string s2]⟩) := by kernel_rfl
theorem prst3 : astore E.P 50 (.pointer (some ⟨1 + 0, 0, none⟩)) (.agg ⟨[.string s0, .string s1, .string s2]⟩) prB3 = some (prC3 s0 s1 s2) := by kernel_rfl
theorem prld3 : aload E.P 50 (.pointer (some ⟨1 + 0, 0, none⟩)) (prC3 s0 s1 s2) = some (.agg ⟨[.string s0, .string s1, .string s2]⟩) := by kernel_rfl
end
theorem rdal3 : aalloc E.P 50 rdA3 = some (.pointer (some ⟨1 + 2, 0, none⟩), rdB3) := by kernel_rfl
theorem rdal23 : aalloc E.P 50 rdB3 = some (.pointer (some ⟨1 + 3, 0, none⟩), rdE3) := by kernel_rfl
theorem rdld23 : aload E.P 50 (.pointer (some ⟨1 + 3, 0, none⟩)) rdE3 = some (.agg ⟨[.string ⟨#[]⟩, .string ⟨#[]⟩, .string ⟨#[]⟩]⟩) := by kernel_rfl
theorem rdst23 : astore E.P 50 (.pointer (some ⟨1 + 2, 0, none⟩)) (.agg ⟨[.string ⟨#[]⟩, .string ⟨#[]⟩, .string ⟨#[]⟩]⟩) rdE3 = some rdE3 := by kernel_rfl
theorem rdld33 : aload E.P 50 (.pointer (some ⟨1 + 2, 0, none⟩)) rdE3 = some (.agg ⟨[.string ⟨#[]⟩, .string ⟨#[]⟩, .string ⟨#[]⟩]⟩) := by kernel_rfl
theorem pral3 : aalloc E.P 50 mem0 = some (.pointer (some ⟨1 + 0, 0, none⟩), prA3) := by kernel_rfl
theorem prsz3 (n : Nat) : ainv E (runQ E mem0 [] (n + 1)).1 33 [] prA3 = some (.slice (some ⟨1 + 1, 0, none⟩) 3 3, prB3) := by kernel_rfl
theorem prse3 : prB3.map sealed = rdA3 := by kernel_rfl
theorem callrd3 : callableB E.P 45 = true := by kernel_rfl
theorem callpc3 : callableB E.P 46 = true := by kernel_rfl
theorem callsz3 : callableB E.P 33 = true := by kernel_rfl
theorem rdrs3 : RS rdB3 (.slice (some ⟨1 + 1, 0, none⟩) 3 3) ((szs11 3).map (Value.int .i64)) := RS.row (c := 3) (ro := true) (e := 3) (cs := (szs11 3).map (Value.int .i64)) (by kernel_rfl)

theorem rd3_body {n nf : Nat} {s : ByteArray} (hn : 1000 ≤ n) (hsl : s.data.toList.length ≤ 1000) :
    ∃ m', abody E (runQ E mem0 [] (n + 2)).1 nf 45 [.string s, .func (.func 46) ⟨[]⟩ ⟨[]⟩, .slice (some ⟨1 + 1, 0, none⟩) 3 3] rdA3 = some (.tuple ⟨[.agg ⟨(mparts (szs11 3) s).map Value.string⟩, .int .i64 (splitE s (szs11 3) : Nat)]⟩, m') := by
  have hsp := csplit_ex (n := n) hn (s := s) (b := 1 + 1) (o := 0) (c := 3) (szs := szs11 3) rdrs3 (by decide) hsl
  rw [show (szs11 3).length = 3 from rfl] at hsp
  rw [abody_eqF (by kernel_rfl) Try.func45 bodyrd3 (by kernel_rfl) (Nat.le_of_ble_eq_true rfl)]
  rw [show Try.f45.ntmps = 24 from rfl]
  by_cases he : splitE s (szs11 3) = 0
  · have hl : (splitL s (szs11 3)).length = 3 := by unfold splitL; rw [if_pos he, List.length_map, List.length_range]; rfl
    have hm : mparts (szs11 3) s = splitL s (szs11 3) := by unfold mparts; rw [if_pos he]
    obtain ⟨s0, s1, s2, hss⟩ := len3 hl
    rw [if_pos he, hss] at hsp
    have hsp : ainv E (runQ E mem0 [] (n + 2)).1 7 [.string s, .slice (some ⟨1 + 1, 0, none⟩) 3 3] rdB3 = some (.tuple ⟨[.slice (some ⟨1 + 3, 0, none⟩) 3 3, .int .i64 0]⟩, rdC3 s0 s1 s2) := hsp
    have hp := rdpick3 s0 s1 s2 (n + 1)
    have q : ((0 : Int) != 0) = false := rfl
    rw [hm, hss, he]
    simp only [erd3_0, erd3_1, erd3_2, erd3_3, erd3_4, erd3_5, lrd3_0, lrd3_1, lrd3_2, lrd3_3, lrd3_4, lrd3_5, agd_none, gdAt, gdV_bool, gdV_undef, Try.f45, List.append_eq, List.cons_append, List.nil_append, apure_call1, apure_call2, apure_call3, bft, btf, acodeN, List.getElem?_toArray, List.getElem?_cons_zero, List.getElem?_cons_succ, aopsN, adrawT, cls, astep, aop, afloat, ev, nth_lst, get_lst, aput, setAt_lst, upd_at, init_zero, init_succ, init_nil, Nat.reduceLT, Nat.reduceEqDiff, reduceIte, abuiltin, alen, Option.map_some, Option.map_none, orElse_some, apure_add, apure_eqlV, eqlVal_str, eqlVal_bool, eqlVal_ptr, eqlVal_slice, eqlVal_int, allT, ↓aop_eqlV, apure_neq, List.map_cons, List.map_nil, List.all_cons, List.all_nil, lit2, lit1, lit0, List.isEmpty_nil, Bool.and_self, Bool.and_true, Bool.true_and, Bool.false_and, Bool.and_false, Bool.not_true, Bool.not_false, Bool.or_true, Bool.true_or, Bool.false_or, Bool.or_false, Bool.false_eq_true, if_true, if_false, List.length_map, beq_self_eq_true, und3, und4, und5, und9, rdal3, callWS, hsp, aextract, neq64, q, callpc3, hp, rdst3 s0 s1 s2, finish, ares, aresL, ares1, rdld3 s0 s1 s2]
    exact ⟨_, rfl⟩
  · have hm : mparts (szs11 3) s = (szs11 3).map fun _ => ⟨#[]⟩ := by unfold mparts; rw [if_neg he]
    rw [if_neg he] at hsp
    have q : (((splitE s (szs11 3) : Nat) : Int) != 0) = true := by
      have : ((splitE s (szs11 3) : Nat) : Int) ≠ 0 := by omega
      simpa using this
    rw [hm]
    simp only [erd3_0, erd3_1, erd3_2, erd3_3, erd3_4, erd3_5, lrd3_0, lrd3_1, lrd3_2, lrd3_3, lrd3_4, lrd3_5, agd_none, gdAt, gdV_bool, gdV_undef, Try.f45, List.append_eq, List.cons_append, List.nil_append, apure_call1, apure_call2, apure_call3, bft, btf, acodeN, List.getElem?_toArray, List.getElem?_cons_zero, List.getElem?_cons_succ, aopsN, adrawT, cls, astep, aop, afloat, ev, nth_lst, get_lst, aput, setAt_lst, upd_at, init_zero, init_succ, init_nil, Nat.reduceLT, Nat.reduceEqDiff, reduceIte, abuiltin, alen, Option.map_some, Option.map_none, orElse_some, apure_add, apure_eqlV, eqlVal_str, eqlVal_bool, eqlVal_ptr, eqlVal_slice, eqlVal_int, allT, ↓aop_eqlV, apure_neq, List.map_cons, List.map_nil, List.all_cons, List.all_nil, lit2, lit1, lit0, List.isEmpty_nil, Bool.and_self, Bool.and_true, Bool.true_and, Bool.false_and, Bool.and_false, Bool.not_true, Bool.not_false, Bool.or_true, Bool.true_or, Bool.false_or, Bool.or_false, Bool.false_eq_true, if_true, if_false, List.length_map, beq_self_eq_true, und3, und4, und5, und9, rdal3, callWS, hsp, aextract, neq64, q, rdal23, rdld23, rdst23, finish, ares, aresL, ares1, rdld33]
    exact ⟨_, rfl⟩

theorem cparse3 {n : Nat} (hn : 1000 ≤ n) : CParse 26 (szs11 3) (runQ E mem0 [] (n + 4)).1 := by
  intro m s hT hsl
  obtain ⟨m', hrd⟩ := rd3_body (n := n) (nf := n + 3) (s := s) hn hsl
  have hrd := runQ_body hrd
  have hin : ainv E (runQ E mem0 [] (n + 3)).1 45 [.string s, .func (.func 46) ⟨[]⟩ ⟨[]⟩, .slice (some ⟨1 + 1, 0, none⟩) 3 3] prB3 = some (.tuple ⟨[.agg ⟨(mparts (szs11 3) s).map Value.string⟩, .int .i64 (splitE s (szs11 3) : Nat)]⟩, prB3) := by
    unfold ainv
    rw [show ([Value.string s, .func (.func 46) ⟨[]⟩ ⟨[]⟩, .slice (some ⟨1 + 1, 0, none⟩) 3 3].all lit2) = false from rfl, show E.wr 45 = false from by kernel_rfl]
    simp only [Bool.false_eq_true, if_false, prse3, hrd]
    obtain ⟨s0, s1, s2, hss⟩ := len3 (show (mparts (szs11 3) s).length = 3 from mparts_len _ _)
    rw [hss]
    unfold acoll
    exact if_pos rfl
  have hz := prsz3 (n + 2)
  have hr : ∃ m2, abody E (runQ E mem0 [] (n + 3)).1 (n + 4) 26 [.string s] mem0 = some (.tuple ⟨[.agg ⟨(mparts (szs11 3) s).map Value.string⟩, .int .i64 (splitE s (szs11 3) : Nat)]⟩, m2) := by
    obtain ⟨s0, s1, s2, hss⟩ := len3 (show (mparts (szs11 3) s).length = 3 from mparts_len _ _)
    rw [hss] at hin ⊢
    rw [abody_eqF (by kernel_rfl) Try.func26 bodypr3 (by kernel_rfl) (Nat.le_of_ble_eq_true rfl)]
    rw [show Try.f26.ntmps = 9 from rfl]
    simp only [List.map_cons, List.map_nil] at hin
    simp only [epr3_0, epr3_1, lpr3_0, lpr3_1, agd_none, gdAt, gdV_bool, gdV_undef, Try.f26, List.append_eq, List.cons_append, List.nil_append, apure_call1, apure_call2, apure_call3, bft, btf, acodeN, List.getElem?_toArray, List.getElem?_cons_zero, List.getElem?_cons_succ, aopsN, adrawT, cls, astep, aop, afloat, ev, nth_lst, get_lst, aput, setAt_lst, upd_at, init_zero, init_succ, init_nil, Nat.reduceLT, Nat.reduceEqDiff, reduceIte, abuiltin, alen, Option.map_some, Option.map_none, orElse_some, apure_add, apure_eqlV, eqlVal_str, eqlVal_bool, eqlVal_ptr, eqlVal_slice, eqlVal_int, allT, ↓aop_eqlV, apure_neq, List.map_cons, List.map_nil, List.all_cons, List.all_nil, lit2, lit1, lit0, List.isEmpty_nil, Bool.and_self, Bool.and_true, Bool.true_and, Bool.false_and, Bool.and_false, Bool.not_true, Bool.not_false, Bool.or_true, Bool.true_or, Bool.false_or, Bool.or_false, Bool.false_eq_true, if_true, if_false, List.length_map, beq_self_eq_true, und3, und4, und5, und9, pral3, callsz3, hz, callrd3, hin, aextract, prst3 s0 s1 s2, finish, ares, aresL, ares1, prld3 s0 s1 s2]
    exact ⟨_, rfl⟩
  obtain ⟨m2, hr⟩ := hr
  rw [ainv_tabs rfl (by kernel_rfl) hT (runQ_body hr)]
  obtain ⟨s0, s1, s2, hss⟩ := len3 (show (mparts (szs11 3) s).length = 3 from mparts_len _ _)
  rw [hss]
  unfold acoll
  exact if_pos rfl

noncomputable def rrd4_0 : Array Oper := match Try.f47.body with
  | some (.seq (.region _ o _) _) => o
  | _ => #[]
noncomputable def lrd4_0 : List Oper := match Try.f47.body with
  | some (.seq (.region _ o _) _) => o.toList
  | _ => []
theorem erd4_0 : rrd4_0.toList = lrd4_0 := rfl
noncomputable def rrd4_1 : Array Oper := match Try.f47.body with
  | some (.seq _ (.seq (.region _ o _) _)) => o
  | _ => #[]
noncomputable def lrd4_1 : List Oper := match Try.f47.body with
  | some (.seq _ (.seq (.region _ o _) _)) => o.toList
  | _ => []
theorem erd4_1 : rrd4_1.toList = lrd4_1 := rfl
noncomputable def rrd4_2 : Array Oper := match Try.f47.body with
  | some (.seq _ (.seq _ (.seq (.seq (.region _ o _) _) _))) => o
  | _ => #[]
noncomputable def lrd4_2 : List Oper := match Try.f47.body with
  | some (.seq _ (.seq _ (.seq (.seq (.region _ o _) _) _))) => o.toList
  | _ => []
theorem erd4_2 : rrd4_2.toList = lrd4_2 := rfl
noncomputable def rrd4_3 : Array Oper := match Try.f47.body with
  | some (.seq _ (.seq _ (.seq (.seq _ (.cond _ (.seq (.region _ o _) _) _)) _))) => o
  | _ => #[]
noncomputable def lrd4_3 : List Oper := match Try.f47.body with
  | some (.seq _ (.seq _ (.seq (.seq _ (.cond _ (.seq (.region _ o _) _) _)) _))) => o.toList
  | _ => []
theorem erd4_3 : rrd4_3.toList = lrd4_3 := rfl
noncomputable def rrd4_4 : Array Oper := match Try.f47.body with
  | some (.seq _ (.seq _ (.seq (.seq _ (.cond _ (.seq _ (.seq (.region _ o _) _)) _)) _))) => o
  | _ => #[]
noncomputable def lrd4_4 : List Oper := match Try.f47.body with
  | some (.seq _ (.seq _ (.seq (.seq _ (.cond _ (.seq _ (.seq (.region _ o _) _)) _)) _))) => o.toList
  | _ => []
theorem erd4_4 : rrd4_4.toList = lrd4_4 := rfl
noncomputable def rrd4_5 : Array Oper := match Try.f47.body with
  | some (.seq _ (.seq _ (.seq _ (.seq (.region _ o _) _)))) => o
  | _ => #[]
noncomputable def lrd4_5 : List Oper := match Try.f47.body with
  | some (.seq _ (.seq _ (.seq _ (.seq (.region _ o _) _)))) => o.toList
  | _ => []
theorem erd4_5 : rrd4_5.toList = lrd4_5 := rfl
theorem bodyrd4 : Try.f47.body = some (.seq (.region 0 rrd4_0 false) (.seq (.region 1 rrd4_1 false) (.seq (.seq (.region 2 rrd4_2 false) (.cond (.tmp 18) (.seq (.region 3 rrd4_3 false) (.seq (.region 4 rrd4_4 false) .ret)) .skip)) (.seq (.region 5 rrd4_5 false) .ret)))) := rfl
-- ntmps 24
noncomputable def rpr4_0 : Array Oper := match Try.f27.body with
  | some (.seq (.region _ o _) _) => o
  | _ => #[]
noncomputable def lpr4_0 : List Oper := match Try.f27.body with
  | some (.seq (.region _ o _) _) => o.toList
  | _ => []
theorem epr4_0 : rpr4_0.toList = lpr4_0 := rfl
noncomputable def rpr4_1 : Array Oper := match Try.f27.body with
  | some (.seq _ (.seq (.region _ o _) _)) => o
  | _ => #[]
noncomputable def lpr4_1 : List Oper := match Try.f27.body with
  | some (.seq _ (.seq (.region _ o _) _)) => o.toList
  | _ => []
theorem epr4_1 : rpr4_1.toList = lpr4_1 := rfl
theorem bodypr4 : Try.f27.body = some (.seq (.region 0 rpr4_0 false) (.seq (.region 1 rpr4_1 false) .ret)) := rfl
-- ntmps 9


noncomputable def prA4 : Mem := mem0 ++ [.row false 42 [.string ⟨#[]⟩, .string ⟨#[]⟩, .string ⟨#[]⟩, .string ⟨#[]⟩, .string ⟨#[]⟩, .string ⟨#[]⟩]]
noncomputable def prB4 : Mem := mem0 ++ [.row false 42 [.string ⟨#[]⟩, .string ⟨#[]⟩, .string ⟨#[]⟩, .string ⟨#[]⟩, .string ⟨#[]⟩, .string ⟨#[]⟩], .row false 3 [.int .i64 32, .int .i64 32, .int .i64 128, .int .i64 32, .int .i64 32, .int .i64 64]]
noncomputable def rdA4 : Mem := mem0 ++ [.row true 42 [.string ⟨#[]⟩, .string ⟨#[]⟩, .string ⟨#[]⟩, .string ⟨#[]⟩, .string ⟨#[]⟩, .string ⟨#[]⟩], .row true 3 [.int .i64 32, .int .i64 32, .int .i64 128, .int .i64 32, .int .i64 32, .int .i64 64]]
noncomputable def rdB4 : Mem := mem0 ++ [.row true 42 [.string ⟨#[]⟩, .string ⟨#[]⟩, .string ⟨#[]⟩, .string ⟨#[]⟩, .string ⟨#[]⟩, .string ⟨#[]⟩], .row true 3 [.int .i64 32, .int .i64 32, .int .i64 128, .int .i64 32, .int .i64 32, .int .i64 64], .row false 42 [.string ⟨#[]⟩, .string ⟨#[]⟩, .string ⟨#[]⟩, .string ⟨#[]⟩, .string ⟨#[]⟩, .string ⟨#[]⟩]]
noncomputable def rdE4 : Mem := mem0 ++ [.row true 42 [.string ⟨#[]⟩, .string ⟨#[]⟩, .string ⟨#[]⟩, .string ⟨#[]⟩, .string ⟨#[]⟩, .string ⟨#[]⟩], .row true 3 [.int .i64 32, .int .i64 32, .int .i64 128, .int .i64 32, .int .i64 32, .int .i64 64], .row false 42 [.string ⟨#[]⟩, .string ⟨#[]⟩, .string ⟨#[]⟩, .string ⟨#[]⟩, .string ⟨#[]⟩, .string ⟨#[]⟩], .row false 42 [.string ⟨#[]⟩, .string ⟨#[]⟩, .string ⟨#[]⟩, .string ⟨#[]⟩, .string ⟨#[]⟩, .string ⟨#[]⟩]]
section
variable (s0 s1 s2 s3 s4 s5 : ByteArray)
noncomputable def prC4 : Mem := mem0 ++ [.row false 42 [.string s0, .string s1, .string s2, .string s3, .string s4, .string s5], .row false 3 [.int .i64 32, .int .i64 32, .int .i64 128, .int .i64 32, .int .i64 32, .int .i64 64]]
noncomputable def rdC4 : Mem := mem0 ++ [.row true 42 [.string ⟨#[]⟩, .string ⟨#[]⟩, .string ⟨#[]⟩, .string ⟨#[]⟩, .string ⟨#[]⟩, .string ⟨#[]⟩], .row true 3 [.int .i64 32, .int .i64 32, .int .i64 128, .int .i64 32, .int .i64 32, .int .i64 64], .row false 42 [.string ⟨#[]⟩, .string ⟨#[]⟩, .string ⟨#[]⟩, .string ⟨#[]⟩, .string ⟨#[]⟩, .string ⟨#[]⟩], .row false 9 [.string s0, .string s1, .string s2, .string s3, .string s4, .string s5]]
noncomputable def rdD4 : Mem := mem0 ++ [.row true 42 [.string ⟨#[]⟩, .string ⟨#[]⟩, .string ⟨#[]⟩, .string ⟨#[]⟩, .string ⟨#[]⟩, .string ⟨#[]⟩], .row true 3 [.int .i64 32, .int .i64 32, .int .i64 128, .int .i64 32, .int .i64 32, .int .i64 64], .row false 42 [.string s0, .string s1, .string s2, .string s3, .string s4, .string s5], .row false 9 [.string s0, .string s1, .string s2, .string s3, .string s4, .string s5]]
theorem rdpick4 (n : Nat) : ainv E (runQ E mem0 [] (n + 1)).1 48 [.slice (some ⟨1 + 3, 0, none⟩) 6 6] (rdC4 s0 s1 s2 s3 s4 s5) = some (.agg ⟨[.string s0, .string s1, .string s2, .string s3, .string s4, .string s5]⟩, rdC4 s0 s1 s2 s3 s4 s5) := by kernel_rfl
theorem rdst4 : astore E.P 42 (.pointer (some ⟨1 + 2, 0, none⟩)) (.agg ⟨[.string s0, .string s1, .string s2, .string s3, .string s4, .string s5]⟩) (rdC4 s0 s1 s2 s3 s4 s5) = some (rdD4 s0 s1 s2 s3 s4 s5) := by kernel_rfl
theorem rdld4 : aload E.P 42 (.pointer (some ⟨1 + 2, 0, none⟩)) (rdD4 s0 s1 s2 s3 s4 s5) = some (.agg ⟨[.string s0, .string s1, .string s2, .string s3, .string s4, .string s5]⟩) := by kernel_rfl
theorem prst4 : astore E.P 42 (.pointer (some ⟨1 + 0, 0, none⟩)) (.agg ⟨[.string s0, .string s1, .string s2, .string s3, .string s4, .string s5]⟩) prB4 = some (prC4 s0 s1 s2 s3 s4 s5) := by kernel_rfl
theorem prld4 : aload E.P 42 (.pointer (some ⟨1 + 0, 0, none⟩)) (prC4 s0 s1 s2 s3 s4 s5) = some (.agg ⟨[.string s0, .string s1, .string s2, .string s3, .string s4, .string s5]⟩) := by kernel_rfl
end
theorem rdal4 : aalloc E.P 42 rdA4 = some (.pointer (some ⟨1 + 2, 0, none⟩), rdB4) := by kernel_rfl
theorem rdal24 : aalloc E.P 42 rdB4 = some (.pointer (some ⟨1 + 3, 0, none⟩), rdE4) := by kernel_rfl
theorem rdld24 : aload E.P 42 (.pointer (some ⟨1 + 3, 0, none⟩)) rdE4 = some (.agg ⟨[.string ⟨#[]⟩, .string ⟨#[]⟩, .string ⟨#[]⟩, .string ⟨#[]⟩, .string ⟨#[]⟩, .string ⟨#[]⟩]⟩) := by kernel_rfl
theorem rdst24 : astore E.P 42 (.pointer (some ⟨1 + 2, 0, none⟩)) (.agg ⟨[.string ⟨#[]⟩, .string ⟨#[]⟩, .string ⟨#[]⟩, .string ⟨#[]⟩, .string ⟨#[]⟩, .string ⟨#[]⟩]⟩) rdE4 = some rdE4 := by kernel_rfl
theorem rdld34 : aload E.P 42 (.pointer (some ⟨1 + 2, 0, none⟩)) rdE4 = some (.agg ⟨[.string ⟨#[]⟩, .string ⟨#[]⟩, .string ⟨#[]⟩, .string ⟨#[]⟩, .string ⟨#[]⟩, .string ⟨#[]⟩]⟩) := by kernel_rfl
theorem pral4 : aalloc E.P 42 mem0 = some (.pointer (some ⟨1 + 0, 0, none⟩), prA4) := by kernel_rfl
theorem prsz4 (n : Nat) : ainv E (runQ E mem0 [] (n + 1)).1 31 [] prA4 = some (.slice (some ⟨1 + 1, 0, none⟩) 6 6, prB4) := by kernel_rfl
theorem prse4 : prB4.map sealed = rdA4 := by kernel_rfl
theorem callrd4 : callableB E.P 47 = true := by kernel_rfl
theorem callpc4 : callableB E.P 48 = true := by kernel_rfl
theorem callsz4 : callableB E.P 31 = true := by kernel_rfl
theorem rdrs4 : RS rdB4 (.slice (some ⟨1 + 1, 0, none⟩) 6 6) ((szs11 4).map (Value.int .i64)) := RS.row (c := 6) (ro := true) (e := 3) (cs := (szs11 4).map (Value.int .i64)) (by kernel_rfl)

theorem rd4_body {n nf : Nat} {s : ByteArray} (hn : 1000 ≤ n) (hsl : s.data.toList.length ≤ 1000) :
    ∃ m', abody E (runQ E mem0 [] (n + 2)).1 nf 47 [.string s, .func (.func 48) ⟨[]⟩ ⟨[]⟩, .slice (some ⟨1 + 1, 0, none⟩) 6 6] rdA4 = some (.tuple ⟨[.agg ⟨(mparts (szs11 4) s).map Value.string⟩, .int .i64 (splitE s (szs11 4) : Nat)]⟩, m') := by
  have hsp := csplit_ex (n := n) hn (s := s) (b := 1 + 1) (o := 0) (c := 6) (szs := szs11 4) rdrs4 (by decide) hsl
  rw [show (szs11 4).length = 6 from rfl] at hsp
  rw [abody_eqF (by kernel_rfl) Try.func47 bodyrd4 (by kernel_rfl) (Nat.le_of_ble_eq_true rfl)]
  rw [show Try.f47.ntmps = 24 from rfl]
  by_cases he : splitE s (szs11 4) = 0
  · have hl : (splitL s (szs11 4)).length = 6 := by unfold splitL; rw [if_pos he, List.length_map, List.length_range]; rfl
    have hm : mparts (szs11 4) s = splitL s (szs11 4) := by unfold mparts; rw [if_pos he]
    obtain ⟨s0, s1, s2, s3, s4, s5, hss⟩ := len6 hl
    rw [if_pos he, hss] at hsp
    have hsp : ainv E (runQ E mem0 [] (n + 2)).1 7 [.string s, .slice (some ⟨1 + 1, 0, none⟩) 6 6] rdB4 = some (.tuple ⟨[.slice (some ⟨1 + 3, 0, none⟩) 6 6, .int .i64 0]⟩, rdC4 s0 s1 s2 s3 s4 s5) := hsp
    have hp := rdpick4 s0 s1 s2 s3 s4 s5 (n + 1)
    have q : ((0 : Int) != 0) = false := rfl
    rw [hm, hss, he]
    simp only [erd4_0, erd4_1, erd4_2, erd4_3, erd4_4, erd4_5, lrd4_0, lrd4_1, lrd4_2, lrd4_3, lrd4_4, lrd4_5, agd_none, gdAt, gdV_bool, gdV_undef, Try.f47, List.append_eq, List.cons_append, List.nil_append, apure_call1, apure_call2, apure_call3, bft, btf, acodeN, List.getElem?_toArray, List.getElem?_cons_zero, List.getElem?_cons_succ, aopsN, adrawT, cls, astep, aop, afloat, ev, nth_lst, get_lst, aput, setAt_lst, upd_at, init_zero, init_succ, init_nil, Nat.reduceLT, Nat.reduceEqDiff, reduceIte, abuiltin, alen, Option.map_some, Option.map_none, orElse_some, apure_add, apure_eqlV, eqlVal_str, eqlVal_bool, eqlVal_ptr, eqlVal_slice, eqlVal_int, allT, ↓aop_eqlV, apure_neq, List.map_cons, List.map_nil, List.all_cons, List.all_nil, lit2, lit1, lit0, List.isEmpty_nil, Bool.and_self, Bool.and_true, Bool.true_and, Bool.false_and, Bool.and_false, Bool.not_true, Bool.not_false, Bool.or_true, Bool.true_or, Bool.false_or, Bool.or_false, Bool.false_eq_true, if_true, if_false, List.length_map, beq_self_eq_true, und3, und4, und5, und9, rdal4, callWS, hsp, aextract, neq64, q, callpc4, hp, rdst4 s0 s1 s2 s3 s4 s5, finish, ares, aresL, ares1, rdld4 s0 s1 s2 s3 s4 s5]
    exact ⟨_, rfl⟩
  · have hm : mparts (szs11 4) s = (szs11 4).map fun _ => ⟨#[]⟩ := by unfold mparts; rw [if_neg he]
    rw [if_neg he] at hsp
    have q : (((splitE s (szs11 4) : Nat) : Int) != 0) = true := by
      have : ((splitE s (szs11 4) : Nat) : Int) ≠ 0 := by omega
      simpa using this
    rw [hm]
    simp only [erd4_0, erd4_1, erd4_2, erd4_3, erd4_4, erd4_5, lrd4_0, lrd4_1, lrd4_2, lrd4_3, lrd4_4, lrd4_5, agd_none, gdAt, gdV_bool, gdV_undef, Try.f47, List.append_eq, List.cons_append, List.nil_append, apure_call1, apure_call2, apure_call3, bft, btf, acodeN, List.getElem?_toArray, List.getElem?_cons_zero, List.getElem?_cons_succ, aopsN, adrawT, cls, astep, aop, afloat, ev, nth_lst, get_lst, aput, setAt_lst, upd_at, init_zero, init_succ, init_nil, Nat.reduceLT, Nat.reduceEqDiff, reduceIte, abuiltin, alen, Option.map_some, Option.map_none, orElse_some, apure_add, apure_eqlV, eqlVal_str, eqlVal_bool, eqlVal_ptr, eqlVal_slice, eqlVal_int, allT, ↓aop_eqlV, apure_neq, List.map_cons, List.map_nil, List.all_cons, List.all_nil, lit2, lit1, lit0, List.isEmpty_nil, Bool.and_self, Bool.and_true, Bool.true_and, Bool.false_and, Bool.and_false, Bool.not_true, Bool.not_false, Bool.or_true, Bool.true_or, Bool.false_or, Bool.or_false, Bool.false_eq_true, if_true, if_false, List.length_map, beq_self_eq_true, und3, und4, und5, und9, rdal4, callWS, hsp, aextract, neq64, q, rdal24, rdld24, rdst24, finish, ares, aresL, ares1, rdld34]
    exact ⟨_, rfl⟩

theorem cparse4 {n : Nat} (hn : 1000 ≤ n) : CParse 27 (szs11 4) (runQ E mem0 [] (n + 4)).1 := by
  intro m s hT hsl
  obtain ⟨m', hrd⟩ := rd4_body (n := n) (nf := n + 3) (s := s) hn hsl
  have hrd := runQ_body hrd
  have hin : ainv E (runQ E mem0 [] (n + 3)).1 47 [.string s, .func (.func 48) ⟨[]⟩ ⟨[]⟩, .slice (some ⟨1 + 1, 0, none⟩) 6 6] prB4 = some (.tuple ⟨[.agg ⟨(mparts (szs11 4) s).map Value.string⟩, .int .i64 (splitE s (szs11 4) : Nat)]⟩, prB4) := by
    unfold ainv
    rw [show ([Value.string s, .func (.func 48) ⟨[]⟩ ⟨[]⟩, .slice (some ⟨1 + 1, 0, none⟩) 6 6].all lit2) = false from rfl, show E.wr 47 = false from by kernel_rfl]
    simp only [Bool.false_eq_true, if_false, prse4, hrd]
    obtain ⟨s0, s1, s2, s3, s4, s5, hss⟩ := len6 (show (mparts (szs11 4) s).length = 6 from mparts_len _ _)
    rw [hss]
    unfold acoll
    exact if_pos rfl
  have hz := prsz4 (n + 2)
  have hr : ∃ m2, abody E (runQ E mem0 [] (n + 3)).1 (n + 4) 27 [.string s] mem0 = some (.tuple ⟨[.agg ⟨(mparts (szs11 4) s).map Value.string⟩, .int .i64 (splitE s (szs11 4) : Nat)]⟩, m2) := by
    obtain ⟨s0, s1, s2, s3, s4, s5, hss⟩ := len6 (show (mparts (szs11 4) s).length = 6 from mparts_len _ _)
    rw [hss] at hin ⊢
    rw [abody_eqF (by kernel_rfl) Try.func27 bodypr4 (by kernel_rfl) (Nat.le_of_ble_eq_true rfl)]
    rw [show Try.f27.ntmps = 9 from rfl]
    simp only [List.map_cons, List.map_nil] at hin
    simp only [epr4_0, epr4_1, lpr4_0, lpr4_1, agd_none, gdAt, gdV_bool, gdV_undef, Try.f27, List.append_eq, List.cons_append, List.nil_append, apure_call1, apure_call2, apure_call3, bft, btf, acodeN, List.getElem?_toArray, List.getElem?_cons_zero, List.getElem?_cons_succ, aopsN, adrawT, cls, astep, aop, afloat, ev, nth_lst, get_lst, aput, setAt_lst, upd_at, init_zero, init_succ, init_nil, Nat.reduceLT, Nat.reduceEqDiff, reduceIte, abuiltin, alen, Option.map_some, Option.map_none, orElse_some, apure_add, apure_eqlV, eqlVal_str, eqlVal_bool, eqlVal_ptr, eqlVal_slice, eqlVal_int, allT, ↓aop_eqlV, apure_neq, List.map_cons, List.map_nil, List.all_cons, List.all_nil, lit2, lit1, lit0, List.isEmpty_nil, Bool.and_self, Bool.and_true, Bool.true_and, Bool.false_and, Bool.and_false, Bool.not_true, Bool.not_false, Bool.or_true, Bool.true_or, Bool.false_or, Bool.or_false, Bool.false_eq_true, if_true, if_false, List.length_map, beq_self_eq_true, und3, und4, und5, und9, pral4, callsz4, hz, callrd4, hin, aextract, prst4 s0 s1 s2 s3 s4 s5, finish, ares, aresL, ares1, prld4 s0 s1 s2 s3 s4 s5]
    exact ⟨_, rfl⟩
  obtain ⟨m2, hr⟩ := hr
  rw [ainv_tabs rfl (by kernel_rfl) hT (runQ_body hr)]
  obtain ⟨s0, s1, s2, s3, s4, s5, hss⟩ := len6 (show (mparts (szs11 4) s).length = 6 from mparts_len _ _)
  rw [hss]
  unfold acoll
  exact if_pos rfl

noncomputable def rrd5_0 : Array Oper := match Try.f49.body with
  | some (.seq (.region _ o _) _) => o
  | _ => #[]
noncomputable def lrd5_0 : List Oper := match Try.f49.body with
  | some (.seq (.region _ o _) _) => o.toList
  | _ => []
theorem erd5_0 : rrd5_0.toList = lrd5_0 := rfl
noncomputable def rrd5_1 : Array Oper := match Try.f49.body with
  | some (.seq _ (.seq (.region _ o _) _)) => o
  | _ => #[]
noncomputable def lrd5_1 : List Oper := match Try.f49.body with
  | some (.seq _ (.seq (.region _ o _) _)) => o.toList
  | _ => []
theorem erd5_1 : rrd5_1.toList = lrd5_1 := rfl
noncomputable def rrd5_2 : Array Oper := match Try.f49.body with
  | some (.seq _ (.seq _ (.seq (.seq (.region _ o _) _) _))) => o
  | _ => #[]
noncomputable def lrd5_2 : List Oper := match Try.f49.body with
  | some (.seq _ (.seq _ (.seq (.seq (.region _ o _) _) _))) => o.toList
  | _ => []
theorem erd5_2 : rrd5_2.toList = lrd5_2 := rfl
noncomputable def rrd5_3 : Array Oper := match Try.f49.body with
  | some (.seq _ (.seq _ (.seq (.seq _ (.cond _ (.seq (.region _ o _) _) _)) _))) => o
  | _ => #[]
noncomputable def lrd5_3 : List Oper := match Try.f49.body with
  | some (.seq _ (.seq _ (.seq (.seq _ (.cond _ (.seq (.region _ o _) _) _)) _))) => o.toList
  | _ => []
theorem erd5_3 : rrd5_3.toList = lrd5_3 := rfl
noncomputable def rrd5_4 : Array Oper := match Try.f49.body with
  | some (.seq _ (.seq _ (.seq (.seq _ (.cond _ (.seq _ (.seq (.region _ o _) _)) _)) _))) => o
  | _ => #[]
noncomputable def lrd5_4 : List Oper := match Try.f49.body with
  | some (.seq _ (.seq _ (.seq (.seq _ (.cond _ (.seq _ (.seq (.region _ o _) _)) _)) _))) => o.toList
  | _ => []
theorem erd5_4 : rrd5_4.toList = lrd5_4 := rfl
noncomputable def rrd5_5 : Array Oper := match Try.f49.body with
  | some (.seq _ (.seq _ (.seq _ (.seq (.region _ o _) _)))) => o
  | _ => #[]
noncomputable def lrd5_5 : List Oper := match Try.f49.body with
  | some (.seq _ (.seq _ (.seq _ (.seq (.region _ o _) _)))) => o.toList
  | _ => []
theorem erd5_5 : rrd5_5.toList = lrd5_5 := rfl
theorem bodyrd5 : Try.f49.body = some (.seq (.region 0 rrd5_0 false) (.seq (.region 1 rrd5_1 false) (.seq (.seq (.region 2 rrd5_2 false) (.cond (.tmp 18) (.seq (.region 3 rrd5_3 false) (.seq (.region 4 rrd5_4 false) .ret)) .skip)) (.seq (.region 5 rrd5_5 false) .ret)))) := rfl
-- ntmps 24
noncomputable def rpr5_0 : Array Oper := match Try.f28.body with
  | some (.seq (.region _ o _) _) => o
  | _ => #[]
noncomputable def lpr5_0 : List Oper := match Try.f28.body with
  | some (.seq (.region _ o _) _) => o.toList
  | _ => []
theorem epr5_0 : rpr5_0.toList = lpr5_0 := rfl
noncomputable def rpr5_1 : Array Oper := match Try.f28.body with
  | some (.seq _ (.seq (.region _ o _) _)) => o
  | _ => #[]
noncomputable def lpr5_1 : List Oper := match Try.f28.body with
  | some (.seq _ (.seq (.region _ o _) _)) => o.toList
  | _ => []
theorem epr5_1 : rpr5_1.toList = lpr5_1 := rfl
theorem bodypr5 : Try.f28.body = some (.seq (.region 0 rpr5_0 false) (.seq (.region 1 rpr5_1 false) .ret)) := rfl
-- ntmps 9


noncomputable def prA5 : Mem := mem0 ++ [.row false 68 [.string ⟨#[]⟩]]
noncomputable def prB5 : Mem := mem0 ++ [.row false 68 [.string ⟨#[]⟩], .row false 3 [.int .i64 64]]
noncomputable def rdA5 : Mem := mem0 ++ [.row true 68 [.string ⟨#[]⟩], .row true 3 [.int .i64 64]]
noncomputable def rdB5 : Mem := mem0 ++ [.row true 68 [.string ⟨#[]⟩], .row true 3 [.int .i64 64], .row false 68 [.string ⟨#[]⟩]]
noncomputable def rdE5 : Mem := mem0 ++ [.row true 68 [.string ⟨#[]⟩], .row true 3 [.int .i64 64], .row false 68 [.string ⟨#[]⟩], .row false 68 [.string ⟨#[]⟩]]
section
variable (s0 : ByteArray)
noncomputable def prC5 : Mem := mem0 ++ [.row false 68 [.string s0], .row false 3 [.int .i64 64]]
noncomputable def rdC5 : Mem := mem0 ++ [.row true 68 [.string ⟨#[]⟩], .row true 3 [.int .i64 64], .row false 68 [.string ⟨#[]⟩], .row false 9 [.string s0]]
noncomputable def rdD5 : Mem := mem0 ++ [.row true 68 [.string ⟨#[]⟩], .row true 3 [.int .i64 64], .row false 68 [.string s0], .row false 9 [.string s0]]
theorem rdpick5 (n : Nat) : ainv E (runQ E mem0 [] (n + 1)).1 50 [.slice (some ⟨1 + 3, 0, none⟩) 1 1] (rdC5 s0) = some (.agg ⟨[.string s0]⟩, rdC5 s0) := by kernel_rfl
theorem rdst5 : astore E.P 68 (.pointer (some ⟨1 + 2, 0, none⟩)) (.agg ⟨[.string s0]⟩) (rdC5 s0) = some (rdD5 s0) := by kernel_rfl
theorem rdld5 : aload E.P 68 (.pointer (some ⟨1 + 2, 0, none⟩)) (rdD5 s0) = some (.agg ⟨[.string s0]⟩) := by kernel_rfl
theorem prst5 : astore E.P 68 (.pointer (some ⟨1 + 0, 0, none⟩)) (.agg ⟨[.string s0]⟩) prB5 = some (prC5 s0) := by kernel_rfl
theorem prld5 : aload E.P 68 (.pointer (some ⟨1 + 0, 0, none⟩)) (prC5 s0) = some (.agg ⟨[.string s0]⟩) := by kernel_rfl
end
theorem rdal5 : aalloc E.P 68 rdA5 = some (.pointer (some ⟨1 + 2, 0, none⟩), rdB5) := by kernel_rfl
theorem rdal25 : aalloc E.P 68 rdB5 = some (.pointer (some ⟨1 + 3, 0, none⟩), rdE5) := by kernel_rfl
theorem rdld25 : aload E.P 68 (.pointer (some ⟨1 + 3, 0, none⟩)) rdE5 = some (.agg ⟨[.string ⟨#[]⟩]⟩) := by kernel_rfl
theorem rdst25 : astore E.P 68 (.pointer (some ⟨1 + 2, 0, none⟩)) (.agg ⟨[.string ⟨#[]⟩]⟩) rdE5 = some rdE5 := by kernel_rfl
theorem rdld35 : aload E.P 68 (.pointer (some ⟨1 + 2, 0, none⟩)) rdE5 = some (.agg ⟨[.string ⟨#[]⟩]⟩) := by kernel_rfl
theorem pral5 : aalloc E.P 68 mem0 = some (.pointer (some ⟨1 + 0, 0, none⟩), prA5) := by kernel_rfl
theorem prsz5 (n : Nat) : ainv E (runQ E mem0 [] (n + 1)).1 51 [] prA5 = some (.slice (some ⟨1 + 1, 0, none⟩) 1 1, prB5) := by kernel_rfl
theorem prse5 : prB5.map sealed = rdA5 := by kernel_rfl
theorem callrd5 : callableB E.P 49 = true := by kernel_rfl
theorem callpc5 : callableB E.P 50 = true := by kernel_rfl
theorem callsz5 : callableB E.P 51 = true := by kernel_rfl
theorem rdrs5 : RS rdB5 (.slice (some ⟨1 + 1, 0, none⟩) 1 1) ((szs11 5).map (Value.int .i64)) := RS.row (c := 1) (ro := true) (e := 3) (cs := (szs11 5).map (Value.int .i64)) (by kernel_rfl)

theorem rd5_body {n nf : Nat} {s : ByteArray} (hn : 1000 ≤ n) (hsl : s.data.toList.length ≤ 1000) :
    ∃ m', abody E (runQ E mem0 [] (n + 2)).1 nf 49 [.string s, .func (.func 50) ⟨[]⟩ ⟨[]⟩, .slice (some ⟨1 + 1, 0, none⟩) 1 1] rdA5 = some (.tuple ⟨[.agg ⟨(mparts (szs11 5) s).map Value.string⟩, .int .i64 (splitE s (szs11 5) : Nat)]⟩, m') := by
  have hsp := csplit_ex (n := n) hn (s := s) (b := 1 + 1) (o := 0) (c := 1) (szs := szs11 5) rdrs5 (by decide) hsl
  rw [show (szs11 5).length = 1 from rfl] at hsp
  rw [abody_eqF (by kernel_rfl) Try.func49 bodyrd5 (by kernel_rfl) (Nat.le_of_ble_eq_true rfl)]
  rw [show Try.f49.ntmps = 24 from rfl]
  by_cases he : splitE s (szs11 5) = 0
  · have hl : (splitL s (szs11 5)).length = 1 := by unfold splitL; rw [if_pos he, List.length_map, List.length_range]; rfl
    have hm : mparts (szs11 5) s = splitL s (szs11 5) := by unfold mparts; rw [if_pos he]
    obtain ⟨s0, hss⟩ := len1 hl
    rw [if_pos he, hss] at hsp
    have hsp : ainv E (runQ E mem0 [] (n + 2)).1 7 [.string s, .slice (some ⟨1 + 1, 0, none⟩) 1 1] rdB5 = some (.tuple ⟨[.slice (some ⟨1 + 3, 0, none⟩) 1 1, .int .i64 0]⟩, rdC5 s0) := hsp
    have hp := rdpick5 s0 (n + 1)
    have q : ((0 : Int) != 0) = false := rfl
    rw [hm, hss, he]
    simp only [erd5_0, erd5_1, erd5_2, erd5_3, erd5_4, erd5_5, lrd5_0, lrd5_1, lrd5_2, lrd5_3, lrd5_4, lrd5_5, agd_none, gdAt, gdV_bool, gdV_undef, Try.f49, List.append_eq, List.cons_append, List.nil_append, apure_call1, apure_call2, apure_call3, bft, btf, acodeN, List.getElem?_toArray, List.getElem?_cons_zero, List.getElem?_cons_succ, aopsN, adrawT, cls, astep, aop, afloat, ev, nth_lst, get_lst, aput, setAt_lst, upd_at, init_zero, init_succ, init_nil, Nat.reduceLT, Nat.reduceEqDiff, reduceIte, abuiltin, alen, Option.map_some, Option.map_none, orElse_some, apure_add, apure_eqlV, eqlVal_str, eqlVal_bool, eqlVal_ptr, eqlVal_slice, eqlVal_int, allT, ↓aop_eqlV, apure_neq, List.map_cons, List.map_nil, List.all_cons, List.all_nil, lit2, lit1, lit0, List.isEmpty_nil, Bool.and_self, Bool.and_true, Bool.true_and, Bool.false_and, Bool.and_false, Bool.not_true, Bool.not_false, Bool.or_true, Bool.true_or, Bool.false_or, Bool.or_false, Bool.false_eq_true, if_true, if_false, List.length_map, beq_self_eq_true, und3, und4, und5, und9, rdal5, callWS, hsp, aextract, neq64, q, callpc5, hp, rdst5 s0, finish, ares, aresL, ares1, rdld5 s0]
    exact ⟨_, rfl⟩
  · have hm : mparts (szs11 5) s = (szs11 5).map fun _ => ⟨#[]⟩ := by unfold mparts; rw [if_neg he]
    rw [if_neg he] at hsp
    have q : (((splitE s (szs11 5) : Nat) : Int) != 0) = true := by
      have : ((splitE s (szs11 5) : Nat) : Int) ≠ 0 := by omega
      simpa using this
    rw [hm]
    simp only [erd5_0, erd5_1, erd5_2, erd5_3, erd5_4, erd5_5, lrd5_0, lrd5_1, lrd5_2, lrd5_3, lrd5_4, lrd5_5, agd_none, gdAt, gdV_bool, gdV_undef, Try.f49, List.append_eq, List.cons_append, List.nil_append, apure_call1, apure_call2, apure_call3, bft, btf, acodeN, List.getElem?_toArray, List.getElem?_cons_zero, List.getElem?_cons_succ, aopsN, adrawT, cls, astep, aop, afloat, ev, nth_lst, get_lst, aput, setAt_lst, upd_at, init_zero, init_succ, init_nil, Nat.reduceLT, Nat.reduceEqDiff, reduceIte, abuiltin, alen, Option.map_some, Option.map_none, orElse_some, apure_add, apure_eqlV, eqlVal_str, eqlVal_bool, eqlVal_ptr, eqlVal_slice, eqlVal_int, allT, ↓aop_eqlV, apure_neq, List.map_cons, List.map_nil, List.all_cons, List.all_nil, lit2, lit1, lit0, List.isEmpty_nil, Bool.and_self, Bool.and_true, Bool.true_and, Bool.false_and, Bool.and_false, Bool.not_true, Bool.not_false, Bool.or_true, Bool.true_or, Bool.false_or, Bool.or_false, Bool.false_eq_true, if_true, if_false, List.length_map, beq_self_eq_true, und3, und4, und5, und9, rdal5, callWS, hsp, aextract, neq64, q, rdal25, rdld25, rdst25, finish, ares, aresL, ares1, rdld35]
    exact ⟨_, rfl⟩

theorem cparse5 {n : Nat} (hn : 1000 ≤ n) : CParse 28 (szs11 5) (runQ E mem0 [] (n + 4)).1 := by
  intro m s hT hsl
  obtain ⟨m', hrd⟩ := rd5_body (n := n) (nf := n + 3) (s := s) hn hsl
  have hrd := runQ_body hrd
  have hin : ainv E (runQ E mem0 [] (n + 3)).1 49 [.string s, .func (.func 50) ⟨[]⟩ ⟨[]⟩, .slice (some ⟨1 + 1, 0, none⟩) 1 1] prB5 = some (.tuple ⟨[.agg ⟨(mparts (szs11 5) s).map Value.string⟩, .int .i64 (splitE s (szs11 5) : Nat)]⟩, prB5) := by
    unfold ainv
    rw [show ([Value.string s, .func (.func 50) ⟨[]⟩ ⟨[]⟩, .slice (some ⟨1 + 1, 0, none⟩) 1 1].all lit2) = false from rfl, show E.wr 49 = false from by kernel_rfl]
    simp only [Bool.false_eq_true, if_false, prse5, hrd]
    obtain ⟨s0, hss⟩ := len1 (show (mparts (szs11 5) s).length = 1 from mparts_len _ _)
    rw [hss]
    unfold acoll
    exact if_pos rfl
  have hz := prsz5 (n + 2)
  have hr : ∃ m2, abody E (runQ E mem0 [] (n + 3)).1 (n + 4) 28 [.string s] mem0 = some (.tuple ⟨[.agg ⟨(mparts (szs11 5) s).map Value.string⟩, .int .i64 (splitE s (szs11 5) : Nat)]⟩, m2) := by
    obtain ⟨s0, hss⟩ := len1 (show (mparts (szs11 5) s).length = 1 from mparts_len _ _)
    rw [hss] at hin ⊢
    rw [abody_eqF (by kernel_rfl) Try.func28 bodypr5 (by kernel_rfl) (Nat.le_of_ble_eq_true rfl)]
    rw [show Try.f28.ntmps = 9 from rfl]
    simp only [List.map_cons, List.map_nil] at hin
    simp only [epr5_0, epr5_1, lpr5_0, lpr5_1, agd_none, gdAt, gdV_bool, gdV_undef, Try.f28, List.append_eq, List.cons_append, List.nil_append, apure_call1, apure_call2, apure_call3, bft, btf, acodeN, List.getElem?_toArray, List.getElem?_cons_zero, List.getElem?_cons_succ, aopsN, adrawT, cls, astep, aop, afloat, ev, nth_lst, get_lst, aput, setAt_lst, upd_at, init_zero, init_succ, init_nil, Nat.reduceLT, Nat.reduceEqDiff, reduceIte, abuiltin, alen, Option.map_some, Option.map_none, orElse_some, apure_add, apure_eqlV, eqlVal_str, eqlVal_bool, eqlVal_ptr, eqlVal_slice, eqlVal_int, allT, ↓aop_eqlV, apure_neq, List.map_cons, List.map_nil, List.all_cons, List.all_nil, lit2, lit1, lit0, List.isEmpty_nil, Bool.and_self, Bool.and_true, Bool.true_and, Bool.false_and, Bool.and_false, Bool.not_true, Bool.not_false, Bool.or_true, Bool.true_or, Bool.false_or, Bool.or_false, Bool.false_eq_true, if_true, if_false, List.length_map, beq_self_eq_true, und3, und4, und5, und9, pral5, callsz5, hz, callrd5, hin, aextract, prst5 s0, finish, ares, aresL, ares1, prld5 s0]
    exact ⟨_, rfl⟩
  obtain ⟨m2, hr⟩ := hr
  rw [ainv_tabs rfl (by kernel_rfl) hT (runQ_body hr)]
  obtain ⟨s0, hss⟩ := len1 (show (mparts (szs11 5) s).length = 1 from mparts_len _ _)
  rw [hss]
  unfold acoll
  exact if_pos rfl

end Go.Am.Seat

/-
  All that is asked of the program's calls of layer 11 (own work).
-/
set_option linter.unusedSimpArgs false
set_option linter.unusedVariables false
namespace Go.Am.Seat
open Go.Proofs Go.Am

theorem msgs11 (k : Nat) : CMsgs (runQ E mem0 [] (k + 1900)).1 where
  p0 := cparse0 (n := k + 1896) (by omega)
  b0 := cbytes0 (n := k + 1898) (cjoin_wire' (n := k + 1894) (by omega))
  p1 := cparse1 (n := k + 1896) (by omega)
  b1 := cbytes1 (n := k + 1898) (cjoin_wire' (n := k + 1894) (by omega))
  p2 := cparse2 (n := k + 1896) (by omega)
  b2 := cbytes2 (n := k + 1898) (cjoin_wire' (n := k + 1894) (by omega))
  p3 := cparse3 (n := k + 1896) (by omega)
  b3 := cbytes3 (n := k + 1898) (cjoin_wire' (n := k + 1894) (by omega))
  p4 := cparse4 (n := k + 1896) (by omega)
  b4 := cbytes4 (n := k + 1898) (cjoin_wire' (n := k + 1894) (by omega))
  p5 := cparse5 (n := k + 1896) (by omega)
  b5 := cbytes5 (n := k + 1898) (cjoin_wire' (n := k + 1894) (by omega))

theorem wire11 : Wire11 where
  aw := awake11
  sp := csplit_wire (n := 1998) (by omega)
  jn := cjoin_wire' (n := 1995) (by omega)
  an := canswer (n := 1999)
  ms := fun n hn => by
    obtain ⟨k, rfl⟩ : ∃ k, n = k + 1900 := ⟨n - 1900, by omega⟩
    exact msgs11 k
end Go.Am.Seat
