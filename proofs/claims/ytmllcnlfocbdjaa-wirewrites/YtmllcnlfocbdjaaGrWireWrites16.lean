/-
  Texts of my own, put together: W6, W7, W8, W9.
-/
import Derived.Test.YtmllcnlfocbdjaaGrWireWrites15
/-
  WireCuts: the law over what its calls answer (own work).
-/
set_option linter.unusedSimpArgs false
set_option linter.unusedVariables false
namespace Go.Am.Seat
open Go.Proofs Go.Am
set_option maxRecDepth 100000

noncomputable def rwc_0 : Array Oper := match Try.f3.body with
  | some (.seq (.region _ o _) _) => o
  | _ => #[]
noncomputable def lwc_0 : List Oper := match Try.f3.body with
  | some (.seq (.region _ o _) _) => o.toList
  | _ => []
theorem ewc_0 : rwc_0.toList = lwc_0 := rfl
noncomputable def rwc_1 : Array Oper := match Try.f3.body with
  | some (.seq _ (.seq (.seq (.region _ o _) _) _)) => o
  | _ => #[]
noncomputable def lwc_1 : List Oper := match Try.f3.body with
  | some (.seq _ (.seq (.seq (.region _ o _) _) _)) => o.toList
  | _ => []
theorem ewc_1 : rwc_1.toList = lwc_1 := rfl
noncomputable def rwc_2 : Array Oper := match Try.f3.body with
  | some (.seq _ (.seq (.seq _ (.cond _ (.seq (.region _ o _) _) _)) _)) => o
  | _ => #[]
noncomputable def lwc_2 : List Oper := match Try.f3.body with
  | some (.seq _ (.seq (.seq _ (.cond _ (.seq (.region _ o _) _) _)) _)) => o.toList
  | _ => []
theorem ewc_2 : rwc_2.toList = lwc_2 := rfl
noncomputable def rwc_3 : Array Oper := match Try.f3.body with
  | some (.seq _ (.seq _ (.seq (.seq (.region _ o _) _) _))) => o
  | _ => #[]
noncomputable def lwc_3 : List Oper := match Try.f3.body with
  | some (.seq _ (.seq _ (.seq (.seq (.region _ o _) _) _))) => o.toList
  | _ => []
theorem ewc_3 : rwc_3.toList = lwc_3 := rfl
theorem gwc_3_3 {T : List Value} {dd : Option Tmp} {op : Op} {ty : TypeId} {pos : String} {af : Array Edge} {want : Bool} : agd rwc_3 T { dst := dd, op := op, type := ty, pos := pos, after := af, guard := some (3, want) } = gdAt T 22 want := agd_at (by kernel_rfl)
theorem gwc_3_8 {T : List Value} {dd : Option Tmp} {op : Op} {ty : TypeId} {pos : String} {af : Array Edge} {want : Bool} : agd rwc_3 T { dst := dd, op := op, type := ty, pos := pos, after := af, guard := some (8, want) } = gdAt T 27 want := agd_at (by kernel_rfl)
noncomputable def rwc_4 : Array Oper := match Try.f3.body with
  | some (.seq _ (.seq _ (.seq (.seq _ (.cond _ (.seq (.region _ o _) _) _)) _))) => o
  | _ => #[]
noncomputable def lwc_4 : List Oper := match Try.f3.body with
  | some (.seq _ (.seq _ (.seq (.seq _ (.cond _ (.seq (.region _ o _) _) _)) _))) => o.toList
  | _ => []
theorem ewc_4 : rwc_4.toList = lwc_4 := rfl
noncomputable def rwc_5 : Array Oper := match Try.f3.body with
  | some (.seq _ (.seq _ (.seq _ (.seq (.region _ o _) _)))) => o
  | _ => #[]
noncomputable def lwc_5 : List Oper := match Try.f3.body with
  | some (.seq _ (.seq _ (.seq _ (.seq (.region _ o _) _)))) => o.toList
  | _ => []
theorem ewc_5 : rwc_5.toList = lwc_5 := rfl
noncomputable def rwc_6 : Array Oper := match Try.f3.body with
  | some (.seq _ (.seq _ (.seq _ (.seq _ (.seq (.region _ o _) _))))) => o
  | _ => #[]
noncomputable def lwc_6 : List Oper := match Try.f3.body with
  | some (.seq _ (.seq _ (.seq _ (.seq _ (.seq (.region _ o _) _))))) => o.toList
  | _ => []
theorem ewc_6 : rwc_6.toList = lwc_6 := rfl
noncomputable def rwc_7 : Array Oper := match Try.f3.body with
  | some (.seq _ (.seq _ (.seq _ (.seq _ (.seq _ (.seq (.region _ o _) _)))))) => o
  | _ => #[]
noncomputable def lwc_7 : List Oper := match Try.f3.body with
  | some (.seq _ (.seq _ (.seq _ (.seq _ (.seq _ (.seq (.region _ o _) _)))))) => o.toList
  | _ => []
theorem ewc_7 : rwc_7.toList = lwc_7 := rfl
noncomputable def rwc_8 : Array Oper := match Try.f3.body with
  | some (.seq _ (.seq _ (.seq _ (.seq _ (.seq _ (.seq _ (.seq (.region _ o _) _))))))) => o
  | _ => #[]
noncomputable def lwc_8 : List Oper := match Try.f3.body with
  | some (.seq _ (.seq _ (.seq _ (.seq _ (.seq _ (.seq _ (.seq (.region _ o _) _))))))) => o.toList
  | _ => []
theorem ewc_8 : rwc_8.toList = lwc_8 := rfl
noncomputable def rwc_9 : Array Oper := match Try.f3.body with
  | some (.seq _ (.seq _ (.seq _ (.seq _ (.seq _ (.seq _ (.seq _ (.seq (.seq (.region _ o _) _) _)))))))) => o
  | _ => #[]
noncomputable def lwc_9 : List Oper := match Try.f3.body with
  | some (.seq _ (.seq _ (.seq _ (.seq _ (.seq _ (.seq _ (.seq _ (.seq (.seq (.region _ o _) _) _)))))))) => o.toList
  | _ => []
theorem ewc_9 : rwc_9.toList = lwc_9 := rfl
theorem gwc_9_4 {T : List Value} {dd : Option Tmp} {op : Op} {ty : TypeId} {pos : String} {af : Array Edge} {want : Bool} : agd rwc_9 T { dst := dd, op := op, type := ty, pos := pos, after := af, guard := some (4, want) } = gdAt T 60 want := agd_at (by kernel_rfl)
theorem gwc_9_9 {T : List Value} {dd : Option Tmp} {op : Op} {ty : TypeId} {pos : String} {af : Array Edge} {want : Bool} : agd rwc_9 T { dst := dd, op := op, type := ty, pos := pos, after := af, guard := some (9, want) } = gdAt T 65 want := agd_at (by kernel_rfl)
theorem gwc_9_14 {T : List Value} {dd : Option Tmp} {op : Op} {ty : TypeId} {pos : String} {af : Array Edge} {want : Bool} : agd rwc_9 T { dst := dd, op := op, type := ty, pos := pos, after := af, guard := some (14, want) } = gdAt T 70 want := agd_at (by kernel_rfl)
noncomputable def rwc_10 : Array Oper := match Try.f3.body with
  | some (.seq _ (.seq _ (.seq _ (.seq _ (.seq _ (.seq _ (.seq _ (.seq (.seq _ (.cond _ (.seq (.region _ o _) _) _)) _)))))))) => o
  | _ => #[]
noncomputable def lwc_10 : List Oper := match Try.f3.body with
  | some (.seq _ (.seq _ (.seq _ (.seq _ (.seq _ (.seq _ (.seq _ (.seq (.seq _ (.cond _ (.seq (.region _ o _) _) _)) _)))))))) => o.toList
  | _ => []
theorem ewc_10 : rwc_10.toList = lwc_10 := rfl
noncomputable def rwc_11 : Array Oper := match Try.f3.body with
  | some (.seq _ (.seq _ (.seq _ (.seq _ (.seq _ (.seq _ (.seq _ (.seq _ (.seq (.region _ o _) _))))))))) => o
  | _ => #[]
noncomputable def lwc_11 : List Oper := match Try.f3.body with
  | some (.seq _ (.seq _ (.seq _ (.seq _ (.seq _ (.seq _ (.seq _ (.seq _ (.seq (.region _ o _) _))))))))) => o.toList
  | _ => []
theorem ewc_11 : rwc_11.toList = lwc_11 := rfl
noncomputable def rwc_12 : Array Oper := match Try.f3.body with
  | some (.seq _ (.seq _ (.seq _ (.seq _ (.seq _ (.seq _ (.seq _ (.seq _ (.seq _ (.seq (.region _ o _) _)))))))))) => o
  | _ => #[]
noncomputable def lwc_12 : List Oper := match Try.f3.body with
  | some (.seq _ (.seq _ (.seq _ (.seq _ (.seq _ (.seq _ (.seq _ (.seq _ (.seq _ (.seq (.region _ o _) _)))))))))) => o.toList
  | _ => []
theorem ewc_12 : rwc_12.toList = lwc_12 := rfl
theorem gwc_12_2 {T : List Value} {dd : Option Tmp} {op : Op} {ty : TypeId} {pos : String} {af : Array Edge} {want : Bool} : agd rwc_12 T { dst := dd, op := op, type := ty, pos := pos, after := af, guard := some (2, want) } = gdAt T 83 want := agd_at (by kernel_rfl)
theorem gwc_12_5 {T : List Value} {dd : Option Tmp} {op : Op} {ty : TypeId} {pos : String} {af : Array Edge} {want : Bool} : agd rwc_12 T { dst := dd, op := op, type := ty, pos := pos, after := af, guard := some (5, want) } = gdAt T 86 want := agd_at (by kernel_rfl)
theorem bodywc : Try.f3.body = some (.seq (.region 0 rwc_0 false) (.seq (.seq (.region 1 rwc_1 false) (.cond (.tmp 18) (.seq (.region 2 rwc_2 false) .ret) .skip)) (.seq (.seq (.region 3 rwc_3 false) (.cond (.tmp 31) (.seq (.region 4 rwc_4 false) .ret) .skip)) (.seq (.region 5 rwc_5 false) (.seq (.region 6 rwc_6 false) (.seq (.region 7 rwc_7 false) (.seq (.region 8 rwc_8 false) (.seq (.seq (.region 9 rwc_9 false) (.cond (.tmp 74) (.seq (.region 10 rwc_10 false) .ret) .skip)) (.seq (.region 11 rwc_11 false) (.seq (.region 12 rwc_12 false) .ret)))))))))) := rfl
-- ntmps 92


theorem callAw11 : callableB E.P 6 = true := by kernel_rfl
theorem callWS : callableB E.P 7 = true := by kernel_rfl
theorem callWJ : callableB E.P 9 = true := by kernel_rfl
theorem callRS11 : callableB E.P 8 = true := by kernel_rfl
theorem callRJ11 : callableB E.P 10 = true := by kernel_rfl
theorem callSEq : callableB E.P 11 = true := by kernel_rfl
theorem selfNe (a : Int) : (a != a) = false := by simp
theorem selfEq (a : ByteArray) : (a.toList == a.toList) = true := by simp

theorem wc_rest {self : Self} {nf : Nat} {m : Mem} {F : Nat → Value} {s : ByteArray} {szs : List Int} {ps : List ByteArray} {vs vp : Value} (h0 : F 0 = .string s) (h1 : F 1 = vs) (h2 : F 2 = vp)
    (c1 : CSplitC 7 self) (c2 : CSplit 8 self) (c3 : CJoin 9 self) (c4 : CJoin 10 self) (c5 : CAlike 11 self)
    (hs : RS m vs (szs.map (Value.int .i64))) (hp : RS m vp (ps.map Value.string)) (hw : ∀ n ∈ szs, (Lit.int .i64 n).wf = true) (hsl : s.data.toList.length ≤ 1000) (hl1 : szs.length ≤ 20) (hl2 : ps.length ≤ 20) (hps : (catL ps).size ≤ 100000000) (hcp : CapOk vp) :
    ∃ F' m', acodeN E self nf (.seq (.region 5 rwc_5 false) (.seq (.region 6 rwc_6 false) (.seq (.region 7 rwc_7 false) (.seq (.region 8 rwc_8 false) (.seq (.seq (.region 9 rwc_9 false) (.cond (.tmp 74) (.seq (.region 10 rwc_10 false) .ret) .skip)) (.seq (.region 11 rwc_11 false) (.seq (.region 12 rwc_12 false) .ret))))))) (lst F 92) m = some (.ret, lst F' 92, m') ∧ F' 6 = .bool true := by
  obtain ⟨va, ma, e1, ra, ka, hca⟩ := c1 m s szs vs hs hl1 hsl hw
  obtain ⟨vb, mb, e2, rb, kb⟩ := c2 ma s szs vs (hs.keep ka) hl1 hsl hw
  have kab := ka.trans kb
  have e3 := c3 mb szs ps vs vp (hs.keep kab) (hp.keep kab) hl1 hl2 hps hw hcp
  have e4 := c4 mb szs ps vs vp (hs.keep kab) (hp.keep kab) hl1 hl2 hps hw hcp
  have e5 := c5 mb (splitL s szs) (splitL s szs) va vb (ra.keep kb) rb (by have := split_length s szs; omega) (by have := split_length s szs; omega)
  have e6 := c3 mb szs (splitL s szs) vs va (hs.keep kab) (ra.keep kb) hl1 (by have := split_length s szs; omega) (by have := split_small (szs := szs) hsl; omega) hw hca
  have hd : decide (splitL s szs = splitL s szs) = true := by simp
  rw [hd] at e5
  by_cases he : splitE s szs = 0
  · obtain ⟨j1, j2⟩ := split_join he
    have q1 : ((((splitE s szs : Nat)) : Int) != 0) = false := by rw [he]; rfl
    have q2 : ((((joinE szs (splitL s szs) : Nat)) : Int) == 0) = true := by rw [j1]; rfl
    rw [j2] at e6
    simp only [ewc_0, ewc_1, ewc_10, ewc_11, ewc_12, ewc_2, ewc_3, ewc_4, ewc_5, ewc_6, ewc_7, ewc_8, ewc_9, lwc_0, lwc_1, lwc_2, lwc_3, lwc_4, lwc_5, lwc_6, lwc_7, lwc_8, lwc_9, lwc_10, lwc_11, lwc_12, gwc_12_2, gwc_12_5, gwc_3_3, gwc_3_8, gwc_9_14, gwc_9_4, gwc_9_9, agd_none, gdAt, gdV_bool, gdV_undef, Try.f3, List.append_eq, List.cons_append, List.nil_append, apure_call1, apure_call2, apure_call3, bft, btf, acodeN, List.getElem?_toArray, List.getElem?_cons_zero, List.getElem?_cons_succ, aopsN, adrawT, cls, astep, aop, afloat, ev, nth_lst, get_lst, aput, setAt_lst, upd_at, init_zero, init_succ, init_nil, Nat.reduceLT, Nat.reduceEqDiff, reduceIte, abuiltin, alen, Option.map_some, Option.map_none, orElse_some, apure_add, apure_eqlV, eqlVal_str, eqlVal_bool, eqlVal_ptr, eqlVal_slice, eqlVal_int, allT, ↓aop_eqlV, apure_neq, List.map_cons, List.map_nil, List.all_cons, List.all_nil, lit2, lit1, lit0, List.isEmpty_nil, Bool.and_self, Bool.and_true, Bool.true_and, Bool.false_and, Bool.and_false, Bool.not_true, Bool.not_false, Bool.or_true, Bool.true_or, Bool.false_or, Bool.or_false, Bool.false_eq_true, if_true, if_false, List.length_map, beq_self_eq_true, und3, und4, und5, und9, h0, h1, h2, callWS, callWJ, callRS11, callRJ11, callSEq, e1, e2, e3, e4, e5, e6, aextract, neq64, selfNe, selfEq, q1, eql64, q2]
    exact ⟨_, _, rfl, by simp only [upd_at, Nat.reduceEqDiff, reduceIte]⟩
  · have q1 : ((((splitE s szs : Nat)) : Int) != 0) = true := by
      have : ((splitE s szs : Nat) : Int) ≠ 0 := by omega
      simpa using this
    simp only [ewc_0, ewc_1, ewc_10, ewc_11, ewc_12, ewc_2, ewc_3, ewc_4, ewc_5, ewc_6, ewc_7, ewc_8, ewc_9, lwc_0, lwc_1, lwc_2, lwc_3, lwc_4, lwc_5, lwc_6, lwc_7, lwc_8, lwc_9, lwc_10, lwc_11, lwc_12, gwc_12_2, gwc_12_5, gwc_3_3, gwc_3_8, gwc_9_14, gwc_9_4, gwc_9_9, agd_none, gdAt, gdV_bool, gdV_undef, Try.f3, List.append_eq, List.cons_append, List.nil_append, apure_call1, apure_call2, apure_call3, bft, btf, acodeN, List.getElem?_toArray, List.getElem?_cons_zero, List.getElem?_cons_succ, aopsN, adrawT, cls, astep, aop, afloat, ev, nth_lst, get_lst, aput, setAt_lst, upd_at, init_zero, init_succ, init_nil, Nat.reduceLT, Nat.reduceEqDiff, reduceIte, abuiltin, alen, Option.map_some, Option.map_none, orElse_some, apure_add, apure_eqlV, eqlVal_str, eqlVal_bool, eqlVal_ptr, eqlVal_slice, eqlVal_int, allT, ↓aop_eqlV, apure_neq, List.map_cons, List.map_nil, List.all_cons, List.all_nil, lit2, lit1, lit0, List.isEmpty_nil, Bool.and_self, Bool.and_true, Bool.true_and, Bool.false_and, Bool.and_false, Bool.not_true, Bool.not_false, Bool.or_true, Bool.true_or, Bool.false_or, Bool.or_false, Bool.false_eq_true, if_true, if_false, List.length_map, beq_self_eq_true, und3, und4, und5, und9, h0, h1, h2, callWS, callWJ, callRS11, callRJ11, callSEq, e1, e2, e3, e4, e5, e6, aextract, neq64, selfNe, selfEq, q1]
    exact ⟨_, _, rfl, by simp only [upd_at, Nat.reduceEqDiff, reduceIte]⟩
end Go.Am.Seat

/-
  WireCuts: whole, over what its calls answer (own work).
-/
set_option linter.unusedSimpArgs false
set_option linter.unusedVariables false
namespace Go.Am.Seat
open Go.Proofs Go.Am
set_option maxRecDepth 100000

theorem wc_body {self : Self} {nf : Nat} {m : Mem} {s : ByteArray} {szs : List Int} {ps : List ByteArray} {vs vp : Value} (hAw : ainv E self 6 [] m = some (.bool true, m))
    (c1 : CSplitC 7 self) (c2 : CSplit 8 self) (c3 : CJoin 9 self) (c4 : CJoin 10 self) (c5 : CAlike 11 self)
    (hs : RS m vs (szs.map (Value.int .i64))) (hp : RS m vp (ps.map Value.string)) (hw : ∀ n ∈ szs, (Lit.int .i64 n).wf = true) (hps : ∀ s ∈ ps, s.size ≤ 1048576) (hcp : CapOk vp) :
    ∃ m', abody E self nf 3 [.string s, vs, vp] m = some (.bool true, m') := by
  rw [abody_eqF (by kernel_rfl) Try.func3 bodywc (by kernel_rfl) (Nat.le_of_ble_eq_true rfl)]
  rw [show Try.f3.ntmps = 92 from rfl]
  by_cases g1 : s.data.toList.length ≤ 1000
  · have q1 : decide (((s.data.toList.length : Nat) : Int) > 1000) = false := decide_eq_false (by omega)
    by_cases g2 : szs.length ≤ 20
    · by_cases g3 : ps.length ≤ 20
      · have hcat : (catL ps).size ≤ 100000000 := by
          have := cat_small hps
          have h9 : ps.length * 1048576 ≤ 20 * 1048576 := Nat.mul_le_mul_right _ g3
          omega
        have key := fun F h0 h1 h2 => wc_rest (self := self) (nf := nf) (m := m) (F := F) (s := s) (szs := szs) (ps := ps) (vs := vs) (vp := vp) h0 h1 h2 c1 c2 c3 c4 c5 hs hp hw g1 g2 g3 hcat hcp
        generalize hR : (Code.seq (.region 5 rwc_5 false) (.seq (.region 6 rwc_6 false) (.seq (.region 7 rwc_7 false) (.seq (.region 8 rwc_8 false) (.seq (.seq (.region 9 rwc_9 false) (.cond (.tmp 74) (.seq (.region 10 rwc_10 false) .ret) .skip)) (.seq (.region 11 rwc_11 false) (.seq (.region 12 rwc_12 false) .ret))))))) = R at key ⊢
        have z0 : decide ((0 : Int) > 20) = false := rfl
        have q2 : decide (((szs.length : Nat) : Int) > 20) = false := decide_eq_false (by omega)
        have q3 : decide (((ps.length : Nat) : Int) > 20) = false := decide_eq_false (by omega)
        rcases hs with ⟨hz, rfl⟩ | ⟨b0, o0, c0, hv, hs⟩
        · rcases hp with ⟨hz2, rfl⟩ | ⟨b1, o1, c1, hv2, hp⟩
          · clear hz hz2
            obtain ⟨F', m', hr, h6⟩ := key (upd (upd (upd (upd (upd (upd (upd (upd (upd (upd (upd (upd (upd (upd (upd (upd (init [.string s, (.slice none 0 0), (.slice none 0 0)]) 6 (.bool false)) 17 (.bool true)) 18 (.bool false)) 19 (.string s)) 20 (.int .i64 ((s.data.toList.length : Nat) : Int))) 21 (.bool false)) 22 (.bool false)) 23 (.slice none 0 0)) 24 (.int .i64 0)) 25 (.bool false)) 26 (.bool false)) 27 (.bool false)) 28 (.slice none 0 0)) 29 (.int .i64 0)) 30 (.bool false)) 31 (.bool false)) rfl rfl rfl
            simp only [List.length_map, ewc_0, ewc_1, ewc_10, ewc_11, ewc_12, ewc_2, ewc_3, ewc_4, ewc_5, ewc_6, ewc_7, ewc_8, ewc_9, lwc_0, lwc_1, lwc_2, lwc_3, lwc_4, lwc_5, lwc_6, lwc_7, lwc_8, lwc_9, lwc_10, lwc_11, lwc_12, gwc_12_2, gwc_12_5, gwc_3_3, gwc_3_8, gwc_9_14, gwc_9_4, gwc_9_9, agd_none, gdAt, gdV_bool, gdV_undef, Try.f3, List.append_eq, List.cons_append, List.nil_append, apure_call1, apure_call2, apure_call3, bft, btf, acodeN, List.getElem?_toArray, List.getElem?_cons_zero, List.getElem?_cons_succ, aopsN, adrawT, cls, astep, aop, afloat, ev, nth_lst, get_lst, aput, setAt_lst, upd_at, init_zero, init_succ, init_nil, Nat.reduceLT, Nat.reduceEqDiff, reduceIte, abuiltin, alen, Option.map_some, Option.map_none, orElse_some, apure_add, apure_eqlV, eqlVal_str, eqlVal_bool, eqlVal_ptr, eqlVal_slice, eqlVal_int, allT, ↓aop_eqlV, apure_neq, List.map_cons, List.map_nil, List.all_cons, List.all_nil, lit2, lit1, lit0, List.isEmpty_nil, Bool.and_self, Bool.and_true, Bool.true_and, Bool.false_and, Bool.and_false, Bool.not_true, Bool.not_false, Bool.or_true, Bool.true_or, Bool.false_or, Bool.or_false, Bool.false_eq_true, if_true, if_false, List.length_map, beq_self_eq_true, und3, und4, und5, und9, callAw11, hAw, gtr64', q1, z0, z0, lenI, lenS, undIS, undSS, hr, h6, finish, ares, aresL, ares1]
            exact ⟨_, rfl⟩
          · rw [List.length_map] at hv2
            subst hv2
            obtain ⟨F', m', hr, h6⟩ := key (upd (upd (upd (upd (upd (upd (upd (upd (upd (upd (upd (upd (upd (upd (upd (upd (init [.string s, (.slice none 0 0), (.slice (some ⟨b1, o1, none⟩) ps.length c1)]) 6 (.bool false)) 17 (.bool true)) 18 (.bool false)) 19 (.string s)) 20 (.int .i64 ((s.data.toList.length : Nat) : Int))) 21 (.bool false)) 22 (.bool false)) 23 (.slice none 0 0)) 24 (.int .i64 0)) 25 (.bool false)) 26 (.bool false)) 27 (.bool false)) 28 (.slice (some ⟨b1, o1, none⟩) ps.length c1)) 29 (.int .i64 ((ps.length : Nat) : Int))) 30 (.bool false)) 31 (.bool false)) rfl rfl rfl
            simp only [List.length_map, ewc_0, ewc_1, ewc_10, ewc_11, ewc_12, ewc_2, ewc_3, ewc_4, ewc_5, ewc_6, ewc_7, ewc_8, ewc_9, lwc_0, lwc_1, lwc_2, lwc_3, lwc_4, lwc_5, lwc_6, lwc_7, lwc_8, lwc_9, lwc_10, lwc_11, lwc_12, gwc_12_2, gwc_12_5, gwc_3_3, gwc_3_8, gwc_9_14, gwc_9_4, gwc_9_9, agd_none, gdAt, gdV_bool, gdV_undef, Try.f3, List.append_eq, List.cons_append, List.nil_append, apure_call1, apure_call2, apure_call3, bft, btf, acodeN, List.getElem?_toArray, List.getElem?_cons_zero, List.getElem?_cons_succ, aopsN, adrawT, cls, astep, aop, afloat, ev, nth_lst, get_lst, aput, setAt_lst, upd_at, init_zero, init_succ, init_nil, Nat.reduceLT, Nat.reduceEqDiff, reduceIte, abuiltin, alen, Option.map_some, Option.map_none, orElse_some, apure_add, apure_eqlV, eqlVal_str, eqlVal_bool, eqlVal_ptr, eqlVal_slice, eqlVal_int, allT, ↓aop_eqlV, apure_neq, List.map_cons, List.map_nil, List.all_cons, List.all_nil, lit2, lit1, lit0, List.isEmpty_nil, Bool.and_self, Bool.and_true, Bool.true_and, Bool.false_and, Bool.and_false, Bool.not_true, Bool.not_false, Bool.or_true, Bool.true_or, Bool.false_or, Bool.or_false, Bool.false_eq_true, if_true, if_false, List.length_map, beq_self_eq_true, und3, und4, und5, und9, callAw11, hAw, gtr64', q1, z0, q3, lenI, lenS, undIS, undSS, hr, h6, finish, ares, aresL, ares1]
            exact ⟨_, rfl⟩
        · rw [List.length_map] at hv
          subst hv
          rcases hp with ⟨hz2, rfl⟩ | ⟨b1, o1, c1, hv2, hp⟩
          · clear hz2
            obtain ⟨F', m', hr, h6⟩ := key (upd (upd (upd (upd (upd (upd (upd (upd (upd (upd (upd (upd (upd (upd (upd (upd (init [.string s, (.slice (some ⟨b0, o0, none⟩) szs.length c0), (.slice none 0 0)]) 6 (.bool false)) 17 (.bool true)) 18 (.bool false)) 19 (.string s)) 20 (.int .i64 ((s.data.toList.length : Nat) : Int))) 21 (.bool false)) 22 (.bool false)) 23 (.slice (some ⟨b0, o0, none⟩) szs.length c0)) 24 (.int .i64 ((szs.length : Nat) : Int))) 25 (.bool false)) 26 (.bool false)) 27 (.bool false)) 28 (.slice none 0 0)) 29 (.int .i64 0)) 30 (.bool false)) 31 (.bool false)) rfl rfl rfl
            simp only [List.length_map, ewc_0, ewc_1, ewc_10, ewc_11, ewc_12, ewc_2, ewc_3, ewc_4, ewc_5, ewc_6, ewc_7, ewc_8, ewc_9, lwc_0, lwc_1, lwc_2, lwc_3, lwc_4, lwc_5, lwc_6, lwc_7, lwc_8, lwc_9, lwc_10, lwc_11, lwc_12, gwc_12_2, gwc_12_5, gwc_3_3, gwc_3_8, gwc_9_14, gwc_9_4, gwc_9_9, agd_none, gdAt, gdV_bool, gdV_undef, Try.f3, List.append_eq, List.cons_append, List.nil_append, apure_call1, apure_call2, apure_call3, bft, btf, acodeN, List.getElem?_toArray, List.getElem?_cons_zero, List.getElem?_cons_succ, aopsN, adrawT, cls, astep, aop, afloat, ev, nth_lst, get_lst, aput, setAt_lst, upd_at, init_zero, init_succ, init_nil, Nat.reduceLT, Nat.reduceEqDiff, reduceIte, abuiltin, alen, Option.map_some, Option.map_none, orElse_some, apure_add, apure_eqlV, eqlVal_str, eqlVal_bool, eqlVal_ptr, eqlVal_slice, eqlVal_int, allT, ↓aop_eqlV, apure_neq, List.map_cons, List.map_nil, List.all_cons, List.all_nil, lit2, lit1, lit0, List.isEmpty_nil, Bool.and_self, Bool.and_true, Bool.true_and, Bool.false_and, Bool.and_false, Bool.not_true, Bool.not_false, Bool.or_true, Bool.true_or, Bool.false_or, Bool.or_false, Bool.false_eq_true, if_true, if_false, List.length_map, beq_self_eq_true, und3, und4, und5, und9, callAw11, hAw, gtr64', q1, q2, z0, lenI, lenS, undIS, undSS, hr, h6, finish, ares, aresL, ares1]
            exact ⟨_, rfl⟩
          · rw [List.length_map] at hv2
            subst hv2
            obtain ⟨F', m', hr, h6⟩ := key (upd (upd (upd (upd (upd (upd (upd (upd (upd (upd (upd (upd (upd (upd (upd (upd (init [.string s, (.slice (some ⟨b0, o0, none⟩) szs.length c0), (.slice (some ⟨b1, o1, none⟩) ps.length c1)]) 6 (.bool false)) 17 (.bool true)) 18 (.bool false)) 19 (.string s)) 20 (.int .i64 ((s.data.toList.length : Nat) : Int))) 21 (.bool false)) 22 (.bool false)) 23 (.slice (some ⟨b0, o0, none⟩) szs.length c0)) 24 (.int .i64 ((szs.length : Nat) : Int))) 25 (.bool false)) 26 (.bool false)) 27 (.bool false)) 28 (.slice (some ⟨b1, o1, none⟩) ps.length c1)) 29 (.int .i64 ((ps.length : Nat) : Int))) 30 (.bool false)) 31 (.bool false)) rfl rfl rfl
            simp only [List.length_map, ewc_0, ewc_1, ewc_10, ewc_11, ewc_12, ewc_2, ewc_3, ewc_4, ewc_5, ewc_6, ewc_7, ewc_8, ewc_9, lwc_0, lwc_1, lwc_2, lwc_3, lwc_4, lwc_5, lwc_6, lwc_7, lwc_8, lwc_9, lwc_10, lwc_11, lwc_12, gwc_12_2, gwc_12_5, gwc_3_3, gwc_3_8, gwc_9_14, gwc_9_4, gwc_9_9, agd_none, gdAt, gdV_bool, gdV_undef, Try.f3, List.append_eq, List.cons_append, List.nil_append, apure_call1, apure_call2, apure_call3, bft, btf, acodeN, List.getElem?_toArray, List.getElem?_cons_zero, List.getElem?_cons_succ, aopsN, adrawT, cls, astep, aop, afloat, ev, nth_lst, get_lst, aput, setAt_lst, upd_at, init_zero, init_succ, init_nil, Nat.reduceLT, Nat.reduceEqDiff, reduceIte, abuiltin, alen, Option.map_some, Option.map_none, orElse_some, apure_add, apure_eqlV, eqlVal_str, eqlVal_bool, eqlVal_ptr, eqlVal_slice, eqlVal_int, allT, ↓aop_eqlV, apure_neq, List.map_cons, List.map_nil, List.all_cons, List.all_nil, lit2, lit1, lit0, List.isEmpty_nil, Bool.and_self, Bool.and_true, Bool.true_and, Bool.false_and, Bool.and_false, Bool.not_true, Bool.not_false, Bool.or_true, Bool.true_or, Bool.false_or, Bool.or_false, Bool.false_eq_true, if_true, if_false, List.length_map, beq_self_eq_true, und3, und4, und5, und9, callAw11, hAw, gtr64', q1, q2, q3, lenI, lenS, undIS, undSS, hr, h6, finish, ares, aresL, ares1]
            exact ⟨_, rfl⟩
      · have z0 : decide ((0 : Int) > 20) = false := rfl
        have q2 : decide (((szs.length : Nat) : Int) > 20) = false := decide_eq_false (by omega)
        have q3 : decide (((ps.length : Nat) : Int) > 20) = true := decide_eq_true (by omega)
        generalize hR : (Code.seq (.region 5 rwc_5 false) (.seq (.region 6 rwc_6 false) (.seq (.region 7 rwc_7 false) (.seq (.region 8 rwc_8 false) (.seq (.seq (.region 9 rwc_9 false) (.cond (.tmp 74) (.seq (.region 10 rwc_10 false) .ret) .skip)) (.seq (.region 11 rwc_11 false) (.seq (.region 12 rwc_12 false) .ret))))))) = R
        rcases hp with ⟨hz2, rfl⟩ | ⟨b1, o1, c1, hv2, hp⟩
        · have : ps = [] := by simpa using hz2
          subst this
          simp at g3
        · rw [List.length_map] at hv2
          subst hv2
          rcases hs with ⟨hz, rfl⟩ | ⟨b0, o0, c0, hv, hs⟩
          · clear hz
            simp only [List.length_map, ewc_0, ewc_1, ewc_10, ewc_11, ewc_12, ewc_2, ewc_3, ewc_4, ewc_5, ewc_6, ewc_7, ewc_8, ewc_9, lwc_0, lwc_1, lwc_2, lwc_3, lwc_4, lwc_5, lwc_6, lwc_7, lwc_8, lwc_9, lwc_10, lwc_11, lwc_12, gwc_12_2, gwc_12_5, gwc_3_3, gwc_3_8, gwc_9_14, gwc_9_4, gwc_9_9, agd_none, gdAt, gdV_bool, gdV_undef, Try.f3, List.append_eq, List.cons_append, List.nil_append, apure_call1, apure_call2, apure_call3, bft, btf, acodeN, List.getElem?_toArray, List.getElem?_cons_zero, List.getElem?_cons_succ, aopsN, adrawT, cls, astep, aop, afloat, ev, nth_lst, get_lst, aput, setAt_lst, upd_at, init_zero, init_succ, init_nil, Nat.reduceLT, Nat.reduceEqDiff, reduceIte, abuiltin, alen, Option.map_some, Option.map_none, orElse_some, apure_add, apure_eqlV, eqlVal_str, eqlVal_bool, eqlVal_ptr, eqlVal_slice, eqlVal_int, allT, ↓aop_eqlV, apure_neq, List.map_cons, List.map_nil, List.all_cons, List.all_nil, lit2, lit1, lit0, List.isEmpty_nil, Bool.and_self, Bool.and_true, Bool.true_and, Bool.false_and, Bool.and_false, Bool.not_true, Bool.not_false, Bool.or_true, Bool.true_or, Bool.false_or, Bool.or_false, Bool.false_eq_true, if_true, if_false, List.length_map, beq_self_eq_true, und3, und4, und5, und9, callAw11, hAw, gtr64', q1, z0, q3, lenI, lenS, undIS, undSS, finish, ares, aresL, ares1]
            exact ⟨_, rfl⟩
          · rw [List.length_map] at hv
            subst hv
            simp only [List.length_map, ewc_0, ewc_1, ewc_10, ewc_11, ewc_12, ewc_2, ewc_3, ewc_4, ewc_5, ewc_6, ewc_7, ewc_8, ewc_9, lwc_0, lwc_1, lwc_2, lwc_3, lwc_4, lwc_5, lwc_6, lwc_7, lwc_8, lwc_9, lwc_10, lwc_11, lwc_12, gwc_12_2, gwc_12_5, gwc_3_3, gwc_3_8, gwc_9_14, gwc_9_4, gwc_9_9, agd_none, gdAt, gdV_bool, gdV_undef, Try.f3, List.append_eq, List.cons_append, List.nil_append, apure_call1, apure_call2, apure_call3, bft, btf, acodeN, List.getElem?_toArray, List.getElem?_cons_zero, List.getElem?_cons_succ, aopsN, adrawT, cls, astep, aop, afloat, ev, nth_lst, get_lst, aput, setAt_lst, upd_at, init_zero, init_succ, init_nil, Nat.reduceLT, Nat.reduceEqDiff, reduceIte, abuiltin, alen, Option.map_some, Option.map_none, orElse_some, apure_add, apure_eqlV, eqlVal_str, eqlVal_bool, eqlVal_ptr, eqlVal_slice, eqlVal_int, allT, ↓aop_eqlV, apure_neq, List.map_cons, List.map_nil, List.all_cons, List.all_nil, lit2, lit1, lit0, List.isEmpty_nil, Bool.and_self, Bool.and_true, Bool.true_and, Bool.false_and, Bool.and_false, Bool.not_true, Bool.not_false, Bool.or_true, Bool.true_or, Bool.false_or, Bool.or_false, Bool.false_eq_true, if_true, if_false, List.length_map, beq_self_eq_true, und3, und4, und5, und9, callAw11, hAw, gtr64', q1, q2, q3, lenI, lenS, undIS, undSS, finish, ares, aresL, ares1]
            exact ⟨_, rfl⟩
    · have q2 : decide (((szs.length : Nat) : Int) > 20) = true := decide_eq_true (by omega)
      generalize hR : (Code.seq (.region 5 rwc_5 false) (.seq (.region 6 rwc_6 false) (.seq (.region 7 rwc_7 false) (.seq (.region 8 rwc_8 false) (.seq (.seq (.region 9 rwc_9 false) (.cond (.tmp 74) (.seq (.region 10 rwc_10 false) .ret) .skip)) (.seq (.region 11 rwc_11 false) (.seq (.region 12 rwc_12 false) .ret))))))) = R
      rcases hs with ⟨hz, rfl⟩ | ⟨b0, o0, c0, hv, hs⟩
      · have : szs = [] := by simpa using hz
        subst this
        simp at g2
      · rw [List.length_map] at hv
        subst hv
        simp only [List.length_map, ewc_0, ewc_1, ewc_10, ewc_11, ewc_12, ewc_2, ewc_3, ewc_4, ewc_5, ewc_6, ewc_7, ewc_8, ewc_9, lwc_0, lwc_1, lwc_2, lwc_3, lwc_4, lwc_5, lwc_6, lwc_7, lwc_8, lwc_9, lwc_10, lwc_11, lwc_12, gwc_12_2, gwc_12_5, gwc_3_3, gwc_3_8, gwc_9_14, gwc_9_4, gwc_9_9, agd_none, gdAt, gdV_bool, gdV_undef, Try.f3, List.append_eq, List.cons_append, List.nil_append, apure_call1, apure_call2, apure_call3, bft, btf, acodeN, List.getElem?_toArray, List.getElem?_cons_zero, List.getElem?_cons_succ, aopsN, adrawT, cls, astep, aop, afloat, ev, nth_lst, get_lst, aput, setAt_lst, upd_at, init_zero, init_succ, init_nil, Nat.reduceLT, Nat.reduceEqDiff, reduceIte, abuiltin, alen, Option.map_some, Option.map_none, orElse_some, apure_add, apure_eqlV, eqlVal_str, eqlVal_bool, eqlVal_ptr, eqlVal_slice, eqlVal_int, allT, ↓aop_eqlV, apure_neq, List.map_cons, List.map_nil, List.all_cons, List.all_nil, lit2, lit1, lit0, List.isEmpty_nil, Bool.and_self, Bool.and_true, Bool.true_and, Bool.false_and, Bool.and_false, Bool.not_true, Bool.not_false, Bool.or_true, Bool.true_or, Bool.false_or, Bool.or_false, Bool.false_eq_true, if_true, if_false, List.length_map, beq_self_eq_true, und3, und4, und5, und9, callAw11, hAw, gtr64', q1, q2, undIS, undSS, finish, ares, aresL, ares1]
        exact ⟨_, rfl⟩
  · have q1 : decide (((s.data.toList.length : Nat) : Int) > 1000) = true := decide_eq_true (by omega)
    generalize hR : (Code.seq (.region 5 rwc_5 false) (.seq (.region 6 rwc_6 false) (.seq (.region 7 rwc_7 false) (.seq (.region 8 rwc_8 false) (.seq (.seq (.region 9 rwc_9 false) (.cond (.tmp 74) (.seq (.region 10 rwc_10 false) .ret) .skip)) (.seq (.region 11 rwc_11 false) (.seq (.region 12 rwc_12 false) .ret))))))) = R
    simp only [ewc_0, ewc_1, ewc_10, ewc_11, ewc_12, ewc_2, ewc_3, ewc_4, ewc_5, ewc_6, ewc_7, ewc_8, ewc_9, lwc_0, lwc_1, lwc_2, lwc_3, lwc_4, lwc_5, lwc_6, lwc_7, lwc_8, lwc_9, lwc_10, lwc_11, lwc_12, gwc_12_2, gwc_12_5, gwc_3_3, gwc_3_8, gwc_9_14, gwc_9_4, gwc_9_9, agd_none, gdAt, gdV_bool, gdV_undef, Try.f3, List.append_eq, List.cons_append, List.nil_append, apure_call1, apure_call2, apure_call3, bft, btf, acodeN, List.getElem?_toArray, List.getElem?_cons_zero, List.getElem?_cons_succ, aopsN, adrawT, cls, astep, aop, afloat, ev, nth_lst, get_lst, aput, setAt_lst, upd_at, init_zero, init_succ, init_nil, Nat.reduceLT, Nat.reduceEqDiff, reduceIte, abuiltin, alen, Option.map_some, Option.map_none, orElse_some, apure_add, apure_eqlV, eqlVal_str, eqlVal_bool, eqlVal_ptr, eqlVal_slice, eqlVal_int, allT, ↓aop_eqlV, apure_neq, List.map_cons, List.map_nil, List.all_cons, List.all_nil, lit2, lit1, lit0, List.isEmpty_nil, Bool.and_self, Bool.and_true, Bool.true_and, Bool.false_and, Bool.and_false, Bool.not_true, Bool.not_false, Bool.or_true, Bool.true_or, Bool.false_or, Bool.or_false, Bool.false_eq_true, if_true, if_false, List.length_map, beq_self_eq_true, und3, und4, und5, und9, callAw11, hAw, gtr64', q1, finish, ares, aresL, ares1]
    exact ⟨_, rfl⟩
end Go.Am.Seat

/-
  The document's calls of layer 11, as calls (own work).
-/
set_option linter.unusedSimpArgs false
set_option linter.unusedVariables false
namespace Go.Am.Seat
open Go.Proofs Go.Am
set_option maxRecDepth 100000

theorem runQ_body {M : Mem} {n : Nat} {f : FuncId} {args : List Value} {m : Mem} {r : Value × Mem} (h : abody E (runQ E M [] n).1 (n + 1) f args m = some r) : (runQ E M [] (n + 1)).1 f args m = some r := by
  simp only [runQ, hasF, Bool.false_and, h]

theorem RS.lit {m : Mem} {v : Value} {l : List Value} (h : RS m v l) (hl : lit2 v = true) : l = [] ∧ v = .slice none 0 0 := by
  rcases h with h | ⟨b, o, c, rfl, _⟩
  · exact h
  · simp [lit2, lit1, lit0] at hl
theorem RS.sealed {m : Mem} {v : Value} {l : List Value} (h : RS m v l) : RS (m.map sealed) v l := by
  rcases h with h | ⟨b, o, c, rfl, h⟩
  · exact .inl h
  · exact .inr ⟨b, o, c, rfl, fun i x hx => by rw [cellS]; exact h i x hx⟩

/-- A call whose answer leads nowhere leaves the memory as it was. -/
theorem ainv_plain {self : Self} {g : FuncId} {args : List Value} {m : Mem} {v : Value} (hf : E.fast g = none) (hw : E.wr g = false) (hv : lit2 v = true)
    (h : ∀ M : Mem, (args.all lit2 = true ∨ M = m.map sealed) → ∃ M', self g args M = some (v, M')) : ainv E self g args m = some (v, m) := by
  unfold ainv
  by_cases ha : args.all lit2 = true
  · rw [if_pos ha, hf]
    obtain ⟨M', h1⟩ := h ((m.take E.G).map onlyTab) (.inl ha)
    simp only [h1]
    unfold acoll
    rw [if_pos hv]
  · rw [if_neg ha, hw]
    simp only [Bool.false_eq_true, if_false]
    obtain ⟨M', h1⟩ := h (m.map sealed) (.inr rfl)
    simp only [h1]
    unfold acoll
    rw [if_pos hv]

/-- A pair of a new row and a number. -/
theorem acoll_pair {m m1 : Mem} {n b k c : Nat} {ro : Bool} {e : TypeId} {cs : List Value} {kd : IntKind} {z : Int} (hb : n ≤ b) (hm : m1[b]? = some (.row ro e cs)) (hc : cs.all lit0 = true) :
    acoll m n (.tuple ⟨[.slice (some ⟨b, 0, none⟩) k c, .int kd z]⟩) m1 = some (.tuple ⟨[.slice (some ⟨m.length, 0, none⟩) k c, .int kd z]⟩, m ++ [.row ro e cs]) := by
  have hnb : ¬ b < n := by omega
  unfold acoll
  rw [if_neg (by simp [lit2, lit1, lit0])]
  have h1 : idsL n (partsOf (.tuple ⟨[.slice (some ⟨b, 0, none⟩) k c, .int kd z]⟩)) [] = [b] := by
    show idsL n [.int kd z] (addIds (idOf n (.slice (some ⟨b, 0, none⟩) k c)) []) = [b]
    have e2 : addIds (idOf n (.slice (some ⟨b, 0, none⟩) k c)) [] = [b] := by simp [idOf, hnb, addIds]
    rw [e2]
    rfl
  have h2 : closeIds n m1 2 [b] = [b] := by
    simp only [closeIds, List.foldl_cons, List.foldl_nil, hm, idsL_lit cs [b] hc]
  simp only [h1, h2]
  rw [if_pos (by simp [nodupB, hb])]
  have h3 : rid n m.length [b] b = some m.length := by
    unfold rid
    rw [if_neg hnb]
    simp [List.idxOf?]
  have h4 : ren2 n m.length [b] (.int kd z) = some (.int kd z) := rfl
  have h5 : ren2 n m.length [b] (.slice (some ⟨b, 0, none⟩) k c) = some (.slice (some ⟨m.length, 0, none⟩) k c) := by simp only [ren2, ren1, h3]
  simp only [renB, hm, renL_id cs hc, ren3, renT, h4, h5]

theorem lits_texts (l : List ByteArray) : (l.map Value.string).all lit0 = true := by
  rw [List.all_map, List.all_eq_true]
  intro x _
  rfl

theorem csplit_ref {n : Nat} (hn : 1000 ≤ n) : CSplit 8 (runQ E mem0 [] (n + 1)).1 := by
  intro m s szs vs hs hl1 hsl hw
  by_cases ha : lit2 vs = true
  · obtain ⟨h1, rfl⟩ := hs.lit ha
    have hz : szs = [] := by simpa using h1
    subst hz
    have hl : splitL s [] = [] := by
      unfold splitL
      split <;> rfl
    refine ⟨.slice none 0 0, m, ?_, by rw [hl]; exact .inl ⟨rfl, rfl⟩, Kept.refl m⟩
    refine ainv_plain (by kernel_rfl) (by kernel_rfl) rfl fun M _ => ?_
    obtain ⟨v, M', h2, h3, _⟩ := rsp_body (self := (runQ E mem0 [] n).1) (nf := n + 1) (m := M) (s := s) (szs := []) (vs := .slice none 0 0) (.inl ⟨rfl, rfl⟩) (by simp) (by omega) (by omega)
    rw [hl] at h3
    rcases h3 with ⟨_, rfl⟩ | ⟨_, _, _, _, h4⟩
    · exact ⟨M', runQ_body h2⟩
    · exact absurd rfl h4
  · obtain ⟨v, M', h2, h3, hle, hfr⟩ := rsp_body (self := (runQ E mem0 [] n).1) (nf := n + 1) (m := m.map sealed) (s := s) (szs := szs) (vs := vs) hs.sealed (by omega) (by omega) (by omega)
    have hself := runQ_body (M := mem0) h2
    have hall : ([Value.string s, vs].all lit2) = false := by
      simp only [List.all_cons, List.all_nil, Bool.and_true]
      have : lit2 vs = false := by simpa using ha
      rw [this]
      simp
    have hinv : ainv E (runQ E mem0 [] (n + 1)).1 8 [.string s, vs] m = acoll m (m.map sealed).length (.tuple ⟨[v, .int .i64 (splitE s szs : Nat)]⟩) M' := by
      unfold ainv
      rw [hall, show E.wr 8 = false from by kernel_rfl]
      simp only [Bool.false_eq_true, if_false, hself]
    rcases h3 with ⟨h4, rfl⟩ | ⟨b, hb, rfl, h4, h5⟩
    · refine ⟨.slice none 0 0, m, ?_, by rw [h4]; exact .inl ⟨rfl, rfl⟩, Kept.refl m⟩
      rw [hinv]
      unfold acoll
      exact if_pos rfl
    · refine ⟨_, _, by rw [hinv]; exact acoll_pair hb h4 (lits_texts _), .inr ⟨m.length, 0, _, rfl, fun i x hx => ?_⟩, Kept.app _ _⟩
      have hm : (m ++ [Blk.row false 9 ((splitL s szs).map Value.string)])[m.length]? = some (.row false 9 ((splitL s szs).map Value.string)) := by simp
      rw [cellAt_row hm, Nat.zero_add]
      exact hx

theorem cjoin_ref {n : Nat} (hn : 1000 ≤ n) : CJoin 10 (runQ E mem0 [] (n + 1)).1 := by
  intro m szs ps vs vp hs hp hl1 hl2 hcat hw _
  refine ainv_plain (by kernel_rfl) (by kernel_rfl) rfl fun M hM => ⟨M, runQ_body ?_⟩
  have hs' : RS M vs (szs.map (Value.int .i64)) := by
    rcases hM with h | rfl
    · simp only [List.all_cons, List.all_nil, Bool.and_true, Bool.and_eq_true] at h
      exact .inl (hs.lit h.1)
    · exact hs.sealed
  have hp' : RS M vp (ps.map Value.string) := by
    rcases hM with h | rfl
    · simp only [List.all_cons, List.all_nil, Bool.and_true, Bool.and_eq_true] at h
      exact .inl (hp.lit h.2)
    · exact hp.sealed
  exact rjn_body hs' hp' (by omega) (by omega) (by omega) (by omega)

theorem calike {n : Nat} (hn : 1000 ≤ n) : CAlike 11 (runQ E mem0 [] (n + 1)).1 := by
  intro m la lb va vb hs hp hl1 hl2
  refine ainv_plain (by kernel_rfl) (by kernel_rfl) rfl fun M hM => ⟨M, runQ_body ?_⟩
  have hs' : RS M va (la.map Value.string) := by
    rcases hM with h | rfl
    · simp only [List.all_cons, List.all_nil, Bool.and_true, Bool.and_eq_true] at h
      exact .inl (hs.lit h.1)
    · exact hs.sealed
  have hp' : RS M vb (lb.map Value.string) := by
    rcases hM with h | rfl
    · simp only [List.all_cons, List.all_nil, Bool.and_true, Bool.and_eq_true] at h
      exact .inl (hp.lit h.2)
    · exact hp.sealed
  exact seq_body hs' hp' (by omega) (by omega) (by omega)
end Go.Am.Seat

/-
  WireWrites: what is put together, and the law over what its calls answer (own work).
-/
set_option linter.unusedSimpArgs false
set_option linter.unusedVariables false
namespace Go.Am.Seat
open Go.Proofs Go.Am
set_option maxRecDepth 100000

/-- The memory begins with what is laid. -/
def Tabs (M : Mem) : Prop := (M.take E.G).map onlyTab = mem0
theorem Tabs.sealed {M : Mem} (h : Tabs M) : Tabs (M.map sealed) := by unfold Tabs; rw [sealed_tabs]; exact h
theorem tabs0 : Tabs mem0 := by unfold Tabs; kernel_rfl
theorem Tabs.keep {M M' : Mem} (h : Tabs M) (hl : E.G ≤ M.length) (hk : Kept M M') : Tabs M' := by
  have e : M'.take E.G = M.take E.G := by
    apply List.ext_getElem?
    intro i
    rw [List.getElem?_take, List.getElem?_take]
    split
    · rw [hk.2 i (by omega)]
    · rfl
  unfold Tabs at *
  rw [e]
  exact h

theorem tabs_app (l : Mem) : Tabs (mem0 ++ l) := tabs0.keep (Nat.le_of_ble_eq_true (by kernel_rfl)) (Kept.app _ _)
theorem concat63 (s0 s1 s2 s3 s4 s5 s6 s7 s8 : ByteArray) : ainv E (runQ E mem0 [] 2000).1 14 [.slice (some ⟨1 + 4, 0, none⟩) 2 2] (mem0 ++ [.row false 42 [.string s0, .string s1, .string s2, .string s3, .string s4, .string s5], .row false 44 [.string s6, .string s7, .string s8], .row false 9 [.string s0, .string s1, .string s2, .string s3, .string s4, .string s5], .row false 9 [.string s6, .string s7, .string s8], .row false 23 [.slice (some ⟨1 + 2, 0, none⟩) 6 6, .slice (some ⟨1 + 3, 0, none⟩) 3 3]]) =
    some (.slice (some ⟨1 + 5, 0, none⟩) 9 9, mem0 ++ [.row false 42 [.string s0, .string s1, .string s2, .string s3, .string s4, .string s5], .row false 44 [.string s6, .string s7, .string s8], .row false 9 [.string s0, .string s1, .string s2, .string s3, .string s4, .string s5], .row false 9 [.string s6, .string s7, .string s8], .row false 23 [.slice (some ⟨1 + 2, 0, none⟩) 6 6, .slice (some ⟨1 + 3, 0, none⟩) 3 3], .row false 9 [.string s0, .string s1, .string s2, .string s3, .string s4, .string s5, .string s6, .string s7, .string s8]]) := by kernel_rfl
theorem sizes4r (s0 s1 s2 s3 s4 s5 s6 s7 s8 : ByteArray) : ainv E (runQ E mem0 [] 2000).1 13 [.int .i64 4] (mem0 ++ [.row false 42 [.string s0, .string s1, .string s2, .string s3, .string s4, .string s5], .row false 44 [.string s6, .string s7, .string s8], .row false 9 [.string s0, .string s1, .string s2, .string s3, .string s4, .string s5], .row false 9 [.string s6, .string s7, .string s8], .row false 23 [.slice (some ⟨1 + 2, 0, none⟩) 6 6, .slice (some ⟨1 + 3, 0, none⟩) 3 3], .row false 9 [.string s0, .string s1, .string s2, .string s3, .string s4, .string s5, .string s6, .string s7, .string s8]]) = some (.slice (some ⟨1 + 6, 0, none⟩) 6 6, mem0 ++ [.row false 42 [.string s0, .string s1, .string s2, .string s3, .string s4, .string s5], .row false 44 [.string s6, .string s7, .string s8], .row false 9 [.string s0, .string s1, .string s2, .string s3, .string s4, .string s5], .row false 9 [.string s6, .string s7, .string s8], .row false 23 [.slice (some ⟨1 + 2, 0, none⟩) 6 6, .slice (some ⟨1 + 3, 0, none⟩) 3 3], .row false 9 [.string s0, .string s1, .string s2, .string s3, .string s4, .string s5, .string s6, .string s7, .string s8], .row false 3 [.int .i64 32, .int .i64 32, .int .i64 128, .int .i64 32, .int .i64 32, .int .i64 64]]) := by kernel_rfl
theorem sizes2r (s0 s1 s2 s3 s4 s5 s6 s7 s8 : ByteArray) : ainv E (runQ E mem0 [] 2000).1 13 [.int .i64 2] (mem0 ++ [.row false 42 [.string s0, .string s1, .string s2, .string s3, .string s4, .string s5], .row false 44 [.string s6, .string s7, .string s8], .row false 9 [.string s0, .string s1, .string s2, .string s3, .string s4, .string s5], .row false 9 [.string s6, .string s7, .string s8], .row false 23 [.slice (some ⟨1 + 2, 0, none⟩) 6 6, .slice (some ⟨1 + 3, 0, none⟩) 3 3], .row false 9 [.string s0, .string s1, .string s2, .string s3, .string s4, .string s5, .string s6, .string s7, .string s8], .row false 3 [.int .i64 32, .int .i64 32, .int .i64 128, .int .i64 32, .int .i64 32, .int .i64 64]]) = some (.slice (some ⟨1 + 7, 0, none⟩) 3 3, mem0 ++ [.row false 42 [.string s0, .string s1, .string s2, .string s3, .string s4, .string s5], .row false 44 [.string s6, .string s7, .string s8], .row false 9 [.string s0, .string s1, .string s2, .string s3, .string s4, .string s5], .row false 9 [.string s6, .string s7, .string s8], .row false 23 [.slice (some ⟨1 + 2, 0, none⟩) 6 6, .slice (some ⟨1 + 3, 0, none⟩) 3 3], .row false 9 [.string s0, .string s1, .string s2, .string s3, .string s4, .string s5, .string s6, .string s7, .string s8], .row false 3 [.int .i64 32, .int .i64 32, .int .i64 128, .int .i64 32, .int .i64 32, .int .i64 64], .row false 3 [.int .i64 32, .int .i64 64, .int .i64 96]]) := by kernel_rfl

theorem RS.row {m : Mem} {b c : Nat} {ro : Bool} {e : TypeId} {cs : List Value} (h : m[b]? = some (.row ro e cs)) : RS m (.slice (some ⟨b, 0, none⟩) cs.length c) cs :=
  .inr ⟨b, 0, c, rfl, fun i x hx => by rw [cellAt_row h, Nat.zero_add]; exact hx⟩

/-- A call that tells a message's bytes. -/
def CBytes (f : FuncId) (szs : List Int) (self : Self) : Prop := ∀ (m : Mem) (ps : List ByteArray), Tabs m → ps.length = szs.length → (∀ s ∈ ps, s.size ≤ 1000) → ainv E self f [.agg ⟨ps.map Value.string⟩] m = some (.tuple ⟨[.string (joinS szs ps), .int .i64 (joinE szs ps : Nat)]⟩, m)
def CAnswer (f : FuncId) (self : Self) : Prop := ∀ (m : Mem) (a b c d e g : ByteArray), Tabs m → (∀ s ∈ [a, b, c, d, e, g], s.size ≤ 1000) → ainv E self f [.agg ⟨[.string a, .string b, .string c, .string d, .string e, .string g]⟩] m = some (.string (a ++ b ++ c), m)
abbrev szKE2 : List Int := [32, 32, 128, 32, 32, 64]
abbrev szRecord : List Int := [32, 64, 96]

noncomputable def rww_0 : Array Oper := match Try.f5.body with
  | some (.seq (.region _ o _) _) => o
  | _ => #[]
noncomputable def lww_0 : List Oper := match Try.f5.body with
  | some (.seq (.region _ o _) _) => o.toList
  | _ => []
theorem eww_0 : rww_0.toList = lww_0 := rfl
noncomputable def rww_1 : Array Oper := match Try.f5.body with
  | some (.seq _ (.seq (.seq (.region _ o _) _) _)) => o
  | _ => #[]
noncomputable def lww_1 : List Oper := match Try.f5.body with
  | some (.seq _ (.seq (.seq (.region _ o _) _) _)) => o.toList
  | _ => []
theorem eww_1 : rww_1.toList = lww_1 := rfl
noncomputable def rww_2 : Array Oper := match Try.f5.body with
  | some (.seq _ (.seq (.seq _ (.cond _ (.seq (.region _ o _) _) _)) _)) => o
  | _ => #[]
noncomputable def lww_2 : List Oper := match Try.f5.body with
  | some (.seq _ (.seq (.seq _ (.cond _ (.seq (.region _ o _) _) _)) _)) => o.toList
  | _ => []
theorem eww_2 : rww_2.toList = lww_2 := rfl
noncomputable def rww_3 : Array Oper := match Try.f5.body with
  | some (.seq _ (.seq _ (.seq (.region _ o _) _))) => o
  | _ => #[]
noncomputable def lww_3 : List Oper := match Try.f5.body with
  | some (.seq _ (.seq _ (.seq (.region _ o _) _))) => o.toList
  | _ => []
theorem eww_3 : rww_3.toList = lww_3 := rfl
noncomputable def rww_4 : Array Oper := match Try.f5.body with
  | some (.seq _ (.seq _ (.seq _ (.seq (.region _ o _) _)))) => o
  | _ => #[]
noncomputable def lww_4 : List Oper := match Try.f5.body with
  | some (.seq _ (.seq _ (.seq _ (.seq (.region _ o _) _)))) => o.toList
  | _ => []
theorem eww_4 : rww_4.toList = lww_4 := rfl
noncomputable def rww_5 : Array Oper := match Try.f5.body with
  | some (.seq _ (.seq _ (.seq _ (.seq _ (.seq (.seq (.region _ o _) _) _))))) => o
  | _ => #[]
noncomputable def lww_5 : List Oper := match Try.f5.body with
  | some (.seq _ (.seq _ (.seq _ (.seq _ (.seq (.seq (.region _ o _) _) _))))) => o.toList
  | _ => []
theorem eww_5 : rww_5.toList = lww_5 := rfl
noncomputable def lpww_0 : Code := match Try.f5.body with
  | some (.seq _ (.seq _ (.seq _ (.seq _ (.seq (.seq _ (.block _ (.loop c))) _))))) => c
  | _ => .skip
noncomputable def rww_6 : Array Oper := match Try.f5.body with
  | some (.seq _ (.seq _ (.seq _ (.seq _ (.seq (.seq _ (.block _ (.loop (.seq (.region _ o _) _)))) _))))) => o
  | _ => #[]
noncomputable def lww_6 : List Oper := match Try.f5.body with
  | some (.seq _ (.seq _ (.seq _ (.seq _ (.seq (.seq _ (.block _ (.loop (.seq (.region _ o _) _)))) _))))) => o.toList
  | _ => []
theorem eww_6 : rww_6.toList = lww_6 := rfl
noncomputable def rww_7 : Array Oper := match Try.f5.body with
  | some (.seq _ (.seq _ (.seq _ (.seq _ (.seq (.seq _ (.block _ (.loop (.seq _ (.seq _ (.seq (.block _ (.seq (.region _ o _) _)) _)))))) _))))) => o
  | _ => #[]
noncomputable def lww_7 : List Oper := match Try.f5.body with
  | some (.seq _ (.seq _ (.seq _ (.seq _ (.seq (.seq _ (.block _ (.loop (.seq _ (.seq _ (.seq (.block _ (.seq (.region _ o _) _)) _)))))) _))))) => o.toList
  | _ => []
theorem eww_7 : rww_7.toList = lww_7 := rfl
noncomputable def rww_8 : Array Oper := match Try.f5.body with
  | some (.seq _ (.seq _ (.seq _ (.seq _ (.seq (.seq _ (.block _ (.loop (.seq _ (.seq _ (.seq (.block _ (.seq _ (.seq (.region _ o _) _))) _)))))) _))))) => o
  | _ => #[]
noncomputable def lww_8 : List Oper := match Try.f5.body with
  | some (.seq _ (.seq _ (.seq _ (.seq _ (.seq (.seq _ (.block _ (.loop (.seq _ (.seq _ (.seq (.block _ (.seq _ (.seq (.region _ o _) _))) _)))))) _))))) => o.toList
  | _ => []
theorem eww_8 : rww_8.toList = lww_8 := rfl
noncomputable def rww_9 : Array Oper := match Try.f5.body with
  | some (.seq _ (.seq _ (.seq _ (.seq _ (.seq (.seq _ (.block _ (.loop (.seq _ (.seq _ (.seq (.block _ (.seq _ (.seq _ (.cond _ (.seq (.region _ o _) _) _)))) _)))))) _))))) => o
  | _ => #[]
noncomputable def lww_9 : List Oper := match Try.f5.body with
  | some (.seq _ (.seq _ (.seq _ (.seq _ (.seq (.seq _ (.block _ (.loop (.seq _ (.seq _ (.seq (.block _ (.seq _ (.seq _ (.cond _ (.seq (.region _ o _) _) _)))) _)))))) _))))) => o.toList
  | _ => []
theorem eww_9 : rww_9.toList = lww_9 := rfl
noncomputable def rww_10 : Array Oper := match Try.f5.body with
  | some (.seq _ (.seq _ (.seq _ (.seq _ (.seq (.seq _ (.block _ (.loop (.seq _ (.seq _ (.seq _ (.region _ o _))))))) _))))) => o
  | _ => #[]
noncomputable def lww_10 : List Oper := match Try.f5.body with
  | some (.seq _ (.seq _ (.seq _ (.seq _ (.seq (.seq _ (.block _ (.loop (.seq _ (.seq _ (.seq _ (.region _ o _))))))) _))))) => o.toList
  | _ => []
theorem eww_10 : rww_10.toList = lww_10 := rfl
theorem lpww_0_eq : lpww_0 = (.seq (.region 6 rww_6 false) (.seq (.cond (.tmp 45) .skip (.exit 0)) (.seq (.block 1 (.seq (.region 7 rww_7 false) (.seq (.region 8 rww_8 false) (.cond (.tmp 50) (.seq (.region 9 rww_9 false) .ret) .skip)))) (.region 10 rww_10 false)))) := rfl
noncomputable def rww_11 : Array Oper := match Try.f5.body with
  | some (.seq _ (.seq _ (.seq _ (.seq _ (.seq _ (.seq (.region _ o _) _)))))) => o
  | _ => #[]
noncomputable def lww_11 : List Oper := match Try.f5.body with
  | some (.seq _ (.seq _ (.seq _ (.seq _ (.seq _ (.seq (.region _ o _) _)))))) => o.toList
  | _ => []
theorem eww_11 : rww_11.toList = lww_11 := rfl
noncomputable def rww_12 : Array Oper := match Try.f5.body with
  | some (.seq _ (.seq _ (.seq _ (.seq _ (.seq _ (.seq _ (.seq (.region _ o _) _))))))) => o
  | _ => #[]
noncomputable def lww_12 : List Oper := match Try.f5.body with
  | some (.seq _ (.seq _ (.seq _ (.seq _ (.seq _ (.seq _ (.seq (.region _ o _) _))))))) => o.toList
  | _ => []
theorem eww_12 : rww_12.toList = lww_12 := rfl
noncomputable def rww_13 : Array Oper := match Try.f5.body with
  | some (.seq _ (.seq _ (.seq _ (.seq _ (.seq _ (.seq _ (.seq _ (.seq (.region _ o _) _)))))))) => o
  | _ => #[]
noncomputable def lww_13 : List Oper := match Try.f5.body with
  | some (.seq _ (.seq _ (.seq _ (.seq _ (.seq _ (.seq _ (.seq _ (.seq (.region _ o _) _)))))))) => o.toList
  | _ => []
theorem eww_13 : rww_13.toList = lww_13 := rfl
noncomputable def rww_14 : Array Oper := match Try.f5.body with
  | some (.seq _ (.seq _ (.seq _ (.seq _ (.seq _ (.seq _ (.seq _ (.seq _ (.seq (.region _ o _) _))))))))) => o
  | _ => #[]
noncomputable def lww_14 : List Oper := match Try.f5.body with
  | some (.seq _ (.seq _ (.seq _ (.seq _ (.seq _ (.seq _ (.seq _ (.seq _ (.seq (.region _ o _) _))))))))) => o.toList
  | _ => []
theorem eww_14 : rww_14.toList = lww_14 := rfl
noncomputable def rww_15 : Array Oper := match Try.f5.body with
  | some (.seq _ (.seq _ (.seq _ (.seq _ (.seq _ (.seq _ (.seq _ (.seq _ (.seq _ (.seq (.region _ o _) _)))))))))) => o
  | _ => #[]
noncomputable def lww_15 : List Oper := match Try.f5.body with
  | some (.seq _ (.seq _ (.seq _ (.seq _ (.seq _ (.seq _ (.seq _ (.seq _ (.seq _ (.seq (.region _ o _) _)))))))))) => o.toList
  | _ => []
theorem eww_15 : rww_15.toList = lww_15 := rfl
theorem gww_15_3 {T : List Value} {dd : Option Tmp} {op : Op} {ty : TypeId} {pos : String} {af : Array Edge} {want : Bool} : agd rww_15 T { dst := dd, op := op, type := ty, pos := pos, after := af, guard := some (3, want) } = gdAt T 77 want := agd_at (by kernel_rfl)
theorem gww_15_8 {T : List Value} {dd : Option Tmp} {op : Op} {ty : TypeId} {pos : String} {af : Array Edge} {want : Bool} : agd rww_15 T { dst := dd, op := op, type := ty, pos := pos, after := af, guard := some (8, want) } = gdAt T 82 want := agd_at (by kernel_rfl)
theorem gww_15_13 {T : List Value} {dd : Option Tmp} {op : Op} {ty : TypeId} {pos : String} {af : Array Edge} {want : Bool} : agd rww_15 T { dst := dd, op := op, type := ty, pos := pos, after := af, guard := some (13, want) } = gdAt T 87 want := agd_at (by kernel_rfl)
theorem gww_15_18 {T : List Value} {dd : Option Tmp} {op : Op} {ty : TypeId} {pos : String} {af : Array Edge} {want : Bool} : agd rww_15 T { dst := dd, op := op, type := ty, pos := pos, after := af, guard := some (18, want) } = gdAt T 92 want := agd_at (by kernel_rfl)
theorem dww_15 {self : Self} {B : Nat} {T : List Value} {m : Mem} {lb : List (Nat × Nat)} {ls : Bool} : adrawN E self rww_15 B rww_15.toList 0 T m lb ls = adrawT E self rww_15 B rww_15.toList [(false, false), (false, false), (false, false), (false, false), (false, false), (false, false), (false, false), (false, false), (false, false), (false, false), (false, false), (false, false), (false, false), (false, false), (false, false), (false, false), (false, false), (false, false), (false, false), (false, false), (false, false), (false, false), (false, false), (false, false), (false, false), (false, false), (false, false), (false, false), (false, false), (false, false), (false, false), (false, false)] 0 T m lb ls := adraw_tab (by kernel_rfl)
theorem sww_15 : E.sr 15 rww_15 = false := by kernel_rfl
theorem bodyww : Try.f5.body = some (.seq (.region 0 rww_0 false) (.seq (.seq (.region 1 rww_1 false) (.cond (.tmp 18) (.seq (.region 2 rww_2 false) .ret) .skip)) (.seq (.region 3 rww_3 false) (.seq (.region 4 rww_4 false) (.seq (.seq (.region 5 rww_5 false) (.block 0 (.loop lpww_0))) (.seq (.region 11 rww_11 false) (.seq (.region 12 rww_12 false) (.seq (.region 13 rww_13 false) (.seq (.region 14 rww_14 false) (.seq (.region 15 rww_15 true) .ret)))))))))) := rfl
-- ntmps 105

section
variable {self : Self} {nf : Nat} {m : Mem} {F : Nat → Value} {b0 o0 c0 L i : Nat} {s : ByteArray}

theorem ww_iter (h42 : F 42 = .slice (some ⟨b0, o0, none⟩) L c0) (h43 : F 43 = .int .i64 (L : Nat)) (h44 : F 44 = .int .i64 (i : Nat)) (hi : i < L) (hL : L ≤ 1000000) (hx : cellAt m b0 (o0 + i) = some (.string s)) (hs : s.data.toList.length ≤ 300) :
    ∃ F', acodeN E self nf lpww_0 (lst F 105) m = some (.normal, lst F' 105, m) ∧ F' 2 = F 2 ∧ F' 3 = F 3 ∧ F' 5 = F 5 ∧ F' 6 = F 6 ∧ F' 42 = F 42 ∧ F' 43 = F 43 ∧ F' 44 = .int .i64 ((i + 1 : Nat) : Int) := by
  have hlt : decide (((i : Nat) : Int) < ((L : Nat) : Int)) = true := by simpa using hi
  have hq : decide (((s.data.toList.length : Nat) : Int) > 300) = false := decide_eq_false (by omega)
  have e1 := w1 (i := i) (by omega)
  simp only [lpww_0_eq, ↓dww_15, ↓sww_15, eww_0, eww_1, eww_10, eww_11, eww_12, eww_13, eww_14, eww_15, eww_2, eww_3, eww_4, eww_5, eww_6, eww_7, eww_8, eww_9, lww_0, lww_1, lww_2, lww_3, lww_4, lww_5, lww_6, lww_7, lww_8, lww_9, lww_10, lww_11, lww_12, lww_13, lww_14, lww_15, gww_15_13, gww_15_18, gww_15_3, gww_15_8, agd_none, gdAt, gdV_bool, gdV_undef, Try.f5, List.append_eq, List.cons_append, List.nil_append, apure_call1, apure_call2, apure_call3, bft, btf, acodeN, List.getElem?_toArray, List.getElem?_cons_zero, List.getElem?_cons_succ, aopsN, adrawT, cls, astep, aop, afloat, ev, nth_lst, get_lst, aput, setAt_lst, upd_at, init_zero, init_succ, init_nil, Nat.reduceLT, Nat.reduceEqDiff, reduceIte, abuiltin, alen, Option.map_some, Option.map_none, orElse_some, apure_add, apure_eqlV, eqlVal_str, eqlVal_bool, eqlVal_ptr, eqlVal_slice, eqlVal_int, allT, ↓aop_eqlV, apure_neq, List.map_cons, List.map_nil, List.all_cons, List.all_nil, lit2, lit1, lit0, List.isEmpty_nil, Bool.and_self, Bool.and_true, Bool.true_and, Bool.false_and, Bool.and_false, Bool.not_true, Bool.not_false, Bool.or_true, Bool.true_or, Bool.false_or, Bool.or_false, Bool.false_eq_true, if_true, if_false, List.length_map, beq_self_eq_true, und3, und4, und5, und9, h42, h43, h44, lss64, hlt, ixSS hi, ldS, hx, gtr64', hq, add64', e1]
  exact ⟨_, rfl, by simp only [upd_at, Nat.reduceEqDiff, reduceIte], by simp only [upd_at, Nat.reduceEqDiff, reduceIte], by simp only [upd_at, Nat.reduceEqDiff, reduceIte], by simp only [upd_at, Nat.reduceEqDiff, reduceIte], by simp only [upd_at, Nat.reduceEqDiff, reduceIte, h42], by simp only [upd_at, Nat.reduceEqDiff, reduceIte, h43], by simp only [upd_at, Nat.reduceEqDiff, reduceIte]⟩

theorem ww_long (h42 : F 42 = .slice (some ⟨b0, o0, none⟩) L c0) (h43 : F 43 = .int .i64 (L : Nat)) (h44 : F 44 = .int .i64 (i : Nat)) (hi : i < L) (hx : cellAt m b0 (o0 + i) = some (.string s)) (hs : ¬ s.data.toList.length ≤ 300) :
    ∃ F', acodeN E self nf lpww_0 (lst F 105) m = some (.ret, lst F' 105, m) ∧ F' 4 = .bool true := by
  have hlt : decide (((i : Nat) : Int) < ((L : Nat) : Int)) = true := by simpa using hi
  have hq : decide (((s.data.toList.length : Nat) : Int) > 300) = true := decide_eq_true (by omega)
  simp only [lpww_0_eq, ↓dww_15, ↓sww_15, eww_0, eww_1, eww_10, eww_11, eww_12, eww_13, eww_14, eww_15, eww_2, eww_3, eww_4, eww_5, eww_6, eww_7, eww_8, eww_9, lww_0, lww_1, lww_2, lww_3, lww_4, lww_5, lww_6, lww_7, lww_8, lww_9, lww_10, lww_11, lww_12, lww_13, lww_14, lww_15, gww_15_13, gww_15_18, gww_15_3, gww_15_8, agd_none, gdAt, gdV_bool, gdV_undef, Try.f5, List.append_eq, List.cons_append, List.nil_append, apure_call1, apure_call2, apure_call3, bft, btf, acodeN, List.getElem?_toArray, List.getElem?_cons_zero, List.getElem?_cons_succ, aopsN, adrawT, cls, astep, aop, afloat, ev, nth_lst, get_lst, aput, setAt_lst, upd_at, init_zero, init_succ, init_nil, Nat.reduceLT, Nat.reduceEqDiff, reduceIte, abuiltin, alen, Option.map_some, Option.map_none, orElse_some, apure_add, apure_eqlV, eqlVal_str, eqlVal_bool, eqlVal_ptr, eqlVal_slice, eqlVal_int, allT, ↓aop_eqlV, apure_neq, List.map_cons, List.map_nil, List.all_cons, List.all_nil, lit2, lit1, lit0, List.isEmpty_nil, Bool.and_self, Bool.and_true, Bool.true_and, Bool.false_and, Bool.and_false, Bool.not_true, Bool.not_false, Bool.or_true, Bool.true_or, Bool.false_or, Bool.or_false, Bool.false_eq_true, if_true, if_false, List.length_map, beq_self_eq_true, und3, und4, und5, und9, h42, h43, h44, lss64, hlt, ixSS hi, ldS, hx, gtr64', hq]
  exact ⟨_, rfl, by simp only [upd_at, Nat.reduceEqDiff, reduceIte]⟩

theorem ww_last (h43 : F 43 = .int .i64 (L : Nat)) (h44 : F 44 = .int .i64 (i : Nat)) (hi : L ≤ i) :
    ∃ F', acodeN E self nf lpww_0 (lst F 105) m = some (.exit 0, lst F' 105, m) ∧ F' 2 = F 2 ∧ F' 3 = F 3 ∧ F' 5 = F 5 ∧ F' 6 = F 6 := by
  have hlt : decide (((i : Nat) : Int) < ((L : Nat) : Int)) = false := by simpa using hi
  simp only [lpww_0_eq, ↓dww_15, ↓sww_15, eww_0, eww_1, eww_10, eww_11, eww_12, eww_13, eww_14, eww_15, eww_2, eww_3, eww_4, eww_5, eww_6, eww_7, eww_8, eww_9, lww_0, lww_1, lww_2, lww_3, lww_4, lww_5, lww_6, lww_7, lww_8, lww_9, lww_10, lww_11, lww_12, lww_13, lww_14, lww_15, gww_15_13, gww_15_18, gww_15_3, gww_15_8, agd_none, gdAt, gdV_bool, gdV_undef, Try.f5, List.append_eq, List.cons_append, List.nil_append, apure_call1, apure_call2, apure_call3, bft, btf, acodeN, List.getElem?_toArray, List.getElem?_cons_zero, List.getElem?_cons_succ, aopsN, adrawT, cls, astep, aop, afloat, ev, nth_lst, get_lst, aput, setAt_lst, upd_at, init_zero, init_succ, init_nil, Nat.reduceLT, Nat.reduceEqDiff, reduceIte, abuiltin, alen, Option.map_some, Option.map_none, orElse_some, apure_add, apure_eqlV, eqlVal_str, eqlVal_bool, eqlVal_ptr, eqlVal_slice, eqlVal_int, allT, ↓aop_eqlV, apure_neq, List.map_cons, List.map_nil, List.all_cons, List.all_nil, lit2, lit1, lit0, List.isEmpty_nil, Bool.and_self, Bool.and_true, Bool.true_and, Bool.false_and, Bool.and_false, Bool.not_true, Bool.not_false, Bool.or_true, Bool.true_or, Bool.false_or, Bool.or_false, Bool.false_eq_true, if_true, if_false, List.length_map, beq_self_eq_true, und3, und4, und5, und9, h43, h44, lss64, hlt]
  exact ⟨_, rfl, by simp only [upd_at, Nat.reduceEqDiff, reduceIte], by simp only [upd_at, Nat.reduceEqDiff, reduceIte], by simp only [upd_at, Nat.reduceEqDiff, reduceIte], by simp only [upd_at, Nat.reduceEqDiff, reduceIte]⟩
end

theorem ww_loop {self : Self} {nf : Nat} {m : Mem} {l : List ByteArray} {b0 o0 c0 : Nat} (hL : l.length ≤ 1000) (hnf : 1000 < nf) (hs : ∀ (i : Nat) (x : Value), (l.map Value.string)[i]? = some x → cellAt m b0 (o0 + i) = some x)
    {F : Nat → Value} (h42 : F 42 = .slice (some ⟨b0, o0, none⟩) l.length c0) (h43 : F 43 = .int .i64 (l.length : Nat)) (h44 : F 44 = .int .i64 (0 : Nat)) :
    ∃ e F', aloop (acodeN E self nf lpww_0) nf (lst F 105) m = some (e, lst F' 105, m) ∧ ((e = .exit 0 ∧ F' 2 = F 2 ∧ F' 3 = F 3 ∧ F' 5 = F 5 ∧ F' 6 = F 6 ∧ ∀ s ∈ l, s.data.toList.length ≤ 300) ∨ (e = .ret ∧ F' 4 = .bool true)) := by
  have hloop := aloop_inv (body := acodeN E self nf lpww_0) (N := l.length)
    (I := fun i T m' => ∃ G, T = lst G 105 ∧ m' = m ∧ G 2 = F 2 ∧ G 3 = F 3 ∧ G 5 = F 5 ∧ G 6 = F 6 ∧ G 42 = .slice (some ⟨b0, o0, none⟩) l.length c0 ∧ G 43 = .int .i64 (l.length : Nat) ∧ G 44 = .int .i64 (i : Nat) ∧ ∀ (j : Nat) (s : ByteArray), j < i → l[j]? = some s → s.data.toList.length ≤ 300)
    (Q := fun e T m' => ∃ F', T = lst F' 105 ∧ m' = m ∧ ((e = .exit 0 ∧ F' 2 = F 2 ∧ F' 3 = F 3 ∧ F' 5 = F 5 ∧ F' 6 = F 6 ∧ ∀ s ∈ l, s.data.toList.length ≤ 300) ∨ (e = .ret ∧ F' 4 = .bool true))) (fun i T m' hi hI => by
      obtain ⟨G, rfl, rfl, g2, g3, g5, g6, g42, g43, g44, gall⟩ := hI
      by_cases hlt : i < l.length
      · have hpi : l[i]? = some l[i] := by simp [hlt]
        have hx := hs i (.string l[i]) (by rw [List.getElem?_map, hpi]; rfl)
        by_cases hn : l[i].data.toList.length ≤ 300
        · left
          obtain ⟨F', hr, f2, f3, f5, f6, f42, f43, f44⟩ := ww_iter (self := self) (nf := nf) g42 g43 g44 hlt (by omega) hx hn
          refine ⟨_, _, hr, hlt, F', rfl, rfl, f2.trans g2, f3.trans g3, f5.trans g5, f6.trans g6, f42.trans g42, f43.trans g43, f44, fun j s hj h1 => ?_⟩
          by_cases hji : j < i
          · exact gall j s hji h1
          · have : j = i := by omega
            subst this
            rw [hpi] at h1; cases h1
            exact hn
        · right
          obtain ⟨F', hr, f4⟩ := ww_long (self := self) (nf := nf) g42 g43 g44 hlt hx hn
          exact ⟨_, _, _, hr, by simp, F', rfl, rfl, .inr ⟨rfl, f4⟩⟩
      · right
        obtain ⟨F', hr, f2, f3, f5, f6⟩ := ww_last (self := self) (nf := nf) (m := m') g43 g44 (by omega)
        refine ⟨_, _, _, hr, by simp, F', rfl, rfl, .inl ⟨rfl, f2.trans g2, f3.trans g3, f5.trans g5, f6.trans g6, fun s hs => ?_⟩⟩
        obtain ⟨j, hj⟩ := List.getElem?_of_mem hs
        exact gall j s (by have := (List.getElem?_eq_some_iff.1 hj).1; omega) hj)
  obtain ⟨e, T', m', hr, F', rfl, rfl, hq⟩ := hloop l.length 0 nf (lst F 105) m (by omega) (by omega) ⟨F, rfl, rfl, rfl, rfl, rfl, rfl, h42, h43, h44, fun j s hj => by omega⟩
  exact ⟨e, F', hr, hq⟩
end Go.Am.Seat
