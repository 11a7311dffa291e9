/-
  Texts of my own, put together: W22, N2, W23, W24.
-/
import Derived.Test.YtmllcnlfocbdjaaGrWireWrites16
import Derived.Test.YtmllcnlfocbdjaaGrWireWrites8
/-
  wire.anyBelowNought (own work).
-/
set_option linter.unusedSimpArgs false
set_option linter.unusedVariables false
namespace Go.Am.Seat
open Go.Proofs Go.Am
set_option maxRecDepth 100000

noncomputable def ranb_0 : Array Oper := match Try.f19.body with
  | some (.seq (.region _ o _) _) => o
  | _ => #[]
noncomputable def lanb_0 : List Oper := match Try.f19.body with
  | some (.seq (.region _ o _) _) => o.toList
  | _ => []
theorem eanb_0 : ranb_0.toList = lanb_0 := rfl
noncomputable def ranb_1 : Array Oper := match Try.f19.body with
  | some (.seq _ (.seq (.seq (.region _ o _) _) _)) => o
  | _ => #[]
noncomputable def lanb_1 : List Oper := match Try.f19.body with
  | some (.seq _ (.seq (.seq (.region _ o _) _) _)) => o.toList
  | _ => []
theorem eanb_1 : ranb_1.toList = lanb_1 := rfl
noncomputable def lpanb_0 : Code := match Try.f19.body with
  | some (.seq _ (.seq (.seq _ (.block _ (.loop c))) _)) => c
  | _ => .skip
noncomputable def ranb_2 : Array Oper := match Try.f19.body with
  | some (.seq _ (.seq (.seq _ (.block _ (.loop (.seq (.region _ o _) _)))) _)) => o
  | _ => #[]
noncomputable def lanb_2 : List Oper := match Try.f19.body with
  | some (.seq _ (.seq (.seq _ (.block _ (.loop (.seq (.region _ o _) _)))) _)) => o.toList
  | _ => []
theorem eanb_2 : ranb_2.toList = lanb_2 := rfl
noncomputable def ranb_3 : Array Oper := match Try.f19.body with
  | some (.seq _ (.seq (.seq _ (.block _ (.loop (.seq _ (.seq _ (.seq (.block _ (.seq (.region _ o _) _)) _)))))) _)) => o
  | _ => #[]
noncomputable def lanb_3 : List Oper := match Try.f19.body with
  | some (.seq _ (.seq (.seq _ (.block _ (.loop (.seq _ (.seq _ (.seq (.block _ (.seq (.region _ o _) _)) _)))))) _)) => o.toList
  | _ => []
theorem eanb_3 : ranb_3.toList = lanb_3 := rfl
noncomputable def ranb_4 : Array Oper := match Try.f19.body with
  | some (.seq _ (.seq (.seq _ (.block _ (.loop (.seq _ (.seq _ (.seq (.block _ (.seq _ (.seq (.region _ o _) _))) _)))))) _)) => o
  | _ => #[]
noncomputable def lanb_4 : List Oper := match Try.f19.body with
  | some (.seq _ (.seq (.seq _ (.block _ (.loop (.seq _ (.seq _ (.seq (.block _ (.seq _ (.seq (.region _ o _) _))) _)))))) _)) => o.toList
  | _ => []
theorem eanb_4 : ranb_4.toList = lanb_4 := rfl
noncomputable def ranb_5 : Array Oper := match Try.f19.body with
  | some (.seq _ (.seq (.seq _ (.block _ (.loop (.seq _ (.seq _ (.seq (.block _ (.seq _ (.seq _ (.cond _ (.seq (.region _ o _) _) _)))) _)))))) _)) => o
  | _ => #[]
noncomputable def lanb_5 : List Oper := match Try.f19.body with
  | some (.seq _ (.seq (.seq _ (.block _ (.loop (.seq _ (.seq _ (.seq (.block _ (.seq _ (.seq _ (.cond _ (.seq (.region _ o _) _) _)))) _)))))) _)) => o.toList
  | _ => []
theorem eanb_5 : ranb_5.toList = lanb_5 := rfl
noncomputable def ranb_6 : Array Oper := match Try.f19.body with
  | some (.seq _ (.seq (.seq _ (.block _ (.loop (.seq _ (.seq _ (.seq _ (.region _ o _))))))) _)) => o
  | _ => #[]
noncomputable def lanb_6 : List Oper := match Try.f19.body with
  | some (.seq _ (.seq (.seq _ (.block _ (.loop (.seq _ (.seq _ (.seq _ (.region _ o _))))))) _)) => o.toList
  | _ => []
theorem eanb_6 : ranb_6.toList = lanb_6 := rfl
theorem lpanb_0_eq : lpanb_0 = (.seq (.region 2 ranb_2 false) (.seq (.cond (.tmp 8) .skip (.exit 0)) (.seq (.block 1 (.seq (.region 3 ranb_3 false) (.seq (.region 4 ranb_4 false) (.cond (.tmp 12) (.seq (.region 5 ranb_5 false) .ret) .skip)))) (.region 6 ranb_6 false)))) := rfl
noncomputable def ranb_7 : Array Oper := match Try.f19.body with
  | some (.seq _ (.seq _ (.seq (.region _ o _) _))) => o
  | _ => #[]
noncomputable def lanb_7 : List Oper := match Try.f19.body with
  | some (.seq _ (.seq _ (.seq (.region _ o _) _))) => o.toList
  | _ => []
theorem eanb_7 : ranb_7.toList = lanb_7 := rfl
theorem bodyanb : Try.f19.body = some (.seq (.region 0 ranb_0 false) (.seq (.seq (.region 1 ranb_1 false) (.block 0 (.loop lpanb_0))) (.seq (.region 7 ranb_7 false) .ret))) := rfl
-- ntmps 14

section
variable {self : Self} {nf : Nat} {m : Mem} {F : Nat → Value} {b o c L i : Nat} {n : Int}
theorem ab_iter (h5 : F 5 = .slice (some ⟨b, o, none⟩) L c) (h6 : F 6 = .int .i64 (L : Nat)) (h7 : F 7 = .int .i64 (i : Nat)) (hi : i < L) (hL : L ≤ 1000000) (hx : cellAt m b (o + i) = some (.int .i64 n)) (hn : 0 ≤ n) :
    ∃ F', acodeN E self nf lpanb_0 (lst F 14) m = some (.normal, lst F' 14, m) ∧ F' 5 = F 5 ∧ F' 6 = F 6 ∧ F' 7 = .int .i64 ((i + 1 : Nat) : Int) := by
  have hlt : decide (((i : Nat) : Int) < ((L : Nat) : Int)) = true := by simpa using hi
  have hng : decide (n < 0) = false := decide_eq_false (by omega)
  have e1 := w1 (i := i) (by omega)
  simp only [lpanb_0_eq, eanb_0, eanb_1, eanb_2, eanb_3, eanb_4, eanb_5, eanb_6, eanb_7, lanb_0, lanb_1, lanb_2, lanb_3, lanb_4, lanb_5, lanb_6, lanb_7, agd_none, gdAt, gdV_bool, gdV_undef, Try.f19, List.append_eq, List.cons_append, List.nil_append, apure_call1, apure_call2, apure_call3, bft, btf, acodeN, List.getElem?_toArray, List.getElem?_cons_zero, List.getElem?_cons_succ, aopsN, adrawT, cls, astep, aop, afloat, ev, nth_lst, get_lst, aput, setAt_lst, upd_at, init_zero, init_succ, init_nil, Nat.reduceLT, Nat.reduceEqDiff, reduceIte, abuiltin, alen, Option.map_some, Option.map_none, orElse_some, apure_add, apure_eqlV, eqlVal_str, eqlVal_bool, eqlVal_ptr, eqlVal_slice, eqlVal_int, allT, ↓aop_eqlV, apure_neq, List.map_cons, List.map_nil, List.all_cons, List.all_nil, lit2, lit1, lit0, List.isEmpty_nil, Bool.and_self, Bool.and_true, Bool.true_and, Bool.false_and, Bool.and_false, Bool.not_true, Bool.not_false, Bool.or_true, Bool.true_or, Bool.false_or, Bool.or_false, Bool.false_eq_true, if_true, if_false, List.length_map, beq_self_eq_true, und3, und4, und5, und9, h5, h6, h7, lss64, hlt, ixIS hi, ldI, hx, hng, add64', e1]
  exact ⟨_, rfl, by simp only [upd_at, Nat.reduceEqDiff, reduceIte, h5], by simp only [upd_at, Nat.reduceEqDiff, reduceIte, h6], by simp only [upd_at, Nat.reduceEqDiff, reduceIte]⟩
theorem ab_bad (h5 : F 5 = .slice (some ⟨b, o, none⟩) L c) (h6 : F 6 = .int .i64 (L : Nat)) (h7 : F 7 = .int .i64 (i : Nat)) (hi : i < L) (hx : cellAt m b (o + i) = some (.int .i64 n)) (hn : n < 0) :
    ∃ F', acodeN E self nf lpanb_0 (lst F 14) m = some (.ret, lst F' 14, m) ∧ F' 2 = .bool true := by
  have hlt : decide (((i : Nat) : Int) < ((L : Nat) : Int)) = true := by simpa using hi
  have hng : decide (n < 0) = true := decide_eq_true hn
  simp only [lpanb_0_eq, eanb_0, eanb_1, eanb_2, eanb_3, eanb_4, eanb_5, eanb_6, eanb_7, lanb_0, lanb_1, lanb_2, lanb_3, lanb_4, lanb_5, lanb_6, lanb_7, agd_none, gdAt, gdV_bool, gdV_undef, Try.f19, List.append_eq, List.cons_append, List.nil_append, apure_call1, apure_call2, apure_call3, bft, btf, acodeN, List.getElem?_toArray, List.getElem?_cons_zero, List.getElem?_cons_succ, aopsN, adrawT, cls, astep, aop, afloat, ev, nth_lst, get_lst, aput, setAt_lst, upd_at, init_zero, init_succ, init_nil, Nat.reduceLT, Nat.reduceEqDiff, reduceIte, abuiltin, alen, Option.map_some, Option.map_none, orElse_some, apure_add, apure_eqlV, eqlVal_str, eqlVal_bool, eqlVal_ptr, eqlVal_slice, eqlVal_int, allT, ↓aop_eqlV, apure_neq, List.map_cons, List.map_nil, List.all_cons, List.all_nil, lit2, lit1, lit0, List.isEmpty_nil, Bool.and_self, Bool.and_true, Bool.true_and, Bool.false_and, Bool.and_false, Bool.not_true, Bool.not_false, Bool.or_true, Bool.true_or, Bool.false_or, Bool.or_false, Bool.false_eq_true, if_true, if_false, List.length_map, beq_self_eq_true, und3, und4, und5, und9, h5, h6, h7, lss64, hlt, ixIS hi, ldI, hx, hng]
  exact ⟨_, rfl, by simp only [upd_at, Nat.reduceEqDiff, reduceIte]⟩
theorem ab_last (h6 : F 6 = .int .i64 (L : Nat)) (h7 : F 7 = .int .i64 (i : Nat)) (hi : L ≤ i) :
    ∃ F', acodeN E self nf lpanb_0 (lst F 14) m = some (.exit 0, lst F' 14, m) := by
  have hlt : decide (((i : Nat) : Int) < ((L : Nat) : Int)) = false := by simpa using hi
  simp only [lpanb_0_eq, eanb_0, eanb_1, eanb_2, eanb_3, eanb_4, eanb_5, eanb_6, eanb_7, lanb_0, lanb_1, lanb_2, lanb_3, lanb_4, lanb_5, lanb_6, lanb_7, agd_none, gdAt, gdV_bool, gdV_undef, Try.f19, List.append_eq, List.cons_append, List.nil_append, apure_call1, apure_call2, apure_call3, bft, btf, acodeN, List.getElem?_toArray, List.getElem?_cons_zero, List.getElem?_cons_succ, aopsN, adrawT, cls, astep, aop, afloat, ev, nth_lst, get_lst, aput, setAt_lst, upd_at, init_zero, init_succ, init_nil, Nat.reduceLT, Nat.reduceEqDiff, reduceIte, abuiltin, alen, Option.map_some, Option.map_none, orElse_some, apure_add, apure_eqlV, eqlVal_str, eqlVal_bool, eqlVal_ptr, eqlVal_slice, eqlVal_int, allT, ↓aop_eqlV, apure_neq, List.map_cons, List.map_nil, List.all_cons, List.all_nil, lit2, lit1, lit0, List.isEmpty_nil, Bool.and_self, Bool.and_true, Bool.true_and, Bool.false_and, Bool.and_false, Bool.not_true, Bool.not_false, Bool.or_true, Bool.true_or, Bool.false_or, Bool.or_false, Bool.false_eq_true, if_true, if_false, List.length_map, beq_self_eq_true, und3, und4, und5, und9, h6, h7, lss64, hlt]
  exact ⟨_, rfl⟩
end

theorem ab_loop {self : Self} {nf : Nat} {m : Mem} {szs : List Int} {b o c : Nat} (hL : szs.length ≤ 1000) (hnf : 1000 < nf)
    (hs : ∀ (i : Nat) (x : Value), (szs.map (Value.int .i64))[i]? = some x → cellAt m b (o + i) = some x)
    {F : Nat → Value} (h5 : F 5 = .slice (some ⟨b, o, none⟩) szs.length c) (h6 : F 6 = .int .i64 (szs.length : Nat)) (h7 : F 7 = .int .i64 (0 : Nat)) :
    ∃ e F', aloop (acodeN E self nf lpanb_0) nf (lst F 14) m = some (e, lst F' 14, m) ∧ ((e = .exit 0 ∧ szs.any (fun n => decide (n < 0)) = false) ∨ (e = .ret ∧ F' 2 = .bool true ∧ szs.any (fun n => decide (n < 0)) = true)) := by
  have hloop := aloop_inv (body := acodeN E self nf lpanb_0) (N := szs.length)
    (I := fun i T m' => ∃ G, T = lst G 14 ∧ m' = m ∧ G 5 = .slice (some ⟨b, o, none⟩) szs.length c ∧ G 6 = .int .i64 (szs.length : Nat) ∧ G 7 = .int .i64 (i : Nat) ∧ (∀ (j : Nat) (n : Int), j < i → szs[j]? = some n → 0 ≤ n))
    (Q := fun e T m' => ∃ F', T = lst F' 14 ∧ m' = m ∧ ((e = .exit 0 ∧ szs.any (fun n => decide (n < 0)) = false) ∨ (e = .ret ∧ F' 2 = .bool true ∧ szs.any (fun n => decide (n < 0)) = true))) (fun i T m' hi hI => by
      obtain ⟨G, rfl, rfl, g5, g6, g7, gall⟩ := hI
      by_cases hlt : i < szs.length
      · have hsi : szs[i]? = some szs[i] := by simp [hlt]
        have hx := hs i (.int .i64 szs[i]) (by rw [List.getElem?_map, hsi]; rfl)
        by_cases hn : szs[i] < 0
        · right
          obtain ⟨F', hr, f2⟩ := ab_bad (self := self) (nf := nf) g5 g6 g7 hlt hx hn
          exact ⟨_, _, _, hr, by simp, F', rfl, rfl, .inr ⟨rfl, f2, any_neg hsi hn⟩⟩
        · left
          obtain ⟨F', hr, f5, f6, f7⟩ := ab_iter (self := self) (nf := nf) g5 g6 g7 hlt (by omega) hx (by omega)
          refine ⟨_, _, hr, hlt, F', rfl, rfl, f5.trans g5, f6.trans g6, f7, fun j n hj h1 => ?_⟩
          by_cases hji : j < i
          · exact gall j n hji h1
          · have : j = i := by omega
            subst this
            rw [hsi] at h1; cases h1
            omega
      · right
        obtain ⟨F', hr⟩ := ab_last (self := self) (nf := nf) (m := m') g6 g7 (by omega)
        have : i = szs.length := by omega
        subst this
        exact ⟨_, _, _, hr, by simp, F', rfl, rfl, .inl ⟨rfl, none_neg fun j n h1 => gall j n (List.getElem?_eq_some_iff.1 h1).1 h1⟩⟩)
  obtain ⟨e, T', m', hr, F', rfl, rfl, hq⟩ := hloop szs.length 0 nf (lst F 14) m (by omega) (by omega) ⟨F, rfl, rfl, h5, h6, h7, fun j n hj => by omega⟩
  exact ⟨e, F', hr, hq⟩

theorem ab_body {self : Self} {nf : Nat} {m : Mem} {szs : List Int} {vs : Value} (hs : RS m vs (szs.map (Value.int .i64))) (hL : szs.length ≤ 1000) (hnf : 1000 < nf) :
    abody E self nf 19 [vs] m = some (.bool (szs.any fun n => decide (n < 0)), m) := by
  rw [abody_eqF (by kernel_rfl) Try.func19 bodyanb (by kernel_rfl) (Nat.le_of_ble_eq_true rfl)]
  rw [show Try.f19.ntmps = 14 from rfl]
  rcases hs with ⟨hz, rfl⟩ | ⟨b, o, c, rfl, hs⟩
  · have hz : szs = [] := by simpa using hz
    subst hz
    obtain ⟨k, rfl⟩ : ∃ g, nf = g + 1 := ⟨nf - 1, by omega⟩
    obtain ⟨F', hr⟩ := ab_last (self := self) (nf := k + 1) (m := m) (L := 0) (i := 0) (F := upd (upd (upd (upd (init [.slice none 0 0]) 2 (.bool false)) 5 (.slice none 0 0)) 6 (.int .i64 0)) 7 (.int .i64 0)) rfl rfl (Nat.le_refl _)
    have hr' : aloop (acodeN E self (k + 1) lpanb_0) (k + 1) (lst (upd (upd (upd (upd (init [.slice none 0 0]) 2 (.bool false)) 5 (.slice none 0 0)) 6 (.int .i64 0)) 7 (.int .i64 0)) 14) m = some (.exit 0, lst F' 14, m) := by rw [aloop, hr]
    simp only [eanb_0, eanb_1, eanb_2, eanb_3, eanb_4, eanb_5, eanb_6, eanb_7, lanb_0, lanb_1, lanb_2, lanb_3, lanb_4, lanb_5, lanb_6, lanb_7, agd_none, gdAt, gdV_bool, gdV_undef, Try.f19, List.append_eq, List.cons_append, List.nil_append, apure_call1, apure_call2, apure_call3, bft, btf, acodeN, List.getElem?_toArray, List.getElem?_cons_zero, List.getElem?_cons_succ, aopsN, adrawT, cls, astep, aop, afloat, ev, nth_lst, get_lst, aput, setAt_lst, upd_at, init_zero, init_succ, init_nil, Nat.reduceLT, Nat.reduceEqDiff, reduceIte, abuiltin, alen, Option.map_some, Option.map_none, orElse_some, apure_add, apure_eqlV, eqlVal_str, eqlVal_bool, eqlVal_ptr, eqlVal_slice, eqlVal_int, allT, ↓aop_eqlV, apure_neq, List.map_cons, List.map_nil, List.all_cons, List.all_nil, lit2, lit1, lit0, List.isEmpty_nil, Bool.and_self, Bool.and_true, Bool.true_and, Bool.false_and, Bool.and_false, Bool.not_true, Bool.not_false, Bool.or_true, Bool.true_or, Bool.false_or, Bool.or_false, Bool.false_eq_true, if_true, if_false, List.length_map, beq_self_eq_true, und3, und4, und5, und9, lenI, hr', finish, ares, aresL, ares1, List.any_nil]
  · rw [List.length_map]
    obtain ⟨e, F', hr, hq⟩ := ab_loop (self := self) (nf := nf) (m := m) (c := c) hL hnf hs (F := upd (upd (upd (upd (init [.slice (some ⟨b, o, none⟩) szs.length c]) 2 (.bool false)) 5 (.slice (some ⟨b, o, none⟩) szs.length c)) 6 (.int .i64 ((szs.length : Nat) : Int))) 7 (.int .i64 0)) rfl rfl rfl
    rcases hq with ⟨rfl, ha⟩ | ⟨rfl, f2, ha⟩
    · simp only [eanb_0, eanb_1, eanb_2, eanb_3, eanb_4, eanb_5, eanb_6, eanb_7, lanb_0, lanb_1, lanb_2, lanb_3, lanb_4, lanb_5, lanb_6, lanb_7, agd_none, gdAt, gdV_bool, gdV_undef, Try.f19, List.append_eq, List.cons_append, List.nil_append, apure_call1, apure_call2, apure_call3, bft, btf, acodeN, List.getElem?_toArray, List.getElem?_cons_zero, List.getElem?_cons_succ, aopsN, adrawT, cls, astep, aop, afloat, ev, nth_lst, get_lst, aput, setAt_lst, upd_at, init_zero, init_succ, init_nil, Nat.reduceLT, Nat.reduceEqDiff, reduceIte, abuiltin, alen, Option.map_some, Option.map_none, orElse_some, apure_add, apure_eqlV, eqlVal_str, eqlVal_bool, eqlVal_ptr, eqlVal_slice, eqlVal_int, allT, ↓aop_eqlV, apure_neq, List.map_cons, List.map_nil, List.all_cons, List.all_nil, lit2, lit1, lit0, List.isEmpty_nil, Bool.and_self, Bool.and_true, Bool.true_and, Bool.false_and, Bool.and_false, Bool.not_true, Bool.not_false, Bool.or_true, Bool.true_or, Bool.false_or, Bool.or_false, Bool.false_eq_true, if_true, if_false, List.length_map, beq_self_eq_true, und3, und4, und5, und9, undIS, hr, finish, ares, aresL, ares1, ha]
    · simp only [eanb_0, eanb_1, eanb_2, eanb_3, eanb_4, eanb_5, eanb_6, eanb_7, lanb_0, lanb_1, lanb_2, lanb_3, lanb_4, lanb_5, lanb_6, lanb_7, agd_none, gdAt, gdV_bool, gdV_undef, Try.f19, List.append_eq, List.cons_append, List.nil_append, apure_call1, apure_call2, apure_call3, bft, btf, acodeN, List.getElem?_toArray, List.getElem?_cons_zero, List.getElem?_cons_succ, aopsN, adrawT, cls, astep, aop, afloat, ev, nth_lst, get_lst, aput, setAt_lst, upd_at, init_zero, init_succ, init_nil, Nat.reduceLT, Nat.reduceEqDiff, reduceIte, abuiltin, alen, Option.map_some, Option.map_none, orElse_some, apure_add, apure_eqlV, eqlVal_str, eqlVal_bool, eqlVal_ptr, eqlVal_slice, eqlVal_int, allT, ↓aop_eqlV, apure_neq, List.map_cons, List.map_nil, List.all_cons, List.all_nil, lit2, lit1, lit0, List.isEmpty_nil, Bool.and_self, Bool.and_true, Bool.true_and, Bool.false_and, Bool.and_false, Bool.not_true, Bool.not_false, Bool.or_true, Bool.true_or, Bool.false_or, Bool.or_false, Bool.false_eq_true, if_true, if_false, List.length_map, beq_self_eq_true, und3, und4, und5, und9, undIS, hr, f2, finish, ares, aresL, ares1, ha]

theorem cneg {n : Nat} (hn : 1000 ≤ n) {m : Mem} {szs : List Int} {vs : Value} (hs : RS m vs (szs.map (Value.int .i64))) (hL : szs.length ≤ 1000) :
    ainv E (runQ E mem0 [] (n + 1)).1 19 [vs] m = some (.bool (szs.any fun n => decide (n < 0)), m) := by
  refine ainv_plain (by kernel_rfl) (by kernel_rfl) rfl fun M hM => ⟨M, runQ_body ?_⟩
  have hs' : RS M vs (szs.map (Value.int .i64)) := by
    rcases hM with h | rfl
    · simp only [List.all_cons, List.all_nil, Bool.and_true] at h
      exact .inl (hs.lit h)
    · exact hs.sealed
  exact ab_body hs' hL (by omega)
end Go.Am.Seat

/-
  A text cut at one end (own work).
-/
set_option linter.unusedSimpArgs false
set_option linter.unusedVariables false
namespace Go.Am.Seat
open Go.Am
set_option maxRecDepth 100000

def sliceLo (st : ByteArray) (a : Int) : Option Value := if 0 ≤ a ∧ a ≤ (st.size : Int) then some (.string (st.extract a.toNat st.size)) else none
theorem apure_slice1 {P : Program} {T : List Value} {t ty : TypeId} {x lo : Operand} {d : Option Tmp} {pos : String} {af : Array Edge} {g : Option (Nat × Bool)} (ht : P.underlying t = some .string) : apure P T { dst := d, op := .slice t x (some lo) none none, type := ty, pos := pos, after := af, guard := g } = match ev T x with
    | .string st => (match ev T lo with
      | .int _ a => orElse (sliceLo st a) (apureC P T { dst := d, op := .slice t x (some lo) none none, type := ty, pos := pos, after := af, guard := g })
      | _ => apureC P T { dst := d, op := .slice t x (some lo) none none, type := ty, pos := pos, after := af, guard := g })
    | _ => apureC P T { dst := d, op := .slice t x (some lo) none none, type := ty, pos := pos, after := af, guard := g } := by
  cases hx : ev T x with
  | string st =>
    cases hl : ev T lo with
    | int k a =>
      simp only
      unfold sliceLo
      split
      · rename_i hs
        rw [orElse_some]
        refine apure_slice ht hx (fun v hv => by cases hv; rw [hl]; rfl) (fun v hv => by cases hv) ?_
        simp only [Option.map_some, Option.map_none, hl]
        unfold abounds abound
        simp only
        rw [if_pos hs]
      · rfl
    | _ => rfl
  | _ => rfl
def sliceHi (st : ByteArray) (a : Int) : Option Value := if 0 ≤ a ∧ a ≤ (st.size : Int) then some (.string (st.extract 0 a.toNat)) else none
theorem apure_slice0 {P : Program} {T : List Value} {t ty : TypeId} {x lo : Operand} {d : Option Tmp} {pos : String} {af : Array Edge} {g : Option (Nat × Bool)} (ht : P.underlying t = some .string) : apure P T { dst := d, op := .slice t x none (some lo) none, type := ty, pos := pos, after := af, guard := g } = match ev T x with
    | .string st => (match ev T lo with
      | .int _ a => orElse (sliceHi st a) (apureC P T { dst := d, op := .slice t x none (some lo) none, type := ty, pos := pos, after := af, guard := g })
      | _ => apureC P T { dst := d, op := .slice t x none (some lo) none, type := ty, pos := pos, after := af, guard := g })
    | _ => apureC P T { dst := d, op := .slice t x none (some lo) none, type := ty, pos := pos, after := af, guard := g } := by
  cases hx : ev T x with
  | string st =>
    cases hl : ev T lo with
    | int k a =>
      simp only
      unfold sliceHi
      split
      · rename_i hs
        rw [orElse_some]
        refine apure_slice ht hx (fun v hv => by cases hv) (fun v hv => by cases hv; rw [hl]; rfl) ?_
        simp only [Option.map_some, Option.map_none, hl]
        unfold abounds abound
        simp only
        rw [if_pos hs]
      · rfl
    | _ => rfl
  | _ => rfl
end Go.Am.Seat

/-
  wire.Split (own work).
-/
set_option linter.unusedSimpArgs false
set_option linter.unusedVariables false
namespace Go.Am.Seat
open Go.Proofs Go.Am
set_option maxRecDepth 100000

noncomputable def rwsp_0 : Array Oper := match Try.f7.body with
  | some (.seq (.region _ o _) _) => o
  | _ => #[]
noncomputable def lwsp_0 : List Oper := match Try.f7.body with
  | some (.seq (.region _ o _) _) => o.toList
  | _ => []
theorem ewsp_0 : rwsp_0.toList = lwsp_0 := rfl
noncomputable def rwsp_1 : Array Oper := match Try.f7.body with
  | some (.seq _ (.seq (.seq (.region _ o _) _) _)) => o
  | _ => #[]
noncomputable def lwsp_1 : List Oper := match Try.f7.body with
  | some (.seq _ (.seq (.seq (.region _ o _) _) _)) => o.toList
  | _ => []
theorem ewsp_1 : rwsp_1.toList = lwsp_1 := rfl
noncomputable def rwsp_2 : Array Oper := match Try.f7.body with
  | some (.seq _ (.seq (.seq _ (.cond _ (.seq (.region _ o _) _) _)) _)) => o
  | _ => #[]
noncomputable def lwsp_2 : List Oper := match Try.f7.body with
  | some (.seq _ (.seq (.seq _ (.cond _ (.seq (.region _ o _) _) _)) _)) => o.toList
  | _ => []
theorem ewsp_2 : rwsp_2.toList = lwsp_2 := rfl
noncomputable def rwsp_3 : Array Oper := match Try.f7.body with
  | some (.seq _ (.seq _ (.seq (.region _ o _) _))) => o
  | _ => #[]
noncomputable def lwsp_3 : List Oper := match Try.f7.body with
  | some (.seq _ (.seq _ (.seq (.region _ o _) _))) => o.toList
  | _ => []
theorem ewsp_3 : rwsp_3.toList = lwsp_3 := rfl
noncomputable def rwsp_4 : Array Oper := match Try.f7.body with
  | some (.seq _ (.seq _ (.seq _ (.seq (.seq (.region _ o _) _) _)))) => o
  | _ => #[]
noncomputable def lwsp_4 : List Oper := match Try.f7.body with
  | some (.seq _ (.seq _ (.seq _ (.seq (.seq (.region _ o _) _) _)))) => o.toList
  | _ => []
theorem ewsp_4 : rwsp_4.toList = lwsp_4 := rfl
noncomputable def lpwsp_0 : Code := match Try.f7.body with
  | some (.seq _ (.seq _ (.seq _ (.seq (.seq _ (.block _ (.loop c))) _)))) => c
  | _ => .skip
noncomputable def rwsp_5 : Array Oper := match Try.f7.body with
  | some (.seq _ (.seq _ (.seq _ (.seq (.seq _ (.block _ (.loop (.seq (.region _ o _) _)))) _)))) => o
  | _ => #[]
noncomputable def lwsp_5 : List Oper := match Try.f7.body with
  | some (.seq _ (.seq _ (.seq _ (.seq (.seq _ (.block _ (.loop (.seq (.region _ o _) _)))) _)))) => o.toList
  | _ => []
theorem ewsp_5 : rwsp_5.toList = lwsp_5 := rfl
noncomputable def rwsp_6 : Array Oper := match Try.f7.body with
  | some (.seq _ (.seq _ (.seq _ (.seq (.seq _ (.block _ (.loop (.seq _ (.seq _ (.seq (.block _ (.seq (.region _ o _) _)) _)))))) _)))) => o
  | _ => #[]
noncomputable def lwsp_6 : List Oper := match Try.f7.body with
  | some (.seq _ (.seq _ (.seq _ (.seq (.seq _ (.block _ (.loop (.seq _ (.seq _ (.seq (.block _ (.seq (.region _ o _) _)) _)))))) _)))) => o.toList
  | _ => []
theorem ewsp_6 : rwsp_6.toList = lwsp_6 := rfl
noncomputable def rwsp_7 : Array Oper := match Try.f7.body with
  | some (.seq _ (.seq _ (.seq _ (.seq (.seq _ (.block _ (.loop (.seq _ (.seq _ (.seq (.block _ (.seq _ (.seq (.seq (.region _ o _) _) _))) _)))))) _)))) => o
  | _ => #[]
noncomputable def lwsp_7 : List Oper := match Try.f7.body with
  | some (.seq _ (.seq _ (.seq _ (.seq (.seq _ (.block _ (.loop (.seq _ (.seq _ (.seq (.block _ (.seq _ (.seq (.seq (.region _ o _) _) _))) _)))))) _)))) => o.toList
  | _ => []
theorem ewsp_7 : rwsp_7.toList = lwsp_7 := rfl
noncomputable def rwsp_8 : Array Oper := match Try.f7.body with
  | some (.seq _ (.seq _ (.seq _ (.seq (.seq _ (.block _ (.loop (.seq _ (.seq _ (.seq (.block _ (.seq _ (.seq (.seq _ (.cond _ (.seq (.region _ o _) _) _)) _))) _)))))) _)))) => o
  | _ => #[]
noncomputable def lwsp_8 : List Oper := match Try.f7.body with
  | some (.seq _ (.seq _ (.seq _ (.seq (.seq _ (.block _ (.loop (.seq _ (.seq _ (.seq (.block _ (.seq _ (.seq (.seq _ (.cond _ (.seq (.region _ o _) _) _)) _))) _)))))) _)))) => o.toList
  | _ => []
theorem ewsp_8 : rwsp_8.toList = lwsp_8 := rfl
noncomputable def rwsp_9 : Array Oper := match Try.f7.body with
  | some (.seq _ (.seq _ (.seq _ (.seq (.seq _ (.block _ (.loop (.seq _ (.seq _ (.seq (.block _ (.seq _ (.seq _ (.seq (.region _ o _) _)))) _)))))) _)))) => o
  | _ => #[]
noncomputable def lwsp_9 : List Oper := match Try.f7.body with
  | some (.seq _ (.seq _ (.seq _ (.seq (.seq _ (.block _ (.loop (.seq _ (.seq _ (.seq (.block _ (.seq _ (.seq _ (.seq (.region _ o _) _)))) _)))))) _)))) => o.toList
  | _ => []
theorem ewsp_9 : rwsp_9.toList = lwsp_9 := rfl
noncomputable def rwsp_10 : Array Oper := match Try.f7.body with
  | some (.seq _ (.seq _ (.seq _ (.seq (.seq _ (.block _ (.loop (.seq _ (.seq _ (.seq (.block _ (.seq _ (.seq _ (.seq _ (.region _ o _))))) _)))))) _)))) => o
  | _ => #[]
noncomputable def lwsp_10 : List Oper := match Try.f7.body with
  | some (.seq _ (.seq _ (.seq _ (.seq (.seq _ (.block _ (.loop (.seq _ (.seq _ (.seq (.block _ (.seq _ (.seq _ (.seq _ (.region _ o _))))) _)))))) _)))) => o.toList
  | _ => []
theorem ewsp_10 : rwsp_10.toList = lwsp_10 := rfl
noncomputable def rwsp_11 : Array Oper := match Try.f7.body with
  | some (.seq _ (.seq _ (.seq _ (.seq (.seq _ (.block _ (.loop (.seq _ (.seq _ (.seq _ (.region _ o _))))))) _)))) => o
  | _ => #[]
noncomputable def lwsp_11 : List Oper := match Try.f7.body with
  | some (.seq _ (.seq _ (.seq _ (.seq (.seq _ (.block _ (.loop (.seq _ (.seq _ (.seq _ (.region _ o _))))))) _)))) => o.toList
  | _ => []
theorem ewsp_11 : rwsp_11.toList = lwsp_11 := rfl
theorem lpwsp_0_eq : lpwsp_0 = (.seq (.region 5 rwsp_5 false) (.seq (.cond (.tmp 17) .skip (.exit 0)) (.seq (.block 1 (.seq (.region 6 rwsp_6 false) (.seq (.seq (.region 7 rwsp_7 false) (.cond (.tmp 23) (.seq (.region 8 rwsp_8 false) .ret) .skip)) (.seq (.region 9 rwsp_9 false) (.region 10 rwsp_10 false))))) (.region 11 rwsp_11 false)))) := rfl
noncomputable def rwsp_12 : Array Oper := match Try.f7.body with
  | some (.seq _ (.seq _ (.seq _ (.seq _ (.seq (.seq (.region _ o _) _) _))))) => o
  | _ => #[]
noncomputable def lwsp_12 : List Oper := match Try.f7.body with
  | some (.seq _ (.seq _ (.seq _ (.seq _ (.seq (.seq (.region _ o _) _) _))))) => o.toList
  | _ => []
theorem ewsp_12 : rwsp_12.toList = lwsp_12 := rfl
noncomputable def rwsp_13 : Array Oper := match Try.f7.body with
  | some (.seq _ (.seq _ (.seq _ (.seq _ (.seq (.seq _ (.cond _ (.seq (.region _ o _) _) _)) _))))) => o
  | _ => #[]
noncomputable def lwsp_13 : List Oper := match Try.f7.body with
  | some (.seq _ (.seq _ (.seq _ (.seq _ (.seq (.seq _ (.cond _ (.seq (.region _ o _) _) _)) _))))) => o.toList
  | _ => []
theorem ewsp_13 : rwsp_13.toList = lwsp_13 := rfl
noncomputable def rwsp_14 : Array Oper := match Try.f7.body with
  | some (.seq _ (.seq _ (.seq _ (.seq _ (.seq _ (.seq (.region _ o _) _)))))) => o
  | _ => #[]
noncomputable def lwsp_14 : List Oper := match Try.f7.body with
  | some (.seq _ (.seq _ (.seq _ (.seq _ (.seq _ (.seq (.region _ o _) _)))))) => o.toList
  | _ => []
theorem ewsp_14 : rwsp_14.toList = lwsp_14 := rfl
theorem bodywsp : Try.f7.body = some (.seq (.region 0 rwsp_0 false) (.seq (.seq (.region 1 rwsp_1 false) (.cond (.tmp 10) (.seq (.region 2 rwsp_2 false) .ret) .skip)) (.seq (.region 3 rwsp_3 false) (.seq (.seq (.region 4 rwsp_4 false) (.block 0 (.loop lpwsp_0))) (.seq (.seq (.region 12 rwsp_12 false) (.cond (.tmp 35) (.seq (.region 13 rwsp_13 false) .ret) .skip)) (.seq (.region 14 rwsp_14 false) .ret)))))) := rfl
-- ntmps 37

theorem makeSt (c : Nat) (hc : c < 1000000) (m : Mem) : amakeSlice E.P 23 (.int .i64 0) (.int .i64 (c : Nat)) m = some (.slice (some ⟨m.length, 0, none⟩) 0 c, m ++ [.row false 9 (List.replicate c (.string ⟨#[]⟩))]) := by
  have hz : zero1 E.P 9 = some (.string ⟨#[]⟩) := by kernel_rfl
  have h9 : (E.P.info? 9).map (·.bytes) = some 16 := by kernel_rfl
  obtain ⟨i, h1, h2⟩ := Option.map_eq_some_iff.1 h9
  have e0 : wrapF .i64 0 = 0 := rfl
  have e1 : wrapF .i64 ((c : Nat) : Int) = ((c : Nat) : Int) := wrap_i64 (by omega) (by omega)
  unfold amakeSlice
  simp only [undSS, hz, h1, e0, e1]
  rw [if_pos ⟨by omega, by omega, by rw [h2]; omega⟩]
  simp
theorem appIn {m : Mem} {b k cap : Nat} {cs : List Value} {x : ByteArray} (hb : m[b]? = some (.row false 9 cs)) (hk : k < cap) (hc : cs.length = cap) :
    aappend E.P 23 23 (.slice (some ⟨b, 0, none⟩) k cap) (.slice (some ⟨m.length, 0, none⟩) 1 1) (m ++ [.row false 9 [.string x]]) =
      some (.slice (some ⟨b, 0, none⟩) (k + 1) cap, (m ++ [Blk.row false 9 [.string x]]).set b (.row false 9 (cs.set k (.string x)))) := by
  have h9 : (E.P.info? 9).map (fun i => (i.size, i.bytes)) = some (1, 16) := by kernel_rfl
  have h10 : ((E.P.info? 9).bind (·.zero)).map (·.cells.size) = some 1 := by kernel_rfl
  obtain ⟨i, h1, h11⟩ := Option.map_eq_some_iff.1 h9
  rw [h1] at h10
  obtain ⟨z, h2, h6⟩ := Option.map_eq_some_iff.1 h10
  simp only [Prod.mk.injEq] at h11
  obtain ⟨h3, h4⟩ := h11
  have h2 : i.zero = some z := h2
  have hsrc : asrc (m ++ [Blk.row false 9 [.string x]]) 1 (.slice (some ⟨m.length, 0, none⟩) 1 1) = some (1, [.string x]) := by
    have h : (m ++ [Blk.row false 9 [.string x]])[m.length]? = some (.row false 9 [.string x]) := by simp
    unfold asrc
    simp only [lookRow h]
    rfl
  have hbm := lt_of_at hb
  have hb2 : (m ++ [Blk.row false 9 [.string x]])[b]? = some (.row false 9 cs) := by rw [List.getElem?_append_left hbm]; exact hb
  unfold aappend
  simp only [undSS, h1, h2, h3, hsrc, isIntD, h6, h4, hb2]
  rw [if_neg (by simp [cellOk]), if_pos (by omega), if_pos (by simp; omega)]
  simp [lay]

theorem ex_hi {s : ByteArray} {a b : Nat} (h : a + b ≤ s.data.toList.length) : (s.extract a s.data.toList.length).extract 0 b = s.extract a (a + b) := by
  apply ba_eq
  simp only [ByteArray.data_extract, Array.toList_extract, List.extract_eq_take_drop, List.drop_zero, Nat.sub_zero, List.take_take]
  rw [Nat.min_eq_left (by omega), show a + b - a = b by omega]
theorem ex_lo {s : ByteArray} {a b : Nat} (h : a + b ≤ s.data.toList.length) : (s.extract a s.data.toList.length).extract b (s.data.toList.length - a) = s.extract (a + b) s.data.toList.length := by
  apply ba_eq
  simp only [ByteArray.data_extract, Array.toList_extract, List.extract_eq_take_drop, List.drop_take, List.take_take, List.drop_drop]
  rw [Nat.min_eq_left (by omega), show s.data.toList.length - a - b = s.data.toList.length - (a + b) by omega]

section
variable {self : Self} {nf : Nat} {m : Mem} {F : Nat → Value} {b o c L i pb cap k : Nat} {n : Int} {t : ByteArray} {cs : List Value}
theorem wsp_iter (h0 : F 0 = .string t) (h14 : F 14 = .slice (some ⟨b, o, none⟩) L c) (h15 : F 15 = .int .i64 (L : Nat)) (h16 : F 16 = .int .i64 (i : Nat)) (h6 : F 6 = .slice (some ⟨pb, 0, none⟩) i cap) (hi : i < L) (hL : L ≤ 1000000)
    (hx : cellAt m b (o + i) = some (.int .i64 (k : Nat))) (hk : k ≤ t.data.toList.length) (hpb : m[pb]? = some (.row false 9 cs)) (hcap : cs.length = cap) (hic : i < cap) :
    ∃ F', acodeN E self nf lpwsp_0 (lst F 37) m = some (.normal, lst F' 37, (m ++ [Blk.row false 9 [.string (t.extract 0 k)]]).set pb (.row false 9 (cs.set i (.string (t.extract 0 k))))) ∧ F' 0 = .string (t.extract k t.data.toList.length) ∧ F' 14 = F 14 ∧ F' 15 = F 15 ∧ F' 16 = .int .i64 ((i + 1 : Nat) : Int) ∧ F' 6 = .slice (some ⟨pb, 0, none⟩) (i + 1) cap := by
  have hlt : decide (((i : Nat) : Int) < ((L : Nat) : Int)) = true := by simpa using hi
  have hgt : decide (((k : Nat) : Int) > ((t.data.toList.length : Nat) : Int)) = false := decide_eq_false (by omega)
  have e1 := w1 (i := i) (by omega)
  have z : t.size = t.data.toList.length := rfl
  have s1 : sliceHi t ((k : Nat) : Int) = some (.string (t.extract 0 k)) := by
    unfold sliceHi
    rw [if_pos (by omega), Int.toNat_natCast]
  have s2 : sliceLo t ((k : Nat) : Int) = some (.string (t.extract k t.data.toList.length)) := by
    unfold sliceLo
    rw [if_pos (by omega), Int.toNat_natCast]
    rfl
  have happ := appIn (x := t.extract 0 k) hpb hic hcap
  simp only [lpwsp_0_eq, ewsp_0, ewsp_1, ewsp_10, ewsp_11, ewsp_12, ewsp_13, ewsp_14, ewsp_2, ewsp_3, ewsp_4, ewsp_5, ewsp_6, ewsp_7, ewsp_8, ewsp_9, lwsp_0, lwsp_1, lwsp_2, lwsp_3, lwsp_4, lwsp_5, lwsp_6, lwsp_7, lwsp_8, lwsp_9, lwsp_10, lwsp_11, lwsp_12, lwsp_13, lwsp_14, agd_none, gdAt, gdV_bool, gdV_undef, Try.f7, List.append_eq, List.cons_append, List.nil_append, apure_call1, apure_call2, apure_call3, bft, btf, acodeN, List.getElem?_toArray, List.getElem?_cons_zero, List.getElem?_cons_succ, aopsN, adrawT, cls, astep, aop, afloat, ev, nth_lst, get_lst, aput, setAt_lst, upd_at, init_zero, init_succ, init_nil, Nat.reduceLT, Nat.reduceEqDiff, reduceIte, abuiltin, alen, Option.map_some, Option.map_none, orElse_some, apure_add, apure_eqlV, eqlVal_str, eqlVal_bool, eqlVal_ptr, eqlVal_slice, eqlVal_int, allT, ↓aop_eqlV, apure_neq, List.map_cons, List.map_nil, List.all_cons, List.all_nil, lit2, lit1, lit0, List.isEmpty_nil, Bool.and_self, Bool.and_true, Bool.true_and, Bool.false_and, Bool.and_false, Bool.not_true, Bool.not_false, Bool.or_true, Bool.true_or, Bool.false_or, Bool.or_false, Bool.false_eq_true, if_true, if_false, List.length_map, beq_self_eq_true, und3, und4, und5, und9, h0, h14, h15, h16, h6, lss64, hlt, ixIS hi, ldI, hx, gtr64', hgt, apure_slice0 und9, apure_slice1 und9, s1, s2, buildS, happ, add64', e1]
  exact ⟨_, rfl, by simp only [upd_at, Nat.reduceEqDiff, reduceIte], by simp only [upd_at, Nat.reduceEqDiff, reduceIte, h14], by simp only [upd_at, Nat.reduceEqDiff, reduceIte, h15], by simp only [upd_at, Nat.reduceEqDiff, reduceIte], by simp only [upd_at, Nat.reduceEqDiff, reduceIte]⟩
theorem wsp_short (h0 : F 0 = .string t) (h14 : F 14 = .slice (some ⟨b, o, none⟩) L c) (h15 : F 15 = .int .i64 (L : Nat)) (h16 : F 16 = .int .i64 (i : Nat)) (hi : i < L)
    (hx : cellAt m b (o + i) = some (.int .i64 n)) (hn : n > ((t.data.toList.length : Nat) : Int)) :
    ∃ F', acodeN E self nf lpwsp_0 (lst F 37) m = some (.ret, lst F' 37, m) ∧ F' 4 = .slice none 0 0 ∧ F' 5 = .int .i64 3 := by
  have hlt : decide (((i : Nat) : Int) < ((L : Nat) : Int)) = true := by simpa using hi
  have hgt : decide (n > ((t.data.toList.length : Nat) : Int)) = true := decide_eq_true hn
  simp only [lpwsp_0_eq, ewsp_0, ewsp_1, ewsp_10, ewsp_11, ewsp_12, ewsp_13, ewsp_14, ewsp_2, ewsp_3, ewsp_4, ewsp_5, ewsp_6, ewsp_7, ewsp_8, ewsp_9, lwsp_0, lwsp_1, lwsp_2, lwsp_3, lwsp_4, lwsp_5, lwsp_6, lwsp_7, lwsp_8, lwsp_9, lwsp_10, lwsp_11, lwsp_12, lwsp_13, lwsp_14, agd_none, gdAt, gdV_bool, gdV_undef, Try.f7, List.append_eq, List.cons_append, List.nil_append, apure_call1, apure_call2, apure_call3, bft, btf, acodeN, List.getElem?_toArray, List.getElem?_cons_zero, List.getElem?_cons_succ, aopsN, adrawT, cls, astep, aop, afloat, ev, nth_lst, get_lst, aput, setAt_lst, upd_at, init_zero, init_succ, init_nil, Nat.reduceLT, Nat.reduceEqDiff, reduceIte, abuiltin, alen, Option.map_some, Option.map_none, orElse_some, apure_add, apure_eqlV, eqlVal_str, eqlVal_bool, eqlVal_ptr, eqlVal_slice, eqlVal_int, allT, ↓aop_eqlV, apure_neq, List.map_cons, List.map_nil, List.all_cons, List.all_nil, lit2, lit1, lit0, List.isEmpty_nil, Bool.and_self, Bool.and_true, Bool.true_and, Bool.false_and, Bool.and_false, Bool.not_true, Bool.not_false, Bool.or_true, Bool.true_or, Bool.false_or, Bool.or_false, Bool.false_eq_true, if_true, if_false, List.length_map, beq_self_eq_true, und3, und4, und5, und9, h0, h14, h15, h16, lss64, hlt, ixIS hi, ldI, hx, gtr64', hgt]
  exact ⟨_, rfl, by simp only [upd_at, Nat.reduceEqDiff, reduceIte], by simp only [upd_at, Nat.reduceEqDiff, reduceIte]⟩
theorem wsp_last (h15 : F 15 = .int .i64 (L : Nat)) (h16 : F 16 = .int .i64 (i : Nat)) (hi : L ≤ i) :
    ∃ F', acodeN E self nf lpwsp_0 (lst F 37) m = some (.exit 0, lst F' 37, m) ∧ F' 0 = F 0 ∧ F' 6 = F 6 := by
  have hlt : decide (((i : Nat) : Int) < ((L : Nat) : Int)) = false := by simpa using hi
  simp only [lpwsp_0_eq, ewsp_0, ewsp_1, ewsp_10, ewsp_11, ewsp_12, ewsp_13, ewsp_14, ewsp_2, ewsp_3, ewsp_4, ewsp_5, ewsp_6, ewsp_7, ewsp_8, ewsp_9, lwsp_0, lwsp_1, lwsp_2, lwsp_3, lwsp_4, lwsp_5, lwsp_6, lwsp_7, lwsp_8, lwsp_9, lwsp_10, lwsp_11, lwsp_12, lwsp_13, lwsp_14, agd_none, gdAt, gdV_bool, gdV_undef, Try.f7, List.append_eq, List.cons_append, List.nil_append, apure_call1, apure_call2, apure_call3, bft, btf, acodeN, List.getElem?_toArray, List.getElem?_cons_zero, List.getElem?_cons_succ, aopsN, adrawT, cls, astep, aop, afloat, ev, nth_lst, get_lst, aput, setAt_lst, upd_at, init_zero, init_succ, init_nil, Nat.reduceLT, Nat.reduceEqDiff, reduceIte, abuiltin, alen, Option.map_some, Option.map_none, orElse_some, apure_add, apure_eqlV, eqlVal_str, eqlVal_bool, eqlVal_ptr, eqlVal_slice, eqlVal_int, allT, ↓aop_eqlV, apure_neq, List.map_cons, List.map_nil, List.all_cons, List.all_nil, lit2, lit1, lit0, List.isEmpty_nil, Bool.and_self, Bool.and_true, Bool.true_and, Bool.false_and, Bool.and_false, Bool.not_true, Bool.not_false, Bool.or_true, Bool.true_or, Bool.false_or, Bool.or_false, Bool.false_eq_true, if_true, if_false, List.length_map, beq_self_eq_true, und3, und4, und5, und9, h15, h16, lss64, hlt]
  exact ⟨_, rfl, by simp only [upd_at, Nat.reduceEqDiff, reduceIte], by simp only [upd_at, Nat.reduceEqDiff, reduceIte]⟩
end

theorem wsp_loop {self : Self} {nf : Nat} {m m0 : Mem} {s : ByteArray} {szs : List Int} {b o c : Nat} (hL : szs.length ≤ 1000) (hnf : 1000 < nf) (hbm : szs ≠ [] → b < m.length)
    (hs : ∀ (i : Nat) (x : Value), (szs.map (Value.int .i64))[i]? = some x → cellAt m b (o + i) = some x) (hpos : ∀ (i : Nat) (n : Int), szs[i]? = some n → 0 ≤ n)
    (hk : Keeps m m.length m0) (hpb : m0[m.length]? = some (.row false 9 (List.replicate szs.length (.string ⟨#[]⟩))))
    {F : Nat → Value} (h0 : F 0 = .string s) (h14 : F 14 = .slice (some ⟨b, o, none⟩) szs.length c) (h15 : F 15 = .int .i64 (szs.length : Nat)) (h16 : F 16 = .int .i64 (0 : Nat)) (h6 : F 6 = .slice (some ⟨m.length, 0, none⟩) 0 szs.length) :
    ∃ e F' m', aloop (acodeN E self nf lpwsp_0) nf (lst F 37) m0 = some (e, lst F' 37, m') ∧
      ((e = .exit 0 ∧ psum szs szs.length ≤ s.data.toList.length ∧ F' 0 = .string (s.extract (psum szs szs.length) s.data.toList.length) ∧ F' 6 = .slice (some ⟨m.length, 0, none⟩) szs.length szs.length ∧ m'[m.length]? = some (.row false 9 (((List.range szs.length).map (cutAt s szs)).map Value.string))) ∨
      (e = .ret ∧ F' 4 = .slice none 0 0 ∧ F' 5 = .int .i64 3 ∧ psum szs szs.length > s.data.toList.length)) := by
  have hloop := aloop_inv (body := acodeN E self nf lpwsp_0) (N := szs.length)
    (I := fun i T m' => ∃ G cs, T = lst G 37 ∧ Keeps m m.length m' ∧ psum szs i ≤ s.data.toList.length ∧ G 0 = .string (s.extract (psum szs i) s.data.toList.length) ∧ G 14 = .slice (some ⟨b, o, none⟩) szs.length c ∧ G 15 = .int .i64 (szs.length : Nat) ∧ G 16 = .int .i64 (i : Nat) ∧ G 6 = .slice (some ⟨m.length, 0, none⟩) i szs.length ∧
      m'[m.length]? = some (.row false 9 cs) ∧ cs.length = szs.length ∧ cs.take i = ((List.range i).map (cutAt s szs)).map Value.string)
    (Q := fun e T m' => ∃ F', T = lst F' 37 ∧
      ((e = .exit 0 ∧ psum szs szs.length ≤ s.data.toList.length ∧ F' 0 = .string (s.extract (psum szs szs.length) s.data.toList.length) ∧ F' 6 = .slice (some ⟨m.length, 0, none⟩) szs.length szs.length ∧ m'[m.length]? = some (.row false 9 (((List.range szs.length).map (cutAt s szs)).map Value.string))) ∨
      (e = .ret ∧ F' 4 = .slice none 0 0 ∧ F' 5 = .int .i64 3 ∧ psum szs szs.length > s.data.toList.length))) (fun i T m' hi hI => by
      obtain ⟨G, cs, rfl, gK, gp, g0, g14, g15, g16, g6, gb, gl, gt⟩ := hI
      by_cases hlt : i < szs.length
      · have hsi : szs[i]? = some szs[i] := by simp [hlt]
        have hx := hs i (.int .i64 szs[i]) (by rw [List.getElem?_map, hsi]; rfl)
        have hne : szs ≠ [] := fun h => by rw [h] at hlt; cases hlt
        rw [← cellAt_same (gK b (hbm hne))] at hx
        have hn := hpos i _ hsi
        have hps := psum_step hsi
        have hle := psum_le szs (show i + 1 ≤ szs.length by omega)
        have hz := extract_size (s := s) gp (Nat.le_refl _)
        obtain ⟨k, hkk⟩ := Int.eq_ofNat_of_zero_le hn
        rw [hkk, Int.toNat_natCast] at hps
        rw [hkk] at hx
        by_cases hsh : k ≤ s.data.toList.length - psum szs i
        · left
          obtain ⟨F', hr, f0, f14, f15, f16, f6⟩ := wsp_iter (self := self) (nf := nf) g0 g14 g15 g16 g6 hlt (by omega) hx (by omega) gb gl hlt
          have hgb := lt_of_at gb
          have hcut : cutAt s szs i = s.extract (psum szs i) (psum szs i + k) := by unfold cutAt; rw [hps]
          rw [hz, ex_lo (by omega)] at f0
          rw [ex_hi (by omega)] at hr
          refine ⟨_, _, hr, hlt, F', cs.set i (.string (s.extract (psum szs i) (psum szs i + k))), rfl, fun j hj => ?_, by omega, by rw [f0, hps], f14.trans g14, f15.trans g15, f16, f6, ?_, by simp [gl], ?_⟩
          · rw [List.getElem?_set_ne (by omega), List.getElem?_append_left (by omega)]
            exact gK j hj
          · rw [List.getElem?_set_self (by simp; omega)]
          · rw [List.range_succ, List.map_append, List.map_append, ← gt, List.take_add_one, List.take_set_of_le (Nat.le_refl _), List.getElem?_set_self (by omega)]
            simp only [List.map_cons, List.map_nil, hcut]
            rfl
        · right
          obtain ⟨F', hr, f4, f5⟩ := wsp_short (self := self) (nf := nf) g0 g14 g15 g16 hlt hx (by omega)
          exact ⟨_, _, _, hr, by simp, F', rfl, .inr ⟨rfl, f4, f5, by omega⟩⟩
      · right
        obtain ⟨F', hr, f0, f6⟩ := wsp_last (self := self) (nf := nf) (m := m') g15 g16 (by omega)
        have : i = szs.length := by omega
        subst this
        rw [List.take_of_length_le (by omega)] at gt
        exact ⟨_, _, _, hr, by simp, F', rfl, .inl ⟨rfl, gp, f0.trans g0, f6.trans g6, by rw [gb, gt]⟩⟩)
  have he : s.extract 0 s.data.toList.length = s := extract_all s
  obtain ⟨e, T', m', hr, F', rfl, hq⟩ := hloop szs.length 0 nf (lst F 37) m0 (by omega) (by omega) ⟨F, List.replicate szs.length (.string ⟨#[]⟩), rfl, hk, by rw [psum_zero]; omega, by rw [psum_zero, he, h0], h14, h15, h16, h6, hpb, by simp, rfl⟩
  exact ⟨e, F', m', hr, hq⟩
end Go.Am.Seat

/-
  wire.Split, whole (own work).
-/
set_option linter.unusedSimpArgs false
set_option linter.unusedVariables false
namespace Go.Am.Seat
open Go.Proofs Go.Am
set_option maxRecDepth 100000

theorem callNeg : callableB E.P 19 = true := by kernel_rfl
theorem neqS (x y : Operand) (s : ByteArray) : neqVal E.P 9 x y (.string s) (.string ⟨#[]⟩) = some (.bool !(s.toList == ([] : List UInt8))) := by kernel_rfl
theorem toList_nil (s : ByteArray) (h : s.data.toList.length = 0) : (s.toList == ([] : List UInt8)) = true := by
  have : s = ⟨#[]⟩ := by
    apply ba_eq
    exact List.eq_nil_of_length_eq_zero h
  subst this
  rw [ByteArray.toList_eq]
  rfl

/-- What Split leaves. -/
def SpA (m m' : Mem) (v : Value) (l : List ByteArray) (e : Nat) : Prop :=
  (e ≠ 0 ∧ v = .slice none 0 0 ∧ l = []) ∨ (e = 0 ∧ v = .slice (some ⟨m.length, 0, none⟩) l.length l.length ∧ m'[m.length]? = some (.row false 9 (l.map Value.string)))

theorem wsp_body {n nf : Nat} {m : Mem} {s : ByteArray} {szs : List Int} {vs : Value} (hn : 1000 ≤ n) (hs : RS m vs (szs.map (Value.int .i64))) (hL : szs.length ≤ 1000) (hlen : s.data.toList.length ≤ 1000000) (hnf : 1000 < nf) :
    ∃ v m', abody E (runQ E mem0 [] (n + 1)).1 nf 7 [.string s, vs] m = some (.tuple ⟨[v, .int .i64 (splitE s szs : Nat)]⟩, m') ∧ SpA m m' v (splitL s szs) (splitE s szs) := by
  have hneg := cneg (n := n) hn hs hL
  rw [abody_eqF (by kernel_rfl) Try.func7 bodywsp (by kernel_rfl) (Nat.le_of_ble_eq_true rfl)]
  rw [show Try.f7.ntmps = 37 from rfl]
  cases ha : szs.any (fun n => decide (n < 0)) with
  | true =>
    rw [ha] at hneg
    have he : splitE s szs = 2 := by unfold splitE; rw [ha]; rfl
    have hl : splitL s szs = [] := by unfold splitL; rw [he]; rfl
    simp only [ewsp_0, ewsp_1, ewsp_10, ewsp_11, ewsp_12, ewsp_13, ewsp_14, ewsp_2, ewsp_3, ewsp_4, ewsp_5, ewsp_6, ewsp_7, ewsp_8, ewsp_9, lwsp_0, lwsp_1, lwsp_2, lwsp_3, lwsp_4, lwsp_5, lwsp_6, lwsp_7, lwsp_8, lwsp_9, lwsp_10, lwsp_11, lwsp_12, lwsp_13, lwsp_14, agd_none, gdAt, gdV_bool, gdV_undef, Try.f7, List.append_eq, List.cons_append, List.nil_append, apure_call1, apure_call2, apure_call3, bft, btf, acodeN, List.getElem?_toArray, List.getElem?_cons_zero, List.getElem?_cons_succ, aopsN, adrawT, cls, astep, aop, afloat, ev, nth_lst, get_lst, aput, setAt_lst, upd_at, init_zero, init_succ, init_nil, Nat.reduceLT, Nat.reduceEqDiff, reduceIte, abuiltin, alen, Option.map_some, Option.map_none, orElse_some, apure_add, apure_eqlV, eqlVal_str, eqlVal_bool, eqlVal_ptr, eqlVal_slice, eqlVal_int, allT, ↓aop_eqlV, apure_neq, List.map_cons, List.map_nil, List.all_cons, List.all_nil, lit2, lit1, lit0, List.isEmpty_nil, Bool.and_self, Bool.and_true, Bool.true_and, Bool.false_and, Bool.and_false, Bool.not_true, Bool.not_false, Bool.or_true, Bool.true_or, Bool.false_or, Bool.or_false, Bool.false_eq_true, if_true, if_false, List.length_map, beq_self_eq_true, und3, und4, und5, und9, callNeg, hneg, finish, ares, aresL, ares1, he, hl]
    exact ⟨_, _, rfl, .inl ⟨by omega, rfl, rfl⟩⟩
  | false =>
    rw [ha] at hneg
    have hpos : ∀ (i : Nat) (n : Int), szs[i]? = some n → 0 ≤ n := by
      intro i n h
      rw [List.any_eq_false] at ha
      have := ha n (List.mem_of_getElem? h)
      simpa using this
    have done : ∀ (F : Nat → Value) (m' : Mem), psum szs szs.length ≤ s.data.toList.length → F 0 = .string (s.extract (psum szs szs.length) s.data.toList.length) → F 6 = .slice (some ⟨m.length, 0, none⟩) szs.length szs.length → m'[m.length]? = some (.row false 9 (((List.range szs.length).map (cutAt s szs)).map Value.string)) →
        ∃ v m2, finish E.P Try.f7 (acodeN E (runQ E mem0 [] (n + 1)).1 nf (.seq (.seq (.region 12 rwsp_12 false) (.cond (.tmp 35) (.seq (.region 13 rwsp_13 false) .ret) .skip)) (.seq (.region 14 rwsp_14 false) .ret)) (lst F 37) m') = some (.tuple ⟨[v, .int .i64 (splitE s szs : Nat)]⟩, m2) ∧ SpA m m2 v (splitL s szs) (splitE s szs) := by
      intro F m' hle f0 f6 hb
      have hz := extract_size (s := s) hle (Nat.le_refl _)
      by_cases hlt : psum szs szs.length < s.data.toList.length
      · have he : splitE s szs = 4 := by unfold splitE; rw [ha, if_neg (by simp), if_neg (by omega), if_pos hlt]
        have hl : splitL s szs = [] := by unfold splitL; rw [he]; rfl
        have q : ((s.extract (psum szs szs.length) s.data.toList.length).toList == ([] : List UInt8)) = false := by
          cases hq : ((s.extract (psum szs szs.length) s.data.toList.length).toList == ([] : List UInt8)) with
          | false => rfl
          | true =>
            have h1 : (s.extract (psum szs szs.length) s.data.toList.length).toList = [] := by simpa using hq
            rw [ByteArray.toList_eq] at h1
            rw [h1, List.length_nil] at hz
            omega
        generalize s.extract (psum szs szs.length) s.data.toList.length = t at *
        simp only [ewsp_0, ewsp_1, ewsp_10, ewsp_11, ewsp_12, ewsp_13, ewsp_14, ewsp_2, ewsp_3, ewsp_4, ewsp_5, ewsp_6, ewsp_7, ewsp_8, ewsp_9, lwsp_0, lwsp_1, lwsp_2, lwsp_3, lwsp_4, lwsp_5, lwsp_6, lwsp_7, lwsp_8, lwsp_9, lwsp_10, lwsp_11, lwsp_12, lwsp_13, lwsp_14, agd_none, gdAt, gdV_bool, gdV_undef, Try.f7, List.append_eq, List.cons_append, List.nil_append, apure_call1, apure_call2, apure_call3, bft, btf, acodeN, List.getElem?_toArray, List.getElem?_cons_zero, List.getElem?_cons_succ, aopsN, adrawT, cls, astep, aop, afloat, ev, nth_lst, get_lst, aput, setAt_lst, upd_at, init_zero, init_succ, init_nil, Nat.reduceLT, Nat.reduceEqDiff, reduceIte, abuiltin, alen, Option.map_some, Option.map_none, orElse_some, apure_add, apure_eqlV, eqlVal_str, eqlVal_bool, eqlVal_ptr, eqlVal_slice, eqlVal_int, allT, ↓aop_eqlV, apure_neqV, List.map_cons, List.map_nil, List.all_cons, List.all_nil, lit2, lit1, lit0, List.isEmpty_nil, Bool.and_self, Bool.and_true, Bool.true_and, Bool.false_and, Bool.and_false, Bool.not_true, Bool.not_false, Bool.or_true, Bool.true_or, Bool.false_or, Bool.or_false, Bool.false_eq_true, if_true, if_false, List.length_map, beq_self_eq_true, und3, und4, und5, und9, f0, f6, neqS, q, finish, ares, aresL, ares1, he, hl]
        exact ⟨_, _, rfl, .inl ⟨by omega, rfl, rfl⟩⟩
      · have he : splitE s szs = 0 := by unfold splitE; rw [ha, if_neg (by simp), if_neg (by omega), if_neg hlt]
        have hl : splitL s szs = (List.range szs.length).map (cutAt s szs) := by unfold splitL; rw [if_pos he]
        have q := toList_nil (s.extract (psum szs szs.length) s.data.toList.length) (by omega)
        generalize s.extract (psum szs szs.length) s.data.toList.length = t at *
        rw [hl]
        simp only [ewsp_0, ewsp_1, ewsp_10, ewsp_11, ewsp_12, ewsp_13, ewsp_14, ewsp_2, ewsp_3, ewsp_4, ewsp_5, ewsp_6, ewsp_7, ewsp_8, ewsp_9, lwsp_0, lwsp_1, lwsp_2, lwsp_3, lwsp_4, lwsp_5, lwsp_6, lwsp_7, lwsp_8, lwsp_9, lwsp_10, lwsp_11, lwsp_12, lwsp_13, lwsp_14, agd_none, gdAt, gdV_bool, gdV_undef, Try.f7, List.append_eq, List.cons_append, List.nil_append, apure_call1, apure_call2, apure_call3, bft, btf, acodeN, List.getElem?_toArray, List.getElem?_cons_zero, List.getElem?_cons_succ, aopsN, adrawT, cls, astep, aop, afloat, ev, nth_lst, get_lst, aput, setAt_lst, upd_at, init_zero, init_succ, init_nil, Nat.reduceLT, Nat.reduceEqDiff, reduceIte, abuiltin, alen, Option.map_some, Option.map_none, orElse_some, apure_add, apure_eqlV, eqlVal_str, eqlVal_bool, eqlVal_ptr, eqlVal_slice, eqlVal_int, allT, ↓aop_eqlV, apure_neqV, List.map_cons, List.map_nil, List.all_cons, List.all_nil, lit2, lit1, lit0, List.isEmpty_nil, Bool.and_self, Bool.and_true, Bool.true_and, Bool.false_and, Bool.and_false, Bool.not_true, Bool.not_false, Bool.or_true, Bool.true_or, Bool.false_or, Bool.or_false, Bool.false_eq_true, if_true, if_false, List.length_map, beq_self_eq_true, und3, und4, und5, und9, f0, f6, neqS, q, finish, ares, aresL, ares1, he]
        exact ⟨_, _, rfl, .inr ⟨rfl, by simp, hb⟩⟩
    generalize hR : (Code.seq (.seq (.region 12 rwsp_12 false) (.cond (.tmp 35) (.seq (.region 13 rwsp_13 false) .ret) .skip)) (.seq (.region 14 rwsp_14 false) .ret)) = R at done ⊢
    rcases hs with ⟨hz, rfl⟩ | ⟨b, o, c, rfl, hs⟩
    · have hz : szs = [] := by simpa using hz
      subst hz
      obtain ⟨k, rfl⟩ : ∃ g, nf = g + 1 := ⟨nf - 1, by omega⟩
      have mk0 := makeSt 0 (by omega) m
      rw [show (((0 : Nat) : Int)) = 0 from rfl] at mk0
      obtain ⟨F', hr, f0, f6⟩ := wsp_last (self := (runQ E mem0 [] (n + 1)).1) (nf := k + 1) (m := m ++ [.row false 9 (List.replicate 0 (.string ⟨#[]⟩))]) (L := 0) (i := 0) (F := upd (upd (upd (upd (upd (upd (upd (upd (upd (upd (upd (init [.string s, .slice none 0 0]) 4 (.slice none 0 0)) 5 (.int .i64 0)) 9 (.slice none 0 0)) 10 (.bool false)) 11 (.slice none 0 0)) 12 (.int .i64 0)) 13 (.slice (some ⟨m.length, 0, none⟩) 0 0)) 6 (.slice (some ⟨m.length, 0, none⟩) 0 0)) 14 (.slice none 0 0)) 15 (.int .i64 0)) 16 (.int .i64 0)) rfl rfl (Nat.le_refl _)
      have hr' := congrArg (fun x => x) hr
      have ex := done F' (m ++ [.row false 9 (List.replicate 0 (.string ⟨#[]⟩))]) (by simp [psum]) (by rw [f0]; show Value.string s = _; rw [List.length_nil, psum_zero, extract_all]) (by rw [f6]; rfl) (by simp)
      simp only [ewsp_0, ewsp_1, ewsp_10, ewsp_11, ewsp_12, ewsp_13, ewsp_14, ewsp_2, ewsp_3, ewsp_4, ewsp_5, ewsp_6, ewsp_7, ewsp_8, ewsp_9, lwsp_0, lwsp_1, lwsp_2, lwsp_3, lwsp_4, lwsp_5, lwsp_6, lwsp_7, lwsp_8, lwsp_9, lwsp_10, lwsp_11, lwsp_12, lwsp_13, lwsp_14, agd_none, gdAt, gdV_bool, gdV_undef, Try.f7, List.append_eq, List.cons_append, List.nil_append, apure_call1, apure_call2, apure_call3, bft, btf, acodeN, List.getElem?_toArray, List.getElem?_cons_zero, List.getElem?_cons_succ, aopsN, adrawT, cls, astep, aop, afloat, ev, nth_lst, get_lst, aput, setAt_lst, upd_at, init_zero, init_succ, init_nil, Nat.reduceLT, Nat.reduceEqDiff, reduceIte, abuiltin, alen, Option.map_some, Option.map_none, orElse_some, apure_add, apure_eqlV, eqlVal_str, eqlVal_bool, eqlVal_ptr, eqlVal_slice, eqlVal_int, allT, ↓aop_eqlV, apure_neq, List.map_cons, List.map_nil, List.all_cons, List.all_nil, lit2, lit1, lit0, List.isEmpty_nil, Bool.and_self, Bool.and_true, Bool.true_and, Bool.false_and, Bool.and_false, Bool.not_true, Bool.not_false, Bool.or_true, Bool.true_or, Bool.false_or, Bool.or_false, Bool.false_eq_true, if_true, if_false, List.length_map, beq_self_eq_true, und3, und4, und5, und9, callNeg, hneg, lenI, mk0, aloop, hr]
      exact ex
    · rw [List.length_map] at hneg ⊢
      have hbm : szs ≠ [] → b < m.length := by
        intro hne
        obtain ⟨x, l, rfl⟩ := List.exists_cons_of_ne_nil hne
        have h := hs 0 (.int .i64 x) rfl
        by_cases hb : b < m.length
        · exact hb
        · have : look m b = none := by
            unfold look
            rw [List.getElem?_eq_none (by omega)]
          unfold cellAt at h
          rw [this] at h
          cases h
      have mk0 := makeSt szs.length (by omega) m
      obtain ⟨e, F', m', hr, hq⟩ := wsp_loop (self := (runQ E mem0 [] (n + 1)).1) (nf := nf) (m := m) (m0 := m ++ [.row false 9 (List.replicate szs.length (.string ⟨#[]⟩))]) (s := s) (c := c) hL hnf hbm hs hpos (fun k hk => List.getElem?_append_left hk) (by simp) (F := upd (upd (upd (upd (upd (upd (upd (upd (upd (upd (upd (init [.string s, .slice (some ⟨b, o, none⟩) szs.length c]) 4 (.slice none 0 0)) 5 (.int .i64 0)) 9 (.slice (some ⟨b, o, none⟩) szs.length c)) 10 (.bool false)) 11 (.slice (some ⟨b, o, none⟩) szs.length c)) 12 (.int .i64 ((szs.length : Nat) : Int))) 13 (.slice (some ⟨m.length, 0, none⟩) 0 szs.length)) 6 (.slice (some ⟨m.length, 0, none⟩) 0 szs.length)) 14 (.slice (some ⟨b, o, none⟩) szs.length c)) 15 (.int .i64 ((szs.length : Nat) : Int))) 16 (.int .i64 0)) rfl rfl rfl rfl rfl
      rcases hq with ⟨rfl, hle, f0, f6, hb⟩ | ⟨rfl, f4, f5, hgt⟩
      · have ex := done F' m' hle f0 f6 hb
        simp only [ewsp_0, ewsp_1, ewsp_10, ewsp_11, ewsp_12, ewsp_13, ewsp_14, ewsp_2, ewsp_3, ewsp_4, ewsp_5, ewsp_6, ewsp_7, ewsp_8, ewsp_9, lwsp_0, lwsp_1, lwsp_2, lwsp_3, lwsp_4, lwsp_5, lwsp_6, lwsp_7, lwsp_8, lwsp_9, lwsp_10, lwsp_11, lwsp_12, lwsp_13, lwsp_14, agd_none, gdAt, gdV_bool, gdV_undef, Try.f7, List.append_eq, List.cons_append, List.nil_append, apure_call1, apure_call2, apure_call3, bft, btf, acodeN, List.getElem?_toArray, List.getElem?_cons_zero, List.getElem?_cons_succ, aopsN, adrawT, cls, astep, aop, afloat, ev, nth_lst, get_lst, aput, setAt_lst, upd_at, init_zero, init_succ, init_nil, Nat.reduceLT, Nat.reduceEqDiff, reduceIte, abuiltin, alen, Option.map_some, Option.map_none, orElse_some, apure_add, apure_eqlV, eqlVal_str, eqlVal_bool, eqlVal_ptr, eqlVal_slice, eqlVal_int, allT, ↓aop_eqlV, apure_neq, List.map_cons, List.map_nil, List.all_cons, List.all_nil, lit2, lit1, lit0, List.isEmpty_nil, Bool.and_self, Bool.and_true, Bool.true_and, Bool.false_and, Bool.and_false, Bool.not_true, Bool.not_false, Bool.or_true, Bool.true_or, Bool.false_or, Bool.or_false, Bool.false_eq_true, if_true, if_false, List.length_map, beq_self_eq_true, und3, und4, und5, und9, callNeg, hneg, undIS, mk0, hr]
        exact ex
      · have he : splitE s szs = 3 := by unfold splitE; rw [ha, if_neg (by simp), if_pos hgt]
        have hl : splitL s szs = [] := by unfold splitL; rw [he]; rfl
        simp only [ewsp_0, ewsp_1, ewsp_10, ewsp_11, ewsp_12, ewsp_13, ewsp_14, ewsp_2, ewsp_3, ewsp_4, ewsp_5, ewsp_6, ewsp_7, ewsp_8, ewsp_9, lwsp_0, lwsp_1, lwsp_2, lwsp_3, lwsp_4, lwsp_5, lwsp_6, lwsp_7, lwsp_8, lwsp_9, lwsp_10, lwsp_11, lwsp_12, lwsp_13, lwsp_14, agd_none, gdAt, gdV_bool, gdV_undef, Try.f7, List.append_eq, List.cons_append, List.nil_append, apure_call1, apure_call2, apure_call3, bft, btf, acodeN, List.getElem?_toArray, List.getElem?_cons_zero, List.getElem?_cons_succ, aopsN, adrawT, cls, astep, aop, afloat, ev, nth_lst, get_lst, aput, setAt_lst, upd_at, init_zero, init_succ, init_nil, Nat.reduceLT, Nat.reduceEqDiff, reduceIte, abuiltin, alen, Option.map_some, Option.map_none, orElse_some, apure_add, apure_eqlV, eqlVal_str, eqlVal_bool, eqlVal_ptr, eqlVal_slice, eqlVal_int, allT, ↓aop_eqlV, apure_neq, List.map_cons, List.map_nil, List.all_cons, List.all_nil, lit2, lit1, lit0, List.isEmpty_nil, Bool.and_self, Bool.and_true, Bool.true_and, Bool.false_and, Bool.and_false, Bool.not_true, Bool.not_false, Bool.or_true, Bool.true_or, Bool.false_or, Bool.or_false, Bool.false_eq_true, if_true, if_false, List.length_map, beq_self_eq_true, und3, und4, und5, und9, callNeg, hneg, undIS, mk0, hr, f4, f5, finish, ares, aresL, ares1, he, hl]
        exact ⟨_, _, rfl, .inl ⟨by omega, rfl, rfl⟩⟩

theorem csplit_wire {n : Nat} (hn : 1000 ≤ n) : CSplitC 7 (runQ E mem0 [] (n + 2)).1 := by
  intro m s szs vs hs hl1 hsl hw
  have key : ∀ M : Mem, RS M vs (szs.map (Value.int .i64)) → ∃ v m', acoll m M.length v m' = acoll m M.length v m' ∧ (runQ E mem0 [] (n + 2)).1 7 [.string s, vs] M = some (.tuple ⟨[v, .int .i64 (splitE s szs : Nat)]⟩, m') ∧ SpA M m' v (splitL s szs) (splitE s szs) := by
    intro M hM
    obtain ⟨v, m', h1, h2⟩ := wsp_body (n := n) (nf := n + 2) (m := M) (s := s) hn hM (by omega) (by omega) (by omega : 1000 < n + 2)
    exact ⟨v, m', rfl, runQ_body h1, h2⟩
  have fin : ∀ (M : Mem) (v : Value) (m' : Mem), SpA M m' v (splitL s szs) (splitE s szs) → ∃ v2 m2, acoll m M.length (.tuple ⟨[v, .int .i64 (splitE s szs : Nat)]⟩) m' = some (.tuple ⟨[v2, .int .i64 (splitE s szs : Nat)]⟩, m2) ∧ RS m2 v2 ((splitL s szs).map Value.string) ∧ Kept m m2 ∧ CapOk v2 := by
    intro M v m' h
    rcases h with ⟨_, rfl, hl⟩ | ⟨_, rfl, hb⟩
    · refine ⟨.slice none 0 0, m, ?_, by rw [hl]; exact .inl ⟨rfl, rfl⟩, Kept.refl m, Nat.le_refl _⟩
      unfold acoll
      exact if_pos rfl
    · refine ⟨_, _, acoll_pair (Nat.le_refl _) hb (lits_texts _), .inr ⟨m.length, 0, _, by rw [List.length_map], fun i x hx => ?_⟩, Kept.app _ _, Nat.le_refl _⟩
      have hm : (m ++ [Blk.row false 9 ((splitL s szs).map Value.string)])[m.length]? = some (.row false 9 ((splitL s szs).map Value.string)) := by simp
      rw [cellAt_row hm, Nat.zero_add]
      exact hx
  by_cases hlit : lit2 vs = true
  · have hall : ([Value.string s, vs].all lit2) = true := by
      simp only [List.all_cons, List.all_nil, Bool.and_true, hlit]
      rfl
    obtain ⟨v, m', _, h1, h2⟩ := key ((m.take E.G).map onlyTab) (.inl (hs.lit hlit))
    obtain ⟨v2, m2, h3, h4⟩ := fin _ v m' h2
    refine ⟨v2, m2, ?_, h4⟩
    unfold ainv
    rw [if_pos hall, show E.fast 7 = none from by kernel_rfl]
    simp only [h1]
    exact h3
  · have hall : ([Value.string s, vs].all lit2) = false := by
      simp only [List.all_cons, List.all_nil, Bool.and_true]
      have : lit2 vs = false := by simpa using hlit
      rw [this]
      simp
    obtain ⟨v, m', _, h1, h2⟩ := key (m.map sealed) hs.sealed
    obtain ⟨v2, m2, h3, h4⟩ := fin _ v m' h2
    refine ⟨v2, m2, ?_, h4⟩
    unfold ainv
    rw [hall, show E.wr 7 = false from by kernel_rfl]
    simp only [Bool.false_eq_true, if_false, h1]
    exact h3

/-- What Split answers where there are lengths. -/
theorem csplit_ex {n : Nat} (hn : 1000 ≤ n) {m : Mem} {s : ByteArray} {szs : List Int} {b o c : Nat} (hs : RS m (.slice (some ⟨b, o, none⟩) szs.length c) (szs.map (Value.int .i64))) (hl : szs.length ≤ 1000) (hsl : s.data.toList.length ≤ 1000) :
    ainv E (runQ E mem0 [] (n + 2)).1 7 [.string s, .slice (some ⟨b, o, none⟩) szs.length c] m =
      if splitE s szs = 0 then some (.tuple ⟨[.slice (some ⟨m.length, 0, none⟩) (splitL s szs).length (splitL s szs).length, .int .i64 0]⟩, m ++ [.row false 9 ((splitL s szs).map Value.string)]) else some (.tuple ⟨[.slice none 0 0, .int .i64 (splitE s szs : Nat)]⟩, m) := by
  obtain ⟨v, m', h1, h2⟩ := wsp_body (n := n) (nf := n + 2) (m := m.map sealed) (s := s) hn hs.sealed hl (by omega) (by omega)
  have h1 := runQ_body h1
  unfold ainv
  rw [show ([Value.string s, .slice (some ⟨b, o, none⟩) szs.length c].all lit2) = false from rfl, show E.wr 7 = false from by kernel_rfl]
  simp only [Bool.false_eq_true, if_false, h1]
  rcases h2 with ⟨he, rfl, hl⟩ | ⟨he, rfl, hb⟩
  · rw [if_neg he]
    unfold acoll
    exact if_pos rfl
  · rw [if_pos he, he]
    have := acoll_pair (m := m) (n := (m.map sealed).length) (k := (splitL s szs).length) (c := (splitL s szs).length) (kd := .i64) (z := 0) (Nat.le_refl _) hb (lits_texts _)
    rw [List.length_map] at this ⊢
    exact this
end Go.Am.Seat
