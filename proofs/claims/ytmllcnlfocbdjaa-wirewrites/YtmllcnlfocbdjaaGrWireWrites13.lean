/-
  Texts of my own, put together: W1, W2.
-/
import Derived.Test.YtmllcnlfocbdjaaGrWireWrites12
/-
  Rows of cells that slices lead to; the document's Join, and whether two rows are alike (own work).
-/
set_option linter.unusedSimpArgs false
set_option linter.unusedVariables false
namespace Go.Am.Seat
open Go.Proofs Go.Am
set_option maxRecDepth 100000

theorem undSS : E.P.underlying 23 = some (.slice 9) := Try.underlying23
theorem undIS : E.P.underlying 22 = some (.slice 3) := Try.underlying22

/-- What a slice leads to: cells. -/
def RS (m : Mem) (v : Value) (l : List Value) : Prop :=
  (l = [] ∧ v = .slice none 0 0) ∨ ∃ b o c, v = .slice (some ⟨b, o, none⟩) l.length c ∧ ∀ (i : Nat) (x : Value), l[i]? = some x → cellAt m b (o + i) = some x

theorem ixSS {p o L c i : Nat} (h : i < L) : aindexAddr E.P 23 (.slice (some ⟨p, o, none⟩) L c) (.int .i64 (i : Nat)) = some (.pointer (some ⟨p, o + i, none⟩)) := by
  have h9 : (E.P.info? 9).map (·.size) = some 1 := by kernel_rfl
  obtain ⟨e, h1, h2⟩ := Option.map_eq_some_iff.1 h9
  unfold aindexAddr
  simp only [undSS, h1]
  rw [if_pos (by omega), h2]
  simp
theorem ixIS {p o L c i : Nat} (h : i < L) : aindexAddr E.P 22 (.slice (some ⟨p, o, none⟩) L c) (.int .i64 (i : Nat)) = some (.pointer (some ⟨p, o + i, none⟩)) := by
  have h9 : (E.P.info? 3).map (·.size) = some 1 := by kernel_rfl
  obtain ⟨e, h1, h2⟩ := Option.map_eq_some_iff.1 h9
  unfold aindexAddr
  simp only [undIS, h1]
  rw [if_pos (by omega), h2]
  simp
theorem ldS (b o : Nat) (m : Mem) : aload E.P 9 (.pointer (some ⟨b, o, none⟩)) m = cellAt m b o := aload_cell und9 rfl b o m
theorem ldI (b o : Nat) (m : Mem) : aload E.P 3 (.pointer (some ⟨b, o, none⟩)) m = cellAt m b o := aload_cell und3 rfl b o m
theorem lenS (ty : TypeId) : apC1 E.P .len #[23] ty (.slice none 0 0) = some (.int .i64 0) := by kernel_rfl
theorem lenI (ty : TypeId) : apC1 E.P .len #[22] ty (.slice none 0 0) = some (.int .i64 0) := by kernel_rfl

noncomputable def rrjn_0 : Array Oper := match Try.f10.body with
  | some (.seq (.region _ o _) _) => o
  | _ => #[]
noncomputable def lrjn_0 : List Oper := match Try.f10.body with
  | some (.seq (.region _ o _) _) => o.toList
  | _ => []
theorem erjn_0 : rrjn_0.toList = lrjn_0 := rfl
noncomputable def rrjn_1 : Array Oper := match Try.f10.body with
  | some (.seq _ (.seq (.seq (.region _ o _) _) _)) => o
  | _ => #[]
noncomputable def lrjn_1 : List Oper := match Try.f10.body with
  | some (.seq _ (.seq (.seq (.region _ o _) _) _)) => o.toList
  | _ => []
theorem erjn_1 : rrjn_1.toList = lrjn_1 := rfl
noncomputable def rrjn_2 : Array Oper := match Try.f10.body with
  | some (.seq _ (.seq (.seq _ (.cond _ (.seq (.region _ o _) _) _)) _)) => o
  | _ => #[]
noncomputable def lrjn_2 : List Oper := match Try.f10.body with
  | some (.seq _ (.seq (.seq _ (.cond _ (.seq (.region _ o _) _) _)) _)) => o.toList
  | _ => []
theorem erjn_2 : rrjn_2.toList = lrjn_2 := rfl
noncomputable def rrjn_3 : Array Oper := match Try.f10.body with
  | some (.seq _ (.seq _ (.seq (.region _ o _) _))) => o
  | _ => #[]
noncomputable def lrjn_3 : List Oper := match Try.f10.body with
  | some (.seq _ (.seq _ (.seq (.region _ o _) _))) => o.toList
  | _ => []
theorem erjn_3 : rrjn_3.toList = lrjn_3 := rfl
noncomputable def rrjn_4 : Array Oper := match Try.f10.body with
  | some (.seq _ (.seq _ (.seq _ (.seq (.seq (.region _ o _) _) _)))) => o
  | _ => #[]
noncomputable def lrjn_4 : List Oper := match Try.f10.body with
  | some (.seq _ (.seq _ (.seq _ (.seq (.seq (.region _ o _) _) _)))) => o.toList
  | _ => []
theorem erjn_4 : rrjn_4.toList = lrjn_4 := rfl
noncomputable def lprjn_0 : Code := match Try.f10.body with
  | some (.seq _ (.seq _ (.seq _ (.seq (.seq _ (.block _ (.loop c))) _)))) => c
  | _ => .skip
noncomputable def rrjn_5 : Array Oper := match Try.f10.body with
  | some (.seq _ (.seq _ (.seq _ (.seq (.seq _ (.block _ (.loop (.seq (.region _ o _) _)))) _)))) => o
  | _ => #[]
noncomputable def lrjn_5 : List Oper := match Try.f10.body with
  | some (.seq _ (.seq _ (.seq _ (.seq (.seq _ (.block _ (.loop (.seq (.region _ o _) _)))) _)))) => o.toList
  | _ => []
theorem erjn_5 : rrjn_5.toList = lrjn_5 := rfl
noncomputable def rrjn_6 : Array Oper := match Try.f10.body with
  | some (.seq _ (.seq _ (.seq _ (.seq (.seq _ (.block _ (.loop (.seq _ (.seq _ (.seq (.block _ (.seq (.region _ o _) _)) _)))))) _)))) => o
  | _ => #[]
noncomputable def lrjn_6 : List Oper := match Try.f10.body with
  | some (.seq _ (.seq _ (.seq _ (.seq (.seq _ (.block _ (.loop (.seq _ (.seq _ (.seq (.block _ (.seq (.region _ o _) _)) _)))))) _)))) => o.toList
  | _ => []
theorem erjn_6 : rrjn_6.toList = lrjn_6 := rfl
noncomputable def rrjn_7 : Array Oper := match Try.f10.body with
  | some (.seq _ (.seq _ (.seq _ (.seq (.seq _ (.block _ (.loop (.seq _ (.seq _ (.seq (.block _ (.seq _ (.seq (.seq (.region _ o _) _) _))) _)))))) _)))) => o
  | _ => #[]
noncomputable def lrjn_7 : List Oper := match Try.f10.body with
  | some (.seq _ (.seq _ (.seq _ (.seq (.seq _ (.block _ (.loop (.seq _ (.seq _ (.seq (.block _ (.seq _ (.seq (.seq (.region _ o _) _) _))) _)))))) _)))) => o.toList
  | _ => []
theorem erjn_7 : rrjn_7.toList = lrjn_7 := rfl
noncomputable def rrjn_8 : Array Oper := match Try.f10.body with
  | some (.seq _ (.seq _ (.seq _ (.seq (.seq _ (.block _ (.loop (.seq _ (.seq _ (.seq (.block _ (.seq _ (.seq (.seq _ (.cond _ (.seq (.region _ o _) _) _)) _))) _)))))) _)))) => o
  | _ => #[]
noncomputable def lrjn_8 : List Oper := match Try.f10.body with
  | some (.seq _ (.seq _ (.seq _ (.seq (.seq _ (.block _ (.loop (.seq _ (.seq _ (.seq (.block _ (.seq _ (.seq (.seq _ (.cond _ (.seq (.region _ o _) _) _)) _))) _)))))) _)))) => o.toList
  | _ => []
theorem erjn_8 : rrjn_8.toList = lrjn_8 := rfl
noncomputable def rrjn_9 : Array Oper := match Try.f10.body with
  | some (.seq _ (.seq _ (.seq _ (.seq (.seq _ (.block _ (.loop (.seq _ (.seq _ (.seq (.block _ (.seq _ (.seq _ (.region _ o _)))) _)))))) _)))) => o
  | _ => #[]
noncomputable def lrjn_9 : List Oper := match Try.f10.body with
  | some (.seq _ (.seq _ (.seq _ (.seq (.seq _ (.block _ (.loop (.seq _ (.seq _ (.seq (.block _ (.seq _ (.seq _ (.region _ o _)))) _)))))) _)))) => o.toList
  | _ => []
theorem erjn_9 : rrjn_9.toList = lrjn_9 := rfl
noncomputable def rrjn_10 : Array Oper := match Try.f10.body with
  | some (.seq _ (.seq _ (.seq _ (.seq (.seq _ (.block _ (.loop (.seq _ (.seq _ (.seq _ (.region _ o _))))))) _)))) => o
  | _ => #[]
noncomputable def lrjn_10 : List Oper := match Try.f10.body with
  | some (.seq _ (.seq _ (.seq _ (.seq (.seq _ (.block _ (.loop (.seq _ (.seq _ (.seq _ (.region _ o _))))))) _)))) => o.toList
  | _ => []
theorem erjn_10 : rrjn_10.toList = lrjn_10 := rfl
theorem lprjn_0_eq : lprjn_0 = (.seq (.region 5 rrjn_5 false) (.seq (.cond (.tmp 17) .skip (.exit 0)) (.seq (.block 1 (.seq (.region 6 rrjn_6 false) (.seq (.seq (.region 7 rrjn_7 false) (.cond (.tmp 27) (.seq (.region 8 rrjn_8 false) .ret) .skip)) (.region 9 rrjn_9 false)))) (.region 10 rrjn_10 false)))) := rfl
noncomputable def rrjn_11 : Array Oper := match Try.f10.body with
  | some (.seq _ (.seq _ (.seq _ (.seq _ (.seq (.region _ o _) _))))) => o
  | _ => #[]
noncomputable def lrjn_11 : List Oper := match Try.f10.body with
  | some (.seq _ (.seq _ (.seq _ (.seq _ (.seq (.region _ o _) _))))) => o.toList
  | _ => []
theorem erjn_11 : rrjn_11.toList = lrjn_11 := rfl
theorem bodyrjn : Try.f10.body = some (.seq (.region 0 rrjn_0 false) (.seq (.seq (.region 1 rrjn_1 false) (.cond (.tmp 13) (.seq (.region 2 rrjn_2 false) .ret) .skip)) (.seq (.region 3 rrjn_3 false) (.seq (.seq (.region 4 rrjn_4 false) (.block 0 (.loop lprjn_0))) (.seq (.region 11 rrjn_11 false) .ret))))) := rfl
-- ntmps 33

section
variable {self : Self} {nf : Nat} {m : Mem} {F : Nat → Value} {b0 o0 c0 b1 o1 c1 L i : Nat} {acc s : ByteArray} {n : Int}

theorem rjn_iter (h0 : F 0 = .slice (some ⟨b0, o0, none⟩) L c0) (h14 : F 14 = .slice (some ⟨b1, o1, none⟩) L c1) (h15 : F 15 = .int .i64 (L : Nat)) (h16 : F 16 = .int .i64 (i : Nat)) (h6 : F 6 = .string acc) (hi : i < L) (hL : L ≤ 1000000)
    (hx : cellAt m b1 (o1 + i) = some (.string s)) (hy : cellAt m b0 (o0 + i) = some (.int .i64 n)) (hn : ((s.data.toList.length : Nat) : Int) = n) (hsz : acc.size + s.size ≤ 9223372036854775807) :
    ∃ F', acodeN E self nf lprjn_0 (lst F 33) m = some (.normal, lst F' 33, m) ∧ F' 0 = F 0 ∧ F' 14 = F 14 ∧ F' 15 = F 15 ∧ F' 16 = .int .i64 ((i + 1 : Nat) : Int) ∧ F' 6 = .string (acc ++ s) := by
  have hlt : decide (((i : Nat) : Int) < ((L : Nat) : Int)) = true := by simpa using hi
  have hne : ((((s.data.toList.length : Nat) : Int)) != n) = false := by rw [hn]; simp
  have e1 := w1 (i := i) (by omega)
  simp only [lprjn_0_eq, erjn_0, erjn_1, erjn_10, erjn_11, erjn_2, erjn_3, erjn_4, erjn_5, erjn_6, erjn_7, erjn_8, erjn_9, lrjn_0, lrjn_1, lrjn_2, lrjn_3, lrjn_4, lrjn_5, lrjn_6, lrjn_7, lrjn_8, lrjn_9, lrjn_10, lrjn_11, agd_none, gdAt, gdV_bool, gdV_undef, Try.f10, List.append_eq, List.cons_append, List.nil_append, apure_call1, apure_call2, apure_call3, bft, btf, acodeN, List.getElem?_toArray, List.getElem?_cons_zero, List.getElem?_cons_succ, aopsN, adrawT, cls, astep, aop, afloat, ev, nth_lst, get_lst, aput, setAt_lst, upd_at, init_zero, init_succ, init_nil, Nat.reduceLT, Nat.reduceEqDiff, reduceIte, abuiltin, alen, Option.map_some, Option.map_none, orElse_some, apure_add, apure_eqlV, eqlVal_str, eqlVal_bool, eqlVal_ptr, eqlVal_slice, eqlVal_int, allT, ↓aop_eqlV, apure_neq, List.map_cons, List.map_nil, List.all_cons, List.all_nil, lit2, lit1, lit0, List.isEmpty_nil, Bool.and_self, Bool.and_true, Bool.true_and, Bool.false_and, Bool.and_false, Bool.not_true, Bool.not_false, Bool.or_true, Bool.true_or, Bool.false_or, Bool.or_false, Bool.false_eq_true, if_true, if_false, List.length_map, beq_self_eq_true, und3, und4, und5, und9, h0, h14, h15, h16, h6, lss64, hlt, ixSS hi, ixIS hi, ldS, ldI, hx, hy, neq64, hne, hsz, add64', e1]
  exact ⟨_, rfl, by simp only [upd_at, Nat.reduceEqDiff, reduceIte, h0], by simp only [upd_at, Nat.reduceEqDiff, reduceIte, h14], by simp only [upd_at, Nat.reduceEqDiff, reduceIte, h15], by simp only [upd_at, Nat.reduceEqDiff, reduceIte], by simp only [upd_at, Nat.reduceEqDiff, reduceIte]⟩

theorem rjn_bad (h0 : F 0 = .slice (some ⟨b0, o0, none⟩) L c0) (h14 : F 14 = .slice (some ⟨b1, o1, none⟩) L c1) (h15 : F 15 = .int .i64 (L : Nat)) (h16 : F 16 = .int .i64 (i : Nat)) (hi : i < L)
    (hx : cellAt m b1 (o1 + i) = some (.string s)) (hy : cellAt m b0 (o0 + i) = some (.int .i64 n)) (hn : ((s.data.toList.length : Nat) : Int) ≠ n) :
    ∃ F', acodeN E self nf lprjn_0 (lst F 33) m = some (.ret, lst F' 33, m) ∧ F' 4 = .string ⟨#[]⟩ ∧ F' 5 = .int .i64 4 := by
  have hlt : decide (((i : Nat) : Int) < ((L : Nat) : Int)) = true := by simpa using hi
  have hne : ((((s.data.toList.length : Nat) : Int)) != n) = true := by simpa using hn
  simp only [lprjn_0_eq, erjn_0, erjn_1, erjn_10, erjn_11, erjn_2, erjn_3, erjn_4, erjn_5, erjn_6, erjn_7, erjn_8, erjn_9, lrjn_0, lrjn_1, lrjn_2, lrjn_3, lrjn_4, lrjn_5, lrjn_6, lrjn_7, lrjn_8, lrjn_9, lrjn_10, lrjn_11, agd_none, gdAt, gdV_bool, gdV_undef, Try.f10, List.append_eq, List.cons_append, List.nil_append, apure_call1, apure_call2, apure_call3, bft, btf, acodeN, List.getElem?_toArray, List.getElem?_cons_zero, List.getElem?_cons_succ, aopsN, adrawT, cls, astep, aop, afloat, ev, nth_lst, get_lst, aput, setAt_lst, upd_at, init_zero, init_succ, init_nil, Nat.reduceLT, Nat.reduceEqDiff, reduceIte, abuiltin, alen, Option.map_some, Option.map_none, orElse_some, apure_add, apure_eqlV, eqlVal_str, eqlVal_bool, eqlVal_ptr, eqlVal_slice, eqlVal_int, allT, ↓aop_eqlV, apure_neq, List.map_cons, List.map_nil, List.all_cons, List.all_nil, lit2, lit1, lit0, List.isEmpty_nil, Bool.and_self, Bool.and_true, Bool.true_and, Bool.false_and, Bool.and_false, Bool.not_true, Bool.not_false, Bool.or_true, Bool.true_or, Bool.false_or, Bool.or_false, Bool.false_eq_true, if_true, if_false, List.length_map, beq_self_eq_true, und3, und4, und5, und9, h0, h14, h15, h16, lss64, hlt, ixSS hi, ixIS hi, ldS, ldI, hx, hy, neq64, hne]
  exact ⟨_, rfl, by simp only [upd_at, Nat.reduceEqDiff, reduceIte], by simp only [upd_at, Nat.reduceEqDiff, reduceIte]⟩

theorem rjn_last (h15 : F 15 = .int .i64 (L : Nat)) (h16 : F 16 = .int .i64 (i : Nat)) (hi : L ≤ i) :
    ∃ F', acodeN E self nf lprjn_0 (lst F 33) m = some (.exit 0, lst F' 33, m) ∧ F' 6 = F 6 := by
  have hlt : decide (((i : Nat) : Int) < ((L : Nat) : Int)) = false := by simpa using hi
  simp only [lprjn_0_eq, erjn_0, erjn_1, erjn_10, erjn_11, erjn_2, erjn_3, erjn_4, erjn_5, erjn_6, erjn_7, erjn_8, erjn_9, lrjn_0, lrjn_1, lrjn_2, lrjn_3, lrjn_4, lrjn_5, lrjn_6, lrjn_7, lrjn_8, lrjn_9, lrjn_10, lrjn_11, agd_none, gdAt, gdV_bool, gdV_undef, Try.f10, List.append_eq, List.cons_append, List.nil_append, apure_call1, apure_call2, apure_call3, bft, btf, acodeN, List.getElem?_toArray, List.getElem?_cons_zero, List.getElem?_cons_succ, aopsN, adrawT, cls, astep, aop, afloat, ev, nth_lst, get_lst, aput, setAt_lst, upd_at, init_zero, init_succ, init_nil, Nat.reduceLT, Nat.reduceEqDiff, reduceIte, abuiltin, alen, Option.map_some, Option.map_none, orElse_some, apure_add, apure_eqlV, eqlVal_str, eqlVal_bool, eqlVal_ptr, eqlVal_slice, eqlVal_int, allT, ↓aop_eqlV, apure_neq, List.map_cons, List.map_nil, List.all_cons, List.all_nil, lit2, lit1, lit0, List.isEmpty_nil, Bool.and_self, Bool.and_true, Bool.true_and, Bool.false_and, Bool.and_false, Bool.not_true, Bool.not_false, Bool.or_true, Bool.true_or, Bool.false_or, Bool.or_false, Bool.false_eq_true, if_true, if_false, List.length_map, beq_self_eq_true, und3, und4, und5, und9, h15, h16, lss64, hlt]
  exact ⟨_, rfl, by simp only [upd_at, Nat.reduceEqDiff, reduceIte]⟩
end

/-- Texts one behind the other. -/
def catL (l : List ByteArray) : ByteArray := l.foldl (· ++ ·) ⟨#[]⟩
theorem catL_step {l : List ByteArray} {i : Nat} {s : ByteArray} (h : l[i]? = some s) : catL (l.take (i + 1)) = catL (l.take i) ++ s := by
  unfold catL
  rw [List.take_add_one, h]
  simp
theorem catL_size (l : List ByteArray) : (catL l).size = (l.map (·.size)).sum := by
  have : ∀ (l : List ByteArray) (a : ByteArray), (l.foldl (· ++ ·) a).size = a.size + (l.map (·.size)).sum := by
    intro l
    induction l with
    | nil => intro a; simp
    | cons x l ih => intro a; simp only [List.foldl_cons, ih, ByteArray.size_append, List.map_cons, List.sum_cons]; omega
  unfold catL
  rw [this, show (ByteArray.mk #[]).size = 0 from rfl, Nat.zero_add]
theorem sum_take_le (l : List Nat) (i : Nat) : (l.take i).sum ≤ l.sum := by
  conv => rhs; rw [← List.take_append_drop i l]
  rw [List.sum_append]
  omega

/-- Has each part the length that is told? -/
def fitsB (szs : List Int) (ps : List ByteArray) : Bool := (List.zip szs ps).all fun p => decide (((p.2.data.toList.length : Nat) : Int) = p.1)
theorem fits_all {szs : List Int} {ps : List ByteArray} (h : ∀ (i : Nat) (n : Int) (s : ByteArray), szs[i]? = some n → ps[i]? = some s → ((s.data.toList.length : Nat) : Int) = n) : fitsB szs ps = true := by
  unfold fitsB
  rw [List.all_eq_true]
  intro x hx
  obtain ⟨i, hi⟩ := List.getElem?_of_mem hx
  rw [List.getElem?_zip_eq_some] at hi
  exact decide_eq_true (h i _ _ hi.1 hi.2)
theorem fits_not {szs : List Int} {ps : List ByteArray} {i : Nat} {n : Int} {s : ByteArray} (h1 : szs[i]? = some n) (h2 : ps[i]? = some s) (hn : ((s.data.toList.length : Nat) : Int) ≠ n) : fitsB szs ps = false := by
  unfold fitsB
  rw [List.all_eq_false]
  refine ⟨(n, s), List.mem_of_getElem? (i := i) (List.getElem?_zip_eq_some.2 ⟨h1, h2⟩), ?_⟩
  simpa using hn

/-- What Join comes to, by the document. -/
def joinE (szs : List Int) (ps : List ByteArray) : Nat := if szs.length ≠ ps.length then 6 else if fitsB szs ps then 0 else 4
def joinS (szs : List Int) (ps : List ByteArray) : ByteArray := if joinE szs ps = 0 then catL ps else ⟨#[]⟩

theorem rs_get {m : Mem} {b o : Nat} {l : List Value} (h : ∀ (i : Nat) (x : Value), l[i]? = some x → cellAt m b (o + i) = some x) {i : Nat} {x : Value} (hx : l[i]? = some x) : cellAt m b (o + i) = some x := h i x hx

theorem rjn_loop {self : Self} {nf : Nat} {m : Mem} {szs : List Int} {ps : List ByteArray} {b0 o0 c0 b1 o1 c1 : Nat} (hl : szs.length = ps.length) (hL : ps.length ≤ 1000) (hnf : 1000 < nf) (htot : (catL ps).size ≤ 4611686018427387904)
    (hs : ∀ (i : Nat) (x : Value), (szs.map (Value.int .i64))[i]? = some x → cellAt m b0 (o0 + i) = some x) (hp : ∀ (i : Nat) (x : Value), (ps.map Value.string)[i]? = some x → cellAt m b1 (o1 + i) = some x)
    {F : Nat → Value} (h0 : F 0 = .slice (some ⟨b0, o0, none⟩) ps.length c0) (h14 : F 14 = .slice (some ⟨b1, o1, none⟩) ps.length c1) (h15 : F 15 = .int .i64 (ps.length : Nat)) (h16 : F 16 = .int .i64 (0 : Nat)) (h6 : F 6 = .string ⟨#[]⟩) :
    ∃ e F', aloop (acodeN E self nf lprjn_0) nf (lst F 33) m = some (e, lst F' 33, m) ∧ ((e = .exit 0 ∧ F' 6 = .string (catL ps) ∧ fitsB szs ps = true) ∨ (e = .ret ∧ F' 4 = .string ⟨#[]⟩ ∧ F' 5 = .int .i64 4 ∧ fitsB szs ps = false)) := by
  have hloop := aloop_inv (body := acodeN E self nf lprjn_0) (N := ps.length)
    (I := fun i T m' => ∃ G, T = lst G 33 ∧ m' = m ∧ G 0 = .slice (some ⟨b0, o0, none⟩) ps.length c0 ∧ G 14 = .slice (some ⟨b1, o1, none⟩) ps.length c1 ∧ G 15 = .int .i64 (ps.length : Nat) ∧ G 16 = .int .i64 (i : Nat) ∧ G 6 = .string (catL (ps.take i)) ∧
      ∀ (j : Nat) (n : Int) (s : ByteArray), j < i → szs[j]? = some n → ps[j]? = some s → ((s.data.toList.length : Nat) : Int) = n)
    (Q := fun e T m' => ∃ F', T = lst F' 33 ∧ m' = m ∧ ((e = .exit 0 ∧ F' 6 = .string (catL ps) ∧ fitsB szs ps = true) ∨ (e = .ret ∧ F' 4 = .string ⟨#[]⟩ ∧ F' 5 = .int .i64 4 ∧ fitsB szs ps = false))) (fun i T m' hi hI => by
      obtain ⟨G, rfl, rfl, g0, g14, g15, g16, g6, gall⟩ := hI
      by_cases hlt : i < ps.length
      · have hpi : ps[i]? = some ps[i] := by simp [hlt]
        have hsi : szs[i]? = some (szs[i]'(by omega)) := by simp [hl, hlt]
        have hx := hp i (.string ps[i]) (by rw [List.getElem?_map, hpi]; rfl)
        have hy := hs i (.int .i64 (szs[i]'(by omega))) (by rw [List.getElem?_map, hsi]; rfl)
        by_cases hn : ((ps[i].data.toList.length : Nat) : Int) = szs[i]'(by omega)
        · left
          have hsz : (catL (ps.take i)).size + ps[i].size ≤ 9223372036854775807 := by
            have h1 := catL_step hpi
            have h2 : (catL (ps.take (i + 1))).size ≤ (catL ps).size := by
              rw [catL_size, catL_size, List.map_take]
              exact sum_take_le _ _
            rw [h1, ByteArray.size_append] at h2
            omega
          obtain ⟨F', hr, f0, f14, f15, f16, f6⟩ := rjn_iter (self := self) (nf := nf) g0 g14 g15 g16 g6 hlt (by omega) hx hy hn hsz
          refine ⟨_, _, hr, hlt, F', rfl, rfl, f0.trans g0, f14.trans g14, f15.trans g15, f16, by rw [f6, catL_step hpi], fun j n s hj h1 h2 => ?_⟩
          by_cases hji : j < i
          · exact gall j n s hji h1 h2
          · have : j = i := by omega
            subst this
            rw [hsi] at h1; cases h1
            rw [hpi] at h2; cases h2
            exact hn
        · right
          obtain ⟨F', hr, f4, f5⟩ := rjn_bad (self := self) (nf := nf) g0 g14 g15 g16 hlt hx hy hn
          exact ⟨_, _, _, hr, by simp, F', rfl, rfl, .inr ⟨rfl, f4, f5, fits_not hsi hpi hn⟩⟩
      · right
        obtain ⟨F', hr, f6⟩ := rjn_last (self := self) (nf := nf) (m := m') g15 g16 (by omega)
        refine ⟨_, _, _, hr, by simp, F', rfl, rfl, .inl ⟨rfl, by rw [f6, g6, List.take_of_length_le (by omega)], fits_all fun j n s h1 h2 => ?_⟩⟩
        exact gall j n s (by have := (List.getElem?_eq_some_iff.1 h2).1; omega) h1 h2)
  obtain ⟨e, T', m', hr, F', rfl, rfl, hq⟩ := hloop ps.length 0 nf (lst F 33) m (by omega) (by omega) ⟨F, rfl, rfl, h0, h14, h15, h16, by rw [h6]; rfl, fun j n s hj => by omega⟩
  exact ⟨e, F', hr, hq⟩

theorem rjn_none {self : Self} {nf : Nat} {m : Mem} (hnf : 0 < nf) {F : Nat → Value} (h15 : F 15 = .int .i64 0) (h16 : F 16 = .int .i64 0) (h6 : F 6 = .string ⟨#[]⟩) :
    ∃ F', aloop (acodeN E self nf lprjn_0) nf (lst F 33) m = some (.exit 0, lst F' 33, m) ∧ F' 6 = .string ⟨#[]⟩ := by
  obtain ⟨k, rfl⟩ : ∃ g, nf = g + 1 := ⟨nf - 1, by omega⟩
  obtain ⟨F', hr, f6⟩ := rjn_last (self := self) (nf := k + 1) (m := m) (L := 0) (i := 0) h15 h16 (Nat.le_refl _)
  refine ⟨F', ?_, by rw [f6, h6]⟩
  rw [aloop, hr]

theorem rjn_body {self : Self} {nf : Nat} {m : Mem} {szs : List Int} {ps : List ByteArray} {vs vp : Value} (hs : RS m vs (szs.map (Value.int .i64))) (hp : RS m vp (ps.map Value.string)) (hL : ps.length ≤ 1000) (hl : szs.length ≤ 1000000) (hnf : 1000 < nf) (htot : (catL ps).size ≤ 4611686018427387904) :
    abody E self nf 10 [vs, vp] m = some (.tuple ⟨[.string (joinS szs ps), .int .i64 (joinE szs ps : Nat)]⟩, m) := by
  rw [abody_eqF (by kernel_rfl) Try.func10 bodyrjn (by kernel_rfl) (Nat.le_of_ble_eq_true rfl)]
  rw [show Try.f10.ntmps = 33 from rfl]
  have hlenN : ∀ (a b : Nat), (((a : Nat) : Int) != ((b : Nat) : Int)) = decide (a ≠ b) := by
    intro a b
    by_cases h : a = b
    · subst h; simp
    · have : ((a : Nat) : Int) ≠ (b : Int) := by omega
      simp [h, this]
  rcases hs with ⟨hs0, rfl⟩ | ⟨b0, o0, c0, rfl, hs⟩
  · have hz : szs = [] := by simpa using hs0
    subst hz
    rcases hp with ⟨hp0, rfl⟩ | ⟨b1, o1, c1, rfl, hp⟩
    · have hz : ps = [] := by simpa using hp0
      subst hz
      have hne : ((0 : Int) != 0) = false := rfl
      obtain ⟨F', hr, f6⟩ := rjn_none (self := self) (nf := nf) (m := m) (by omega) (F := upd (upd (upd (upd (upd (upd (upd (upd (upd (upd (upd (init [.slice none 0 0, .slice none 0 0]) 4 (.string ⟨#[]⟩)) 5 (.int .i64 0)) 9 (.slice none 0 0)) 10 (.int .i64 0)) 11 (.slice none 0 0)) 12 (.int .i64 0)) 13 (.bool false)) 6 (.string ⟨#[]⟩)) 14 (.slice none 0 0)) 15 (.int .i64 0)) 16 (.int .i64 0)) rfl rfl rfl
      simp only [erjn_0, erjn_1, erjn_10, erjn_11, erjn_2, erjn_3, erjn_4, erjn_5, erjn_6, erjn_7, erjn_8, erjn_9, lrjn_0, lrjn_1, lrjn_2, lrjn_3, lrjn_4, lrjn_5, lrjn_6, lrjn_7, lrjn_8, lrjn_9, lrjn_10, lrjn_11, agd_none, gdAt, gdV_bool, gdV_undef, Try.f10, List.append_eq, List.cons_append, List.nil_append, apure_call1, apure_call2, apure_call3, bft, btf, acodeN, List.getElem?_toArray, List.getElem?_cons_zero, List.getElem?_cons_succ, aopsN, adrawT, cls, astep, aop, afloat, ev, nth_lst, get_lst, aput, setAt_lst, upd_at, init_zero, init_succ, init_nil, Nat.reduceLT, Nat.reduceEqDiff, reduceIte, abuiltin, alen, Option.map_some, Option.map_none, orElse_some, apure_add, apure_eqlV, eqlVal_str, eqlVal_bool, eqlVal_ptr, eqlVal_slice, eqlVal_int, allT, ↓aop_eqlV, apure_neq, List.map_cons, List.map_nil, List.all_cons, List.all_nil, lit2, lit1, lit0, List.isEmpty_nil, Bool.and_self, Bool.and_true, Bool.true_and, Bool.false_and, Bool.and_false, Bool.not_true, Bool.not_false, Bool.or_true, Bool.true_or, Bool.false_or, Bool.or_false, Bool.false_eq_true, if_true, if_false, List.length_map, beq_self_eq_true, und3, und4, und5, und9, lenI, lenS, neq64, hne, hr, f6, finish, ares, aresL, ares1]
      rfl
    · by_cases h0 : ps.length = 0
      · have hz : ps = [] := List.eq_nil_of_length_eq_zero h0
        subst hz
        have hne : ((0 : Int) != ((0 : Nat) : Int)) = false := rfl
        obtain ⟨F', hr, f6⟩ := rjn_none (self := self) (nf := nf) (m := m) (by omega) (F := upd (upd (upd (upd (upd (upd (upd (upd (upd (upd (upd (init [.slice none 0 0, .slice (some ⟨b1, o1, none⟩) 0 c1]) 4 (.string ⟨#[]⟩)) 5 (.int .i64 0)) 9 (.slice none 0 0)) 10 (.int .i64 0)) 11 (.slice (some ⟨b1, o1, none⟩) 0 c1)) 12 (.int .i64 ((0 : Nat) : Int))) 13 (.bool false)) 6 (.string ⟨#[]⟩)) 14 (.slice (some ⟨b1, o1, none⟩) 0 c1)) 15 (.int .i64 ((0 : Nat) : Int))) 16 (.int .i64 0)) rfl rfl rfl
        simp only [List.map_nil, List.length_nil, erjn_0, erjn_1, erjn_10, erjn_11, erjn_2, erjn_3, erjn_4, erjn_5, erjn_6, erjn_7, erjn_8, erjn_9, lrjn_0, lrjn_1, lrjn_2, lrjn_3, lrjn_4, lrjn_5, lrjn_6, lrjn_7, lrjn_8, lrjn_9, lrjn_10, lrjn_11, agd_none, gdAt, gdV_bool, gdV_undef, Try.f10, List.append_eq, List.cons_append, List.nil_append, apure_call1, apure_call2, apure_call3, bft, btf, acodeN, List.getElem?_toArray, List.getElem?_cons_zero, List.getElem?_cons_succ, aopsN, adrawT, cls, astep, aop, afloat, ev, nth_lst, get_lst, aput, setAt_lst, upd_at, init_zero, init_succ, init_nil, Nat.reduceLT, Nat.reduceEqDiff, reduceIte, abuiltin, alen, Option.map_some, Option.map_none, orElse_some, apure_add, apure_eqlV, eqlVal_str, eqlVal_bool, eqlVal_ptr, eqlVal_slice, eqlVal_int, allT, ↓aop_eqlV, apure_neq, List.map_cons, List.map_nil, List.all_cons, List.all_nil, lit2, lit1, lit0, List.isEmpty_nil, Bool.and_self, Bool.and_true, Bool.true_and, Bool.false_and, Bool.and_false, Bool.not_true, Bool.not_false, Bool.or_true, Bool.true_or, Bool.false_or, Bool.or_false, Bool.false_eq_true, if_true, if_false, List.length_map, beq_self_eq_true, und3, und4, und5, und9, lenI, undSS, neq64, hne, hr, f6, finish, ares, aresL, ares1]
        rfl
      · have hne : ((0 : Int) != ((ps.length : Nat) : Int)) = true := by
          have := hlenN 0 ps.length
          rw [show ((0 : Nat) : Int) = 0 from rfl] at this
          rw [this]
          simpa using fun h => h0 h.symm
        have he : joinE [] ps = 6 := by
          unfold joinE
          rw [if_pos (fun h => h0 h.symm)]
        have hj : joinS [] ps = ⟨#[]⟩ := by unfold joinS; rw [he]; rfl
        simp only [List.length_map, erjn_0, erjn_1, erjn_10, erjn_11, erjn_2, erjn_3, erjn_4, erjn_5, erjn_6, erjn_7, erjn_8, erjn_9, lrjn_0, lrjn_1, lrjn_2, lrjn_3, lrjn_4, lrjn_5, lrjn_6, lrjn_7, lrjn_8, lrjn_9, lrjn_10, lrjn_11, agd_none, gdAt, gdV_bool, gdV_undef, Try.f10, List.append_eq, List.cons_append, List.nil_append, apure_call1, apure_call2, apure_call3, bft, btf, acodeN, List.getElem?_toArray, List.getElem?_cons_zero, List.getElem?_cons_succ, aopsN, adrawT, cls, astep, aop, afloat, ev, nth_lst, get_lst, aput, setAt_lst, upd_at, init_zero, init_succ, init_nil, Nat.reduceLT, Nat.reduceEqDiff, reduceIte, abuiltin, alen, Option.map_some, Option.map_none, orElse_some, apure_add, apure_eqlV, eqlVal_str, eqlVal_bool, eqlVal_ptr, eqlVal_slice, eqlVal_int, allT, ↓aop_eqlV, apure_neq, List.map_cons, List.map_nil, List.all_cons, List.all_nil, lit2, lit1, lit0, List.isEmpty_nil, Bool.and_self, Bool.and_true, Bool.true_and, Bool.false_and, Bool.and_false, Bool.not_true, Bool.not_false, Bool.or_true, Bool.true_or, Bool.false_or, Bool.or_false, Bool.false_eq_true, if_true, if_false, List.length_map, beq_self_eq_true, und3, und4, und5, und9, lenI, undSS, neq64, hne, finish, ares, aresL, ares1, he, hj]
        rfl
  · rcases hp with ⟨hp0, rfl⟩ | ⟨b1, o1, c1, rfl, hp⟩
    · have hz : ps = [] := by simpa using hp0
      subst hz
      by_cases h0 : szs.length = 0
      · have hz : szs = [] := List.eq_nil_of_length_eq_zero h0
        subst hz
        have hne : (((0 : Nat) : Int) != 0) = false := rfl
        obtain ⟨F', hr, f6⟩ := rjn_none (self := self) (nf := nf) (m := m) (by omega) (F := upd (upd (upd (upd (upd (upd (upd (upd (upd (upd (upd (init [.slice (some ⟨b0, o0, none⟩) 0 c0, .slice none 0 0]) 4 (.string ⟨#[]⟩)) 5 (.int .i64 0)) 9 (.slice (some ⟨b0, o0, none⟩) 0 c0)) 10 (.int .i64 ((0 : Nat) : Int))) 11 (.slice none 0 0)) 12 (.int .i64 0)) 13 (.bool false)) 6 (.string ⟨#[]⟩)) 14 (.slice none 0 0)) 15 (.int .i64 0)) 16 (.int .i64 0)) rfl rfl rfl
        simp only [List.map_nil, List.length_nil, erjn_0, erjn_1, erjn_10, erjn_11, erjn_2, erjn_3, erjn_4, erjn_5, erjn_6, erjn_7, erjn_8, erjn_9, lrjn_0, lrjn_1, lrjn_2, lrjn_3, lrjn_4, lrjn_5, lrjn_6, lrjn_7, lrjn_8, lrjn_9, lrjn_10, lrjn_11, agd_none, gdAt, gdV_bool, gdV_undef, Try.f10, List.append_eq, List.cons_append, List.nil_append, apure_call1, apure_call2, apure_call3, bft, btf, acodeN, List.getElem?_toArray, List.getElem?_cons_zero, List.getElem?_cons_succ, aopsN, adrawT, cls, astep, aop, afloat, ev, nth_lst, get_lst, aput, setAt_lst, upd_at, init_zero, init_succ, init_nil, Nat.reduceLT, Nat.reduceEqDiff, reduceIte, abuiltin, alen, Option.map_some, Option.map_none, orElse_some, apure_add, apure_eqlV, eqlVal_str, eqlVal_bool, eqlVal_ptr, eqlVal_slice, eqlVal_int, allT, ↓aop_eqlV, apure_neq, List.map_cons, List.map_nil, List.all_cons, List.all_nil, lit2, lit1, lit0, List.isEmpty_nil, Bool.and_self, Bool.and_true, Bool.true_and, Bool.false_and, Bool.and_false, Bool.not_true, Bool.not_false, Bool.or_true, Bool.true_or, Bool.false_or, Bool.or_false, Bool.false_eq_true, if_true, if_false, List.length_map, beq_self_eq_true, und3, und4, und5, und9, lenS, undIS, neq64, hne, hr, f6, finish, ares, aresL, ares1]
        rfl
      · have hne : (((szs.length : Nat) : Int) != 0) = true := by
          have := hlenN szs.length 0
          rw [show ((0 : Nat) : Int) = 0 from rfl] at this
          rw [this]
          simpa using h0
        have he : joinE szs [] = 6 := by
          unfold joinE
          rw [if_pos (by simpa using h0)]
        have hj : joinS szs [] = ⟨#[]⟩ := by unfold joinS; rw [he]; rfl
        simp only [List.length_map, erjn_0, erjn_1, erjn_10, erjn_11, erjn_2, erjn_3, erjn_4, erjn_5, erjn_6, erjn_7, erjn_8, erjn_9, lrjn_0, lrjn_1, lrjn_2, lrjn_3, lrjn_4, lrjn_5, lrjn_6, lrjn_7, lrjn_8, lrjn_9, lrjn_10, lrjn_11, agd_none, gdAt, gdV_bool, gdV_undef, Try.f10, List.append_eq, List.cons_append, List.nil_append, apure_call1, apure_call2, apure_call3, bft, btf, acodeN, List.getElem?_toArray, List.getElem?_cons_zero, List.getElem?_cons_succ, aopsN, adrawT, cls, astep, aop, afloat, ev, nth_lst, get_lst, aput, setAt_lst, upd_at, init_zero, init_succ, init_nil, Nat.reduceLT, Nat.reduceEqDiff, reduceIte, abuiltin, alen, Option.map_some, Option.map_none, orElse_some, apure_add, apure_eqlV, eqlVal_str, eqlVal_bool, eqlVal_ptr, eqlVal_slice, eqlVal_int, allT, ↓aop_eqlV, apure_neq, List.map_cons, List.map_nil, List.all_cons, List.all_nil, lit2, lit1, lit0, List.isEmpty_nil, Bool.and_self, Bool.and_true, Bool.true_and, Bool.false_and, Bool.and_false, Bool.not_true, Bool.not_false, Bool.or_true, Bool.true_or, Bool.false_or, Bool.or_false, Bool.false_eq_true, if_true, if_false, List.length_map, beq_self_eq_true, und3, und4, und5, und9, lenS, undIS, neq64, hne, finish, ares, aresL, ares1, he, hj]
        rfl
    · by_cases hlen : szs.length = ps.length
      · have hne : (((szs.length : Nat) : Int) != ((ps.length : Nat) : Int)) = false := by rw [hlenN]; simpa using hlen
        obtain ⟨e, F', hr, hq⟩ := rjn_loop (self := self) (nf := nf) (m := m) (c0 := c0) (c1 := c1) hlen hL hnf htot hs hp (F := upd (upd (upd (upd (upd (upd (upd (upd (upd (upd (upd (init [.slice (some ⟨b0, o0, none⟩) ps.length c0, .slice (some ⟨b1, o1, none⟩) ps.length c1]) 4 (.string ⟨#[]⟩)) 5 (.int .i64 0)) 9 (.slice (some ⟨b0, o0, none⟩) ps.length c0)) 10 (.int .i64 ((ps.length : Nat) : Int))) 11 (.slice (some ⟨b1, o1, none⟩) ps.length c1)) 12 (.int .i64 ((ps.length : Nat) : Int))) 13 (.bool false)) 6 (.string ⟨#[]⟩)) 14 (.slice (some ⟨b1, o1, none⟩) ps.length c1)) 15 (.int .i64 ((ps.length : Nat) : Int))) 16 (.int .i64 0)) rfl rfl rfl rfl rfl
        rw [hlen] at hne
        rcases hq with ⟨rfl, f6, hf⟩ | ⟨rfl, f4, f5, hf⟩
        · have he : joinE szs ps = 0 := by unfold joinE; rw [if_neg (by simpa using hlen), if_pos hf]
          have hj : joinS szs ps = catL ps := by unfold joinS; rw [if_pos he]
          simp only [List.length_map, hlen, erjn_0, erjn_1, erjn_10, erjn_11, erjn_2, erjn_3, erjn_4, erjn_5, erjn_6, erjn_7, erjn_8, erjn_9, lrjn_0, lrjn_1, lrjn_2, lrjn_3, lrjn_4, lrjn_5, lrjn_6, lrjn_7, lrjn_8, lrjn_9, lrjn_10, lrjn_11, agd_none, gdAt, gdV_bool, gdV_undef, Try.f10, List.append_eq, List.cons_append, List.nil_append, apure_call1, apure_call2, apure_call3, bft, btf, acodeN, List.getElem?_toArray, List.getElem?_cons_zero, List.getElem?_cons_succ, aopsN, adrawT, cls, astep, aop, afloat, ev, nth_lst, get_lst, aput, setAt_lst, upd_at, init_zero, init_succ, init_nil, Nat.reduceLT, Nat.reduceEqDiff, reduceIte, abuiltin, alen, Option.map_some, Option.map_none, orElse_some, apure_add, apure_eqlV, eqlVal_str, eqlVal_bool, eqlVal_ptr, eqlVal_slice, eqlVal_int, allT, ↓aop_eqlV, apure_neq, List.map_cons, List.map_nil, List.all_cons, List.all_nil, lit2, lit1, lit0, List.isEmpty_nil, Bool.and_self, Bool.and_true, Bool.true_and, Bool.false_and, Bool.and_false, Bool.not_true, Bool.not_false, Bool.or_true, Bool.true_or, Bool.false_or, Bool.or_false, Bool.false_eq_true, if_true, if_false, List.length_map, beq_self_eq_true, und3, und4, und5, und9, undSS, undIS, neq64, hne, hr, f6, finish, ares, aresL, ares1, he, hj]
          rfl
        · have he : joinE szs ps = 4 := by unfold joinE; rw [if_neg (by simpa using hlen), hf]; rfl
          have hj : joinS szs ps = ⟨#[]⟩ := by unfold joinS; rw [he]; rfl
          simp only [List.length_map, hlen, erjn_0, erjn_1, erjn_10, erjn_11, erjn_2, erjn_3, erjn_4, erjn_5, erjn_6, erjn_7, erjn_8, erjn_9, lrjn_0, lrjn_1, lrjn_2, lrjn_3, lrjn_4, lrjn_5, lrjn_6, lrjn_7, lrjn_8, lrjn_9, lrjn_10, lrjn_11, agd_none, gdAt, gdV_bool, gdV_undef, Try.f10, List.append_eq, List.cons_append, List.nil_append, apure_call1, apure_call2, apure_call3, bft, btf, acodeN, List.getElem?_toArray, List.getElem?_cons_zero, List.getElem?_cons_succ, aopsN, adrawT, cls, astep, aop, afloat, ev, nth_lst, get_lst, aput, setAt_lst, upd_at, init_zero, init_succ, init_nil, Nat.reduceLT, Nat.reduceEqDiff, reduceIte, abuiltin, alen, Option.map_some, Option.map_none, orElse_some, apure_add, apure_eqlV, eqlVal_str, eqlVal_bool, eqlVal_ptr, eqlVal_slice, eqlVal_int, allT, ↓aop_eqlV, apure_neq, List.map_cons, List.map_nil, List.all_cons, List.all_nil, lit2, lit1, lit0, List.isEmpty_nil, Bool.and_self, Bool.and_true, Bool.true_and, Bool.false_and, Bool.and_false, Bool.not_true, Bool.not_false, Bool.or_true, Bool.true_or, Bool.false_or, Bool.or_false, Bool.false_eq_true, if_true, if_false, List.length_map, beq_self_eq_true, und3, und4, und5, und9, undSS, undIS, neq64, hne, hr, f4, f5, finish, ares, aresL, ares1, he, hj]
          rfl
      · have hne : (((szs.length : Nat) : Int) != ((ps.length : Nat) : Int)) = true := by rw [hlenN]; simpa using hlen
        have he : joinE szs ps = 6 := by unfold joinE; rw [if_pos hlen]
        have hj : joinS szs ps = ⟨#[]⟩ := by unfold joinS; rw [he]; rfl
        simp only [List.length_map, erjn_0, erjn_1, erjn_10, erjn_11, erjn_2, erjn_3, erjn_4, erjn_5, erjn_6, erjn_7, erjn_8, erjn_9, lrjn_0, lrjn_1, lrjn_2, lrjn_3, lrjn_4, lrjn_5, lrjn_6, lrjn_7, lrjn_8, lrjn_9, lrjn_10, lrjn_11, agd_none, gdAt, gdV_bool, gdV_undef, Try.f10, List.append_eq, List.cons_append, List.nil_append, apure_call1, apure_call2, apure_call3, bft, btf, acodeN, List.getElem?_toArray, List.getElem?_cons_zero, List.getElem?_cons_succ, aopsN, adrawT, cls, astep, aop, afloat, ev, nth_lst, get_lst, aput, setAt_lst, upd_at, init_zero, init_succ, init_nil, Nat.reduceLT, Nat.reduceEqDiff, reduceIte, abuiltin, alen, Option.map_some, Option.map_none, orElse_some, apure_add, apure_eqlV, eqlVal_str, eqlVal_bool, eqlVal_ptr, eqlVal_slice, eqlVal_int, allT, ↓aop_eqlV, apure_neq, List.map_cons, List.map_nil, List.all_cons, List.all_nil, lit2, lit1, lit0, List.isEmpty_nil, Bool.and_self, Bool.and_true, Bool.true_and, Bool.false_and, Bool.and_false, Bool.not_true, Bool.not_false, Bool.or_true, Bool.true_or, Bool.false_or, Bool.or_false, Bool.false_eq_true, if_true, if_false, List.length_map, beq_self_eq_true, und3, und4, und5, und9, undSS, undIS, neq64, hne, finish, ares, aresL, ares1, he, hj]
        rfl
end Go.Am.Seat

/-
  Whether two rows of texts are alike (slices.Equal) (own work).
-/
set_option linter.unusedSimpArgs false
set_option linter.unusedVariables false
namespace Go.Am.Seat
open Go.Proofs Go.Am
set_option maxRecDepth 100000

theorem beq_text (a b : ByteArray) : (a.toList == b.toList) = decide (a = b) := by
  rw [ByteArray.toList_eq, ByteArray.toList_eq]
  by_cases h : a = b
  · subst h; simp
  · rw [decide_eq_false h]
    have : a.data.toList ≠ b.data.toList := fun e => h (ba_eq e)
    simpa using this

noncomputable def rseq_0 : Array Oper := match Try.f11.body with
  | some (.seq (.region _ o _) _) => o
  | _ => #[]
noncomputable def lseq_0 : List Oper := match Try.f11.body with
  | some (.seq (.region _ o _) _) => o.toList
  | _ => []
theorem eseq_0 : rseq_0.toList = lseq_0 := rfl
noncomputable def rseq_1 : Array Oper := match Try.f11.body with
  | some (.seq _ (.seq (.seq (.region _ o _) _) _)) => o
  | _ => #[]
noncomputable def lseq_1 : List Oper := match Try.f11.body with
  | some (.seq _ (.seq (.seq (.region _ o _) _) _)) => o.toList
  | _ => []
theorem eseq_1 : rseq_1.toList = lseq_1 := rfl
noncomputable def rseq_2 : Array Oper := match Try.f11.body with
  | some (.seq _ (.seq (.seq _ (.cond _ (.seq (.region _ o _) _) _)) _)) => o
  | _ => #[]
noncomputable def lseq_2 : List Oper := match Try.f11.body with
  | some (.seq _ (.seq (.seq _ (.cond _ (.seq (.region _ o _) _) _)) _)) => o.toList
  | _ => []
theorem eseq_2 : rseq_2.toList = lseq_2 := rfl
noncomputable def rseq_3 : Array Oper := match Try.f11.body with
  | some (.seq _ (.seq _ (.seq (.seq (.region _ o _) _) _))) => o
  | _ => #[]
noncomputable def lseq_3 : List Oper := match Try.f11.body with
  | some (.seq _ (.seq _ (.seq (.seq (.region _ o _) _) _))) => o.toList
  | _ => []
theorem eseq_3 : rseq_3.toList = lseq_3 := rfl
noncomputable def lpseq_0 : Code := match Try.f11.body with
  | some (.seq _ (.seq _ (.seq (.seq _ (.block _ (.loop c))) _))) => c
  | _ => .skip
noncomputable def rseq_4 : Array Oper := match Try.f11.body with
  | some (.seq _ (.seq _ (.seq (.seq _ (.block _ (.loop (.seq (.region _ o _) _)))) _))) => o
  | _ => #[]
noncomputable def lseq_4 : List Oper := match Try.f11.body with
  | some (.seq _ (.seq _ (.seq (.seq _ (.block _ (.loop (.seq (.region _ o _) _)))) _))) => o.toList
  | _ => []
theorem eseq_4 : rseq_4.toList = lseq_4 := rfl
noncomputable def rseq_5 : Array Oper := match Try.f11.body with
  | some (.seq _ (.seq _ (.seq (.seq _ (.block _ (.loop (.seq _ (.seq _ (.seq (.block _ (.seq (.region _ o _) _)) _)))))) _))) => o
  | _ => #[]
noncomputable def lseq_5 : List Oper := match Try.f11.body with
  | some (.seq _ (.seq _ (.seq (.seq _ (.block _ (.loop (.seq _ (.seq _ (.seq (.block _ (.seq (.region _ o _) _)) _)))))) _))) => o.toList
  | _ => []
theorem eseq_5 : rseq_5.toList = lseq_5 := rfl
noncomputable def rseq_6 : Array Oper := match Try.f11.body with
  | some (.seq _ (.seq _ (.seq (.seq _ (.block _ (.loop (.seq _ (.seq _ (.seq (.block _ (.seq _ (.seq (.region _ o _) _))) _)))))) _))) => o
  | _ => #[]
noncomputable def lseq_6 : List Oper := match Try.f11.body with
  | some (.seq _ (.seq _ (.seq (.seq _ (.block _ (.loop (.seq _ (.seq _ (.seq (.block _ (.seq _ (.seq (.region _ o _) _))) _)))))) _))) => o.toList
  | _ => []
theorem eseq_6 : rseq_6.toList = lseq_6 := rfl
theorem dseq_6 {self : Self} {B : Nat} {T : List Value} {m : Mem} {lb : List (Nat × Nat)} {ls : Bool} : adrawN E self rseq_6 B rseq_6.toList 0 T m lb ls = adrawT E self rseq_6 B rseq_6.toList [(false, false), (false, false), (false, false), (false, false), (false, false), (false, false), (false, false), (false, false), (false, false)] 0 T m lb ls := adraw_tab (by kernel_rfl)
theorem sseq_6 : E.sr 6 rseq_6 = false := by kernel_rfl
noncomputable def rseq_7 : Array Oper := match Try.f11.body with
  | some (.seq _ (.seq _ (.seq (.seq _ (.block _ (.loop (.seq _ (.seq _ (.seq (.block _ (.seq _ (.seq _ (.cond _ (.seq (.region _ o _) _) _)))) _)))))) _))) => o
  | _ => #[]
noncomputable def lseq_7 : List Oper := match Try.f11.body with
  | some (.seq _ (.seq _ (.seq (.seq _ (.block _ (.loop (.seq _ (.seq _ (.seq (.block _ (.seq _ (.seq _ (.cond _ (.seq (.region _ o _) _) _)))) _)))))) _))) => o.toList
  | _ => []
theorem eseq_7 : rseq_7.toList = lseq_7 := rfl
noncomputable def rseq_8 : Array Oper := match Try.f11.body with
  | some (.seq _ (.seq _ (.seq (.seq _ (.block _ (.loop (.seq _ (.seq _ (.seq _ (.region _ o _))))))) _))) => o
  | _ => #[]
noncomputable def lseq_8 : List Oper := match Try.f11.body with
  | some (.seq _ (.seq _ (.seq (.seq _ (.block _ (.loop (.seq _ (.seq _ (.seq _ (.region _ o _))))))) _))) => o.toList
  | _ => []
theorem eseq_8 : rseq_8.toList = lseq_8 := rfl
theorem lpseq_0_eq : lpseq_0 = (.seq (.region 4 rseq_4 false) (.seq (.cond (.tmp 14) .skip (.exit 0)) (.seq (.block 1 (.seq (.region 5 rseq_5 false) (.seq (.region 6 rseq_6 true) (.cond (.tmp 24) (.seq (.region 7 rseq_7 false) .ret) .skip)))) (.region 8 rseq_8 false)))) := rfl
noncomputable def rseq_9 : Array Oper := match Try.f11.body with
  | some (.seq _ (.seq _ (.seq _ (.seq (.region _ o _) _)))) => o
  | _ => #[]
noncomputable def lseq_9 : List Oper := match Try.f11.body with
  | some (.seq _ (.seq _ (.seq _ (.seq (.region _ o _) _)))) => o.toList
  | _ => []
theorem eseq_9 : rseq_9.toList = lseq_9 := rfl
theorem bodyseq : Try.f11.body = some (.seq (.region 0 rseq_0 false) (.seq (.seq (.region 1 rseq_1 false) (.cond (.tmp 10) (.seq (.region 2 rseq_2 false) .ret) .skip)) (.seq (.seq (.region 3 rseq_3 false) (.block 0 (.loop lpseq_0))) (.seq (.region 9 rseq_9 false) .ret)))) := rfl
-- ntmps 26

section
variable {self : Self} {nf : Nat} {m : Mem} {F : Nat → Value} {b0 o0 c0 b1 o1 c1 L i : Nat} {s t : ByteArray}

theorem seq_iter (h0 : F 0 = .slice (some ⟨b0, o0, none⟩) L c0) (h1 : F 1 = .slice (some ⟨b1, o1, none⟩) L c1) (h12 : F 12 = .int .i64 (L : Nat)) (h13 : F 13 = .int .i64 (i : Nat)) (hi : i < L) (hL : L ≤ 1000000)
    (hx : cellAt m b0 (o0 + i) = some (.string s)) (hy : cellAt m b1 (o1 + i) = some (.string s)) :
    ∃ F', acodeN E self nf lpseq_0 (lst F 26) m = some (.normal, lst F' 26, m) ∧ F' 0 = F 0 ∧ F' 1 = F 1 ∧ F' 12 = F 12 ∧ F' 13 = .int .i64 ((i + 1 : Nat) : Int) := by
  have hlt : decide (((i : Nat) : Int) < ((L : Nat) : Int)) = true := by simpa using hi
  have hq : (!(s.toList == s.toList)) = false := by simp
  have e1 := w1 (i := i) (by omega)
  have hxs := cellS m b0 (o0 + i)
  have hys := cellS m b1 (o1 + i)
  rw [hx] at hxs
  rw [hy] at hys
  simp only [lpseq_0_eq, ↓dseq_6, ↓sseq_6, eseq_0, eseq_1, eseq_2, eseq_3, eseq_4, eseq_5, eseq_6, eseq_7, eseq_8, eseq_9, lseq_0, lseq_1, lseq_2, lseq_3, lseq_4, lseq_5, lseq_6, lseq_7, lseq_8, lseq_9, agd_none, gdAt, gdV_bool, gdV_undef, Try.f11, List.append_eq, List.cons_append, List.nil_append, apure_call1, apure_call2, apure_call3, bft, btf, acodeN, List.getElem?_toArray, List.getElem?_cons_zero, List.getElem?_cons_succ, aopsN, adrawT, cls, astep, aop, afloat, ev, nth_lst, get_lst, aput, setAt_lst, upd_at, init_zero, init_succ, init_nil, Nat.reduceLT, Nat.reduceEqDiff, reduceIte, abuiltin, alen, Option.map_some, Option.map_none, orElse_some, apure_add, apure_eqlV, eqlVal_str, eqlVal_bool, eqlVal_ptr, eqlVal_slice, eqlVal_int, allT, ↓aop_eqlV, apure_neq, List.map_cons, List.map_nil, List.all_cons, List.all_nil, lit2, lit1, lit0, List.isEmpty_nil, Bool.and_self, Bool.and_true, Bool.true_and, Bool.false_and, Bool.and_false, Bool.not_true, Bool.not_false, Bool.or_true, Bool.true_or, Bool.false_or, Bool.or_false, Bool.false_eq_true, if_true, if_false, List.length_map, beq_self_eq_true, und3, und4, und5, und9, h0, h1, h12, h13, lss64, hlt, ixSS hi, ldS, hxs, hys, hx, hy, hq, add64', e1]
  exact ⟨_, rfl, by simp only [upd_at, Nat.reduceEqDiff, reduceIte, h0], by simp only [upd_at, Nat.reduceEqDiff, reduceIte, h1], by simp only [upd_at, Nat.reduceEqDiff, reduceIte, h12], by simp only [upd_at, Nat.reduceEqDiff, reduceIte]⟩

theorem seq_bad (h0 : F 0 = .slice (some ⟨b0, o0, none⟩) L c0) (h1 : F 1 = .slice (some ⟨b1, o1, none⟩) L c1) (h12 : F 12 = .int .i64 (L : Nat)) (h13 : F 13 = .int .i64 (i : Nat)) (hi : i < L)
    (hx : cellAt m b0 (o0 + i) = some (.string s)) (hy : cellAt m b1 (o1 + i) = some (.string t)) (hn : s ≠ t) :
    ∃ F', acodeN E self nf lpseq_0 (lst F 26) m = some (.ret, lst F' 26, m) ∧ F' 4 = .bool false := by
  have hlt : decide (((i : Nat) : Int) < ((L : Nat) : Int)) = true := by simpa using hi
  have hq : (!(s.toList == t.toList)) = true := by rw [beq_text, decide_eq_false hn]; rfl
  have hxs := cellS m b0 (o0 + i)
  have hys := cellS m b1 (o1 + i)
  rw [hx] at hxs
  rw [hy] at hys
  simp only [lpseq_0_eq, ↓dseq_6, ↓sseq_6, eseq_0, eseq_1, eseq_2, eseq_3, eseq_4, eseq_5, eseq_6, eseq_7, eseq_8, eseq_9, lseq_0, lseq_1, lseq_2, lseq_3, lseq_4, lseq_5, lseq_6, lseq_7, lseq_8, lseq_9, agd_none, gdAt, gdV_bool, gdV_undef, Try.f11, List.append_eq, List.cons_append, List.nil_append, apure_call1, apure_call2, apure_call3, bft, btf, acodeN, List.getElem?_toArray, List.getElem?_cons_zero, List.getElem?_cons_succ, aopsN, adrawT, cls, astep, aop, afloat, ev, nth_lst, get_lst, aput, setAt_lst, upd_at, init_zero, init_succ, init_nil, Nat.reduceLT, Nat.reduceEqDiff, reduceIte, abuiltin, alen, Option.map_some, Option.map_none, orElse_some, apure_add, apure_eqlV, eqlVal_str, eqlVal_bool, eqlVal_ptr, eqlVal_slice, eqlVal_int, allT, ↓aop_eqlV, apure_neq, List.map_cons, List.map_nil, List.all_cons, List.all_nil, lit2, lit1, lit0, List.isEmpty_nil, Bool.and_self, Bool.and_true, Bool.true_and, Bool.false_and, Bool.and_false, Bool.not_true, Bool.not_false, Bool.or_true, Bool.true_or, Bool.false_or, Bool.or_false, Bool.false_eq_true, if_true, if_false, List.length_map, beq_self_eq_true, und3, und4, und5, und9, h0, h1, h12, h13, lss64, hlt, ixSS hi, ldS, hxs, hys, hx, hy, hq]
  exact ⟨_, rfl, by simp only [upd_at, Nat.reduceEqDiff, reduceIte]⟩

theorem seq_last (h12 : F 12 = .int .i64 (L : Nat)) (h13 : F 13 = .int .i64 (i : Nat)) (hi : L ≤ i) :
    ∃ F', acodeN E self nf lpseq_0 (lst F 26) m = some (.exit 0, lst F' 26, m) := by
  have hlt : decide (((i : Nat) : Int) < ((L : Nat) : Int)) = false := by simpa using hi
  simp only [lpseq_0_eq, ↓dseq_6, ↓sseq_6, eseq_0, eseq_1, eseq_2, eseq_3, eseq_4, eseq_5, eseq_6, eseq_7, eseq_8, eseq_9, lseq_0, lseq_1, lseq_2, lseq_3, lseq_4, lseq_5, lseq_6, lseq_7, lseq_8, lseq_9, agd_none, gdAt, gdV_bool, gdV_undef, Try.f11, List.append_eq, List.cons_append, List.nil_append, apure_call1, apure_call2, apure_call3, bft, btf, acodeN, List.getElem?_toArray, List.getElem?_cons_zero, List.getElem?_cons_succ, aopsN, adrawT, cls, astep, aop, afloat, ev, nth_lst, get_lst, aput, setAt_lst, upd_at, init_zero, init_succ, init_nil, Nat.reduceLT, Nat.reduceEqDiff, reduceIte, abuiltin, alen, Option.map_some, Option.map_none, orElse_some, apure_add, apure_eqlV, eqlVal_str, eqlVal_bool, eqlVal_ptr, eqlVal_slice, eqlVal_int, allT, ↓aop_eqlV, apure_neq, List.map_cons, List.map_nil, List.all_cons, List.all_nil, lit2, lit1, lit0, List.isEmpty_nil, Bool.and_self, Bool.and_true, Bool.true_and, Bool.false_and, Bool.and_false, Bool.not_true, Bool.not_false, Bool.or_true, Bool.true_or, Bool.false_or, Bool.or_false, Bool.false_eq_true, if_true, if_false, List.length_map, beq_self_eq_true, und3, und4, und5, und9, h12, h13, lss64, hlt]
  exact ⟨_, rfl⟩
end

theorem seq_loop {self : Self} {nf : Nat} {m : Mem} {la lb : List ByteArray} {b0 o0 c0 b1 o1 c1 : Nat} (hl : la.length = lb.length) (hL : la.length ≤ 1000) (hnf : 1000 < nf)
    (hs : ∀ (i : Nat) (x : Value), (la.map Value.string)[i]? = some x → cellAt m b0 (o0 + i) = some x) (hp : ∀ (i : Nat) (x : Value), (lb.map Value.string)[i]? = some x → cellAt m b1 (o1 + i) = some x)
    {F : Nat → Value} (h0 : F 0 = .slice (some ⟨b0, o0, none⟩) la.length c0) (h1 : F 1 = .slice (some ⟨b1, o1, none⟩) la.length c1) (h12 : F 12 = .int .i64 (la.length : Nat)) (h13 : F 13 = .int .i64 (0 : Nat)) :
    ∃ e F', aloop (acodeN E self nf lpseq_0) nf (lst F 26) m = some (e, lst F' 26, m) ∧ ((e = .exit 0 ∧ la = lb) ∨ (e = .ret ∧ F' 4 = .bool false ∧ la ≠ lb)) := by
  have hloop := aloop_inv (body := acodeN E self nf lpseq_0) (N := la.length)
    (I := fun i T m' => ∃ G, T = lst G 26 ∧ m' = m ∧ G 0 = .slice (some ⟨b0, o0, none⟩) la.length c0 ∧ G 1 = .slice (some ⟨b1, o1, none⟩) la.length c1 ∧ G 12 = .int .i64 (la.length : Nat) ∧ G 13 = .int .i64 (i : Nat) ∧ ∀ j, j < i → la[j]? = lb[j]?)
    (Q := fun e T m' => ∃ F', T = lst F' 26 ∧ m' = m ∧ ((e = .exit 0 ∧ la = lb) ∨ (e = .ret ∧ F' 4 = .bool false ∧ la ≠ lb))) (fun i T m' hi hI => by
      obtain ⟨G, rfl, rfl, g0, g1, g12, g13, gall⟩ := hI
      by_cases hlt : i < la.length
      · have hai : la[i]? = some la[i] := by simp [hlt]
        have hbi : lb[i]? = some (lb[i]'(by omega)) := by simp [← hl, hlt]
        have hx := hs i (.string la[i]) (by rw [List.getElem?_map, hai]; rfl)
        have hy := hp i (.string (lb[i]'(by omega))) (by rw [List.getElem?_map, hbi]; rfl)
        by_cases hn : la[i] = lb[i]'(by omega)
        · left
          rw [← hn] at hy
          obtain ⟨F', hr, f0, f1, f12, f13⟩ := seq_iter (self := self) (nf := nf) g0 g1 g12 g13 hlt (by omega) hx hy
          refine ⟨_, _, hr, hlt, F', rfl, rfl, f0.trans g0, f1.trans g1, f12.trans g12, f13, fun j hj => ?_⟩
          by_cases hji : j < i
          · exact gall j hji
          · have : j = i := by omega
            subst this
            rw [hai, hbi, hn]
        · right
          obtain ⟨F', hr, f4⟩ := seq_bad (self := self) (nf := nf) g0 g1 g12 g13 hlt hx hy hn
          refine ⟨_, _, _, hr, by simp, F', rfl, rfl, .inr ⟨rfl, f4, fun h => hn ?_⟩⟩
          subst h
          rfl
      · right
        obtain ⟨F', hr⟩ := seq_last (self := self) (nf := nf) (m := m') g12 g13 (by omega)
        refine ⟨_, _, _, hr, by simp, F', rfl, rfl, .inl ⟨rfl, ?_⟩⟩
        apply List.ext_getElem?
        intro j
        by_cases hj : j < i
        · exact gall j hj
        · rw [List.getElem?_eq_none (by omega), List.getElem?_eq_none (by omega)])
  obtain ⟨e, T', m', hr, F', rfl, rfl, hq⟩ := hloop la.length 0 nf (lst F 26) m (by omega) (by omega) ⟨F, rfl, rfl, h0, h1, h12, h13, fun j hj => by omega⟩
  exact ⟨e, F', hr, hq⟩

theorem seq_none {self : Self} {nf : Nat} {m : Mem} (hnf : 0 < nf) {F : Nat → Value} (h12 : F 12 = .int .i64 0) (h13 : F 13 = .int .i64 0) :
    ∃ F', aloop (acodeN E self nf lpseq_0) nf (lst F 26) m = some (.exit 0, lst F' 26, m) := by
  obtain ⟨k, rfl⟩ : ∃ g, nf = g + 1 := ⟨nf - 1, by omega⟩
  obtain ⟨F', hr⟩ := seq_last (self := self) (nf := k + 1) (m := m) (L := 0) (i := 0) h12 h13 (Nat.le_refl _)
  exact ⟨F', by rw [aloop, hr]⟩

theorem natNe (a b : Nat) : (((a : Nat) : Int) != ((b : Nat) : Int)) = decide (a ≠ b) := by
  by_cases h : a = b
  · subst h; simp
  · have : ((a : Nat) : Int) ≠ (b : Int) := by omega
    simp [h, this]
theorem natNe0 (a : Nat) : (((a : Nat) : Int) != 0) = decide (a ≠ 0) := natNe a 0
theorem natNe1 (b : Nat) : ((0 : Int) != ((b : Nat) : Int)) = decide (0 ≠ b) := natNe 0 b

theorem seq_body {self : Self} {nf : Nat} {m : Mem} {la lb : List ByteArray} {va vb : Value} (hs : RS m va (la.map Value.string)) (hp : RS m vb (lb.map Value.string)) (hL : la.length ≤ 1000) (hl : lb.length ≤ 1000000) (hnf : 1000 < nf) :
    abody E self nf 11 [va, vb] m = some (.bool (decide (la = lb)), m) := by
  rw [abody_eqF (by kernel_rfl) Try.func11 bodyseq (by kernel_rfl) (Nat.le_of_ble_eq_true rfl)]
  rw [show Try.f11.ntmps = 26 from rfl]
  by_cases hlen : la.length = lb.length
  · by_cases h0 : la.length = 0
    · have hz : la = [] := List.eq_nil_of_length_eq_zero h0
      subst hz
      have hz : lb = [] := List.eq_nil_of_length_eq_zero hlen.symm
      subst hz
      have hd : decide (([] : List ByteArray) = []) = true := rfl
      rcases hs with ⟨_, rfl⟩ | ⟨b0, o0, c0, rfl, _⟩
      · rcases hp with ⟨_, rfl⟩ | ⟨b1, o1, c1, rfl, _⟩
        · have hne : ((0 : Int) != (0 : Int)) = false := rfl
          obtain ⟨F', hr⟩ := seq_none (self := self) (nf := nf) (m := m) (by omega) (F := upd (upd (upd (upd (upd (upd (upd (upd (upd (init [(.slice none 0 0), (.slice none 0 0)]) 4 (.bool false)) 6 (.slice none 0 0)) 7 (.int .i64 0)) 8 (.slice none 0 0)) 9 (.int .i64 0)) 10 (.bool false)) 11 (.slice none 0 0)) 12 (.int .i64 0)) 13 (.int .i64 0)) rfl rfl
          simp only [List.map_nil, List.length_nil, ↓dseq_6, ↓sseq_6, eseq_0, eseq_1, eseq_2, eseq_3, eseq_4, eseq_5, eseq_6, eseq_7, eseq_8, eseq_9, lseq_0, lseq_1, lseq_2, lseq_3, lseq_4, lseq_5, lseq_6, lseq_7, lseq_8, lseq_9, agd_none, gdAt, gdV_bool, gdV_undef, Try.f11, List.append_eq, List.cons_append, List.nil_append, apure_call1, apure_call2, apure_call3, bft, btf, acodeN, List.getElem?_toArray, List.getElem?_cons_zero, List.getElem?_cons_succ, aopsN, adrawT, cls, astep, aop, afloat, ev, nth_lst, get_lst, aput, setAt_lst, upd_at, init_zero, init_succ, init_nil, Nat.reduceLT, Nat.reduceEqDiff, reduceIte, abuiltin, alen, Option.map_some, Option.map_none, orElse_some, apure_add, apure_eqlV, eqlVal_str, eqlVal_bool, eqlVal_ptr, eqlVal_slice, eqlVal_int, allT, ↓aop_eqlV, apure_neq, List.map_cons, List.map_nil, List.all_cons, List.all_nil, lit2, lit1, lit0, List.isEmpty_nil, Bool.and_self, Bool.and_true, Bool.true_and, Bool.false_and, Bool.and_false, Bool.not_true, Bool.not_false, Bool.or_true, Bool.true_or, Bool.false_or, Bool.or_false, Bool.false_eq_true, if_true, if_false, List.length_map, beq_self_eq_true, und3, und4, und5, und9, lenS, undSS, neq64, hne, hr, finish, ares, aresL, ares1]
          rfl
        · have hne : ((0 : Int) != ((0 : Nat) : Int)) = false := rfl
          obtain ⟨F', hr⟩ := seq_none (self := self) (nf := nf) (m := m) (by omega) (F := upd (upd (upd (upd (upd (upd (upd (upd (upd (init [(.slice none 0 0), (.slice (some ⟨b1, o1, none⟩) 0 c1)]) 4 (.bool false)) 6 (.slice none 0 0)) 7 (.int .i64 0)) 8 (.slice (some ⟨b1, o1, none⟩) 0 c1)) 9 (.int .i64 ((0 : Nat) : Int))) 10 (.bool false)) 11 (.slice none 0 0)) 12 (.int .i64 0)) 13 (.int .i64 0)) rfl rfl
          simp only [List.map_nil, List.length_nil, ↓dseq_6, ↓sseq_6, eseq_0, eseq_1, eseq_2, eseq_3, eseq_4, eseq_5, eseq_6, eseq_7, eseq_8, eseq_9, lseq_0, lseq_1, lseq_2, lseq_3, lseq_4, lseq_5, lseq_6, lseq_7, lseq_8, lseq_9, agd_none, gdAt, gdV_bool, gdV_undef, Try.f11, List.append_eq, List.cons_append, List.nil_append, apure_call1, apure_call2, apure_call3, bft, btf, acodeN, List.getElem?_toArray, List.getElem?_cons_zero, List.getElem?_cons_succ, aopsN, adrawT, cls, astep, aop, afloat, ev, nth_lst, get_lst, aput, setAt_lst, upd_at, init_zero, init_succ, init_nil, Nat.reduceLT, Nat.reduceEqDiff, reduceIte, abuiltin, alen, Option.map_some, Option.map_none, orElse_some, apure_add, apure_eqlV, eqlVal_str, eqlVal_bool, eqlVal_ptr, eqlVal_slice, eqlVal_int, allT, ↓aop_eqlV, apure_neq, List.map_cons, List.map_nil, List.all_cons, List.all_nil, lit2, lit1, lit0, List.isEmpty_nil, Bool.and_self, Bool.and_true, Bool.true_and, Bool.false_and, Bool.and_false, Bool.not_true, Bool.not_false, Bool.or_true, Bool.true_or, Bool.false_or, Bool.or_false, Bool.false_eq_true, if_true, if_false, List.length_map, beq_self_eq_true, und3, und4, und5, und9, lenS, undSS, neq64, hne, hr, finish, ares, aresL, ares1]
          rfl
      · rcases hp with ⟨_, rfl⟩ | ⟨b1, o1, c1, rfl, _⟩
        · have hne : (((0 : Nat) : Int) != (0 : Int)) = false := rfl
          obtain ⟨F', hr⟩ := seq_none (self := self) (nf := nf) (m := m) (by omega) (F := upd (upd (upd (upd (upd (upd (upd (upd (upd (init [(.slice (some ⟨b0, o0, none⟩) 0 c0), (.slice none 0 0)]) 4 (.bool false)) 6 (.slice (some ⟨b0, o0, none⟩) 0 c0)) 7 (.int .i64 ((0 : Nat) : Int))) 8 (.slice none 0 0)) 9 (.int .i64 0)) 10 (.bool false)) 11 (.slice (some ⟨b0, o0, none⟩) 0 c0)) 12 (.int .i64 ((0 : Nat) : Int))) 13 (.int .i64 0)) rfl rfl
          simp only [List.map_nil, List.length_nil, ↓dseq_6, ↓sseq_6, eseq_0, eseq_1, eseq_2, eseq_3, eseq_4, eseq_5, eseq_6, eseq_7, eseq_8, eseq_9, lseq_0, lseq_1, lseq_2, lseq_3, lseq_4, lseq_5, lseq_6, lseq_7, lseq_8, lseq_9, agd_none, gdAt, gdV_bool, gdV_undef, Try.f11, List.append_eq, List.cons_append, List.nil_append, apure_call1, apure_call2, apure_call3, bft, btf, acodeN, List.getElem?_toArray, List.getElem?_cons_zero, List.getElem?_cons_succ, aopsN, adrawT, cls, astep, aop, afloat, ev, nth_lst, get_lst, aput, setAt_lst, upd_at, init_zero, init_succ, init_nil, Nat.reduceLT, Nat.reduceEqDiff, reduceIte, abuiltin, alen, Option.map_some, Option.map_none, orElse_some, apure_add, apure_eqlV, eqlVal_str, eqlVal_bool, eqlVal_ptr, eqlVal_slice, eqlVal_int, allT, ↓aop_eqlV, apure_neq, List.map_cons, List.map_nil, List.all_cons, List.all_nil, lit2, lit1, lit0, List.isEmpty_nil, Bool.and_self, Bool.and_true, Bool.true_and, Bool.false_and, Bool.and_false, Bool.not_true, Bool.not_false, Bool.or_true, Bool.true_or, Bool.false_or, Bool.or_false, Bool.false_eq_true, if_true, if_false, List.length_map, beq_self_eq_true, und3, und4, und5, und9, lenS, undSS, neq64, hne, hr, finish, ares, aresL, ares1]
          rfl
        · have hne : (((0 : Nat) : Int) != ((0 : Nat) : Int)) = false := rfl
          obtain ⟨F', hr⟩ := seq_none (self := self) (nf := nf) (m := m) (by omega) (F := upd (upd (upd (upd (upd (upd (upd (upd (upd (init [(.slice (some ⟨b0, o0, none⟩) 0 c0), (.slice (some ⟨b1, o1, none⟩) 0 c1)]) 4 (.bool false)) 6 (.slice (some ⟨b0, o0, none⟩) 0 c0)) 7 (.int .i64 ((0 : Nat) : Int))) 8 (.slice (some ⟨b1, o1, none⟩) 0 c1)) 9 (.int .i64 ((0 : Nat) : Int))) 10 (.bool false)) 11 (.slice (some ⟨b0, o0, none⟩) 0 c0)) 12 (.int .i64 ((0 : Nat) : Int))) 13 (.int .i64 0)) rfl rfl
          simp only [List.map_nil, List.length_nil, ↓dseq_6, ↓sseq_6, eseq_0, eseq_1, eseq_2, eseq_3, eseq_4, eseq_5, eseq_6, eseq_7, eseq_8, eseq_9, lseq_0, lseq_1, lseq_2, lseq_3, lseq_4, lseq_5, lseq_6, lseq_7, lseq_8, lseq_9, agd_none, gdAt, gdV_bool, gdV_undef, Try.f11, List.append_eq, List.cons_append, List.nil_append, apure_call1, apure_call2, apure_call3, bft, btf, acodeN, List.getElem?_toArray, List.getElem?_cons_zero, List.getElem?_cons_succ, aopsN, adrawT, cls, astep, aop, afloat, ev, nth_lst, get_lst, aput, setAt_lst, upd_at, init_zero, init_succ, init_nil, Nat.reduceLT, Nat.reduceEqDiff, reduceIte, abuiltin, alen, Option.map_some, Option.map_none, orElse_some, apure_add, apure_eqlV, eqlVal_str, eqlVal_bool, eqlVal_ptr, eqlVal_slice, eqlVal_int, allT, ↓aop_eqlV, apure_neq, List.map_cons, List.map_nil, List.all_cons, List.all_nil, lit2, lit1, lit0, List.isEmpty_nil, Bool.and_self, Bool.and_true, Bool.true_and, Bool.false_and, Bool.and_false, Bool.not_true, Bool.not_false, Bool.or_true, Bool.true_or, Bool.false_or, Bool.or_false, Bool.false_eq_true, if_true, if_false, List.length_map, beq_self_eq_true, und3, und4, und5, und9, lenS, undSS, neq64, hne, hr, finish, ares, aresL, ares1]
          rfl
    · rcases hs with ⟨h9, _⟩ | ⟨b0, o0, c0, rfl, hs⟩
      · exact absurd (by simpa using congrArg List.length h9) h0
      · rcases hp with ⟨h9, _⟩ | ⟨b1, o1, c1, rfl, hp⟩
        · exact absurd (by rw [hlen]; simpa using congrArg List.length h9) h0
        · have hne : (((la.length : Nat) : Int) != ((la.length : Nat) : Int)) = false := by simp
          obtain ⟨e, F', hr, hq⟩ := seq_loop (self := self) (nf := nf) (m := m) (c0 := c0) (c1 := c1) hlen hL hnf hs hp (F := upd (upd (upd (upd (upd (upd (upd (upd (upd (init [.slice (some ⟨b0, o0, none⟩) la.length c0, .slice (some ⟨b1, o1, none⟩) la.length c1]) 4 (.bool false)) 6 (.slice (some ⟨b0, o0, none⟩) la.length c0)) 7 (.int .i64 ((la.length : Nat) : Int))) 8 (.slice (some ⟨b1, o1, none⟩) la.length c1)) 9 (.int .i64 ((la.length : Nat) : Int))) 10 (.bool false)) 11 (.slice (some ⟨b0, o0, none⟩) la.length c0)) 12 (.int .i64 ((la.length : Nat) : Int))) 13 (.int .i64 0)) rfl rfl rfl rfl
          rcases hq with ⟨rfl, he⟩ | ⟨rfl, f4, he⟩
          · have hd : decide (la = lb) = true := decide_eq_true he
            simp only [List.length_map, ← hlen, ↓dseq_6, ↓sseq_6, eseq_0, eseq_1, eseq_2, eseq_3, eseq_4, eseq_5, eseq_6, eseq_7, eseq_8, eseq_9, lseq_0, lseq_1, lseq_2, lseq_3, lseq_4, lseq_5, lseq_6, lseq_7, lseq_8, lseq_9, agd_none, gdAt, gdV_bool, gdV_undef, Try.f11, List.append_eq, List.cons_append, List.nil_append, apure_call1, apure_call2, apure_call3, bft, btf, acodeN, List.getElem?_toArray, List.getElem?_cons_zero, List.getElem?_cons_succ, aopsN, adrawT, cls, astep, aop, afloat, ev, nth_lst, get_lst, aput, setAt_lst, upd_at, init_zero, init_succ, init_nil, Nat.reduceLT, Nat.reduceEqDiff, reduceIte, abuiltin, alen, Option.map_some, Option.map_none, orElse_some, apure_add, apure_eqlV, eqlVal_str, eqlVal_bool, eqlVal_ptr, eqlVal_slice, eqlVal_int, allT, ↓aop_eqlV, apure_neq, List.map_cons, List.map_nil, List.all_cons, List.all_nil, lit2, lit1, lit0, List.isEmpty_nil, Bool.and_self, Bool.and_true, Bool.true_and, Bool.false_and, Bool.and_false, Bool.not_true, Bool.not_false, Bool.or_true, Bool.true_or, Bool.false_or, Bool.or_false, Bool.false_eq_true, if_true, if_false, List.length_map, beq_self_eq_true, und3, und4, und5, und9, undSS, neq64, hne, hr, finish, ares, aresL, ares1, hd]
          · have hd : decide (la = lb) = false := decide_eq_false he
            simp only [List.length_map, ← hlen, ↓dseq_6, ↓sseq_6, eseq_0, eseq_1, eseq_2, eseq_3, eseq_4, eseq_5, eseq_6, eseq_7, eseq_8, eseq_9, lseq_0, lseq_1, lseq_2, lseq_3, lseq_4, lseq_5, lseq_6, lseq_7, lseq_8, lseq_9, agd_none, gdAt, gdV_bool, gdV_undef, Try.f11, List.append_eq, List.cons_append, List.nil_append, apure_call1, apure_call2, apure_call3, bft, btf, acodeN, List.getElem?_toArray, List.getElem?_cons_zero, List.getElem?_cons_succ, aopsN, adrawT, cls, astep, aop, afloat, ev, nth_lst, get_lst, aput, setAt_lst, upd_at, init_zero, init_succ, init_nil, Nat.reduceLT, Nat.reduceEqDiff, reduceIte, abuiltin, alen, Option.map_some, Option.map_none, orElse_some, apure_add, apure_eqlV, eqlVal_str, eqlVal_bool, eqlVal_ptr, eqlVal_slice, eqlVal_int, allT, ↓aop_eqlV, apure_neq, List.map_cons, List.map_nil, List.all_cons, List.all_nil, lit2, lit1, lit0, List.isEmpty_nil, Bool.and_self, Bool.and_true, Bool.true_and, Bool.false_and, Bool.and_false, Bool.not_true, Bool.not_false, Bool.or_true, Bool.true_or, Bool.false_or, Bool.or_false, Bool.false_eq_true, if_true, if_false, List.length_map, beq_self_eq_true, und3, und4, und5, und9, undSS, neq64, hne, hr, f4, finish, ares, aresL, ares1, hd]
  · have hd : decide (la = lb) = false := decide_eq_false fun h => hlen (by rw [h])
    have q1 : decide (la.length ≠ lb.length) = true := decide_eq_true hlen
    rcases hs with ⟨h9, rfl⟩ | ⟨b0, o0, c0, rfl, hs⟩
    · have hz : la = [] := by simpa using h9
      subst hz
      rcases hp with ⟨h9, rfl⟩ | ⟨b1, o1, c1, rfl, hp⟩
      · have hz : lb = [] := by simpa using h9
        subst hz
        exact absurd rfl hlen
      · have q2 : decide (0 ≠ lb.length) = true := q1
        simp only [List.length_map, ↓dseq_6, ↓sseq_6, eseq_0, eseq_1, eseq_2, eseq_3, eseq_4, eseq_5, eseq_6, eseq_7, eseq_8, eseq_9, lseq_0, lseq_1, lseq_2, lseq_3, lseq_4, lseq_5, lseq_6, lseq_7, lseq_8, lseq_9, agd_none, gdAt, gdV_bool, gdV_undef, Try.f11, List.append_eq, List.cons_append, List.nil_append, apure_call1, apure_call2, apure_call3, bft, btf, acodeN, List.getElem?_toArray, List.getElem?_cons_zero, List.getElem?_cons_succ, aopsN, adrawT, cls, astep, aop, afloat, ev, nth_lst, get_lst, aput, setAt_lst, upd_at, init_zero, init_succ, init_nil, Nat.reduceLT, Nat.reduceEqDiff, reduceIte, abuiltin, alen, Option.map_some, Option.map_none, orElse_some, apure_add, apure_eqlV, eqlVal_str, eqlVal_bool, eqlVal_ptr, eqlVal_slice, eqlVal_int, allT, ↓aop_eqlV, apure_neq, List.map_cons, List.map_nil, List.all_cons, List.all_nil, lit2, lit1, lit0, List.isEmpty_nil, Bool.and_self, Bool.and_true, Bool.true_and, Bool.false_and, Bool.and_false, Bool.not_true, Bool.not_false, Bool.or_true, Bool.true_or, Bool.false_or, Bool.or_false, Bool.false_eq_true, if_true, if_false, List.length_map, beq_self_eq_true, und3, und4, und5, und9, lenS, undSS, neq64, natNe1, q2, finish, ares, aresL, ares1, hd]
    · rcases hp with ⟨h9, rfl⟩ | ⟨b1, o1, c1, rfl, hp⟩
      · have hz : lb = [] := by simpa using h9
        subst hz
        have q2 : decide (la.length ≠ 0) = true := q1
        simp only [List.length_map, ↓dseq_6, ↓sseq_6, eseq_0, eseq_1, eseq_2, eseq_3, eseq_4, eseq_5, eseq_6, eseq_7, eseq_8, eseq_9, lseq_0, lseq_1, lseq_2, lseq_3, lseq_4, lseq_5, lseq_6, lseq_7, lseq_8, lseq_9, agd_none, gdAt, gdV_bool, gdV_undef, Try.f11, List.append_eq, List.cons_append, List.nil_append, apure_call1, apure_call2, apure_call3, bft, btf, acodeN, List.getElem?_toArray, List.getElem?_cons_zero, List.getElem?_cons_succ, aopsN, adrawT, cls, astep, aop, afloat, ev, nth_lst, get_lst, aput, setAt_lst, upd_at, init_zero, init_succ, init_nil, Nat.reduceLT, Nat.reduceEqDiff, reduceIte, abuiltin, alen, Option.map_some, Option.map_none, orElse_some, apure_add, apure_eqlV, eqlVal_str, eqlVal_bool, eqlVal_ptr, eqlVal_slice, eqlVal_int, allT, ↓aop_eqlV, apure_neq, List.map_cons, List.map_nil, List.all_cons, List.all_nil, lit2, lit1, lit0, List.isEmpty_nil, Bool.and_self, Bool.and_true, Bool.true_and, Bool.false_and, Bool.and_false, Bool.not_true, Bool.not_false, Bool.or_true, Bool.true_or, Bool.false_or, Bool.or_false, Bool.false_eq_true, if_true, if_false, List.length_map, beq_self_eq_true, und3, und4, und5, und9, lenS, undSS, neq64, natNe0, q2, finish, ares, aresL, ares1, hd]
      · simp only [List.length_map, ↓dseq_6, ↓sseq_6, eseq_0, eseq_1, eseq_2, eseq_3, eseq_4, eseq_5, eseq_6, eseq_7, eseq_8, eseq_9, lseq_0, lseq_1, lseq_2, lseq_3, lseq_4, lseq_5, lseq_6, lseq_7, lseq_8, lseq_9, agd_none, gdAt, gdV_bool, gdV_undef, Try.f11, List.append_eq, List.cons_append, List.nil_append, apure_call1, apure_call2, apure_call3, bft, btf, acodeN, List.getElem?_toArray, List.getElem?_cons_zero, List.getElem?_cons_succ, aopsN, adrawT, cls, astep, aop, afloat, ev, nth_lst, get_lst, aput, setAt_lst, upd_at, init_zero, init_succ, init_nil, Nat.reduceLT, Nat.reduceEqDiff, reduceIte, abuiltin, alen, Option.map_some, Option.map_none, orElse_some, apure_add, apure_eqlV, eqlVal_str, eqlVal_bool, eqlVal_ptr, eqlVal_slice, eqlVal_int, allT, ↓aop_eqlV, apure_neq, List.map_cons, List.map_nil, List.all_cons, List.all_nil, lit2, lit1, lit0, List.isEmpty_nil, Bool.and_self, Bool.and_true, Bool.true_and, Bool.false_and, Bool.and_false, Bool.not_true, Bool.not_false, Bool.or_true, Bool.true_or, Bool.false_or, Bool.or_false, Bool.false_eq_true, if_true, if_false, List.length_map, beq_self_eq_true, und3, und4, und5, und9, undSS, neq64, natNe, q1, finish, ares, aresL, ares1, hd]
end Go.Am.Seat
