/-
  Texts of my own, put together: G4, G5, G6, D2, D3, D4.
-/
import Derived.Test.YtgkolikpojpffaaDoorGrLimbReckons29
set_option linter.unusedSimpArgs false
set_option linter.unusedVariables false
set_option maxRecDepth 100000
namespace Go.Am.Seat
open Go.Proofs Go.Am
abbrev p5 : Nat := 57896044618658097711785492504343953926634992332820282019728792003956564819949
def bnd : Nat -> Nat -> Prop
  | 0, y => y < 256 ^ 65
  | 1, y => y < 256 ^ 36
  | 2, y => y < 256 ^ 32 + 256 ^ 6
  | _, y => y < 256 ^ 32
section
variable {self : Self} {nf : Nat} {m : Mem} {F : Nat -> Value}
end
theorem NumB.on {B r : Nat} {v : Value} {m m' : Mem} (h : NumB B v m r) (hk : Kept m m') : NumB B v m' r := by
  rcases h with h | ⟨L, n, b, ro, h1, h2, h3, h4, h5, hne⟩
  . exact .inl h
  . exact .inr ⟨L, n, b, ro, h1, h2, h3, h4, by rw [hk.2 b (List.getElem?_eq_some_iff.1 h5).1]; exact h5, hne⟩
section
variable {self : Self} {nf : Nat} {m : Mem} {F : Nat -> Value}
end
def CRed (self : Self) : Prop := ∀ (m : Mem) (a : Value) (x : Nat), NumS m a x -> x < 256 ^ 65 -> ∃ v m', ainv E self 37 [a] m = some (v, m') /\ (v = a /\ m' = m /\ x % p5 = x ∨ NumR m v m' (x % p5))
theorem CRed.new {self : Self} (cr : CRed self) {B : Nat} {m : Mem} {a : Value} {x : Nat} (h : NumB B a m x) (hx : x < 256 ^ 65) (hB : B ≤ m.length) : ∃ v m', ainv E self 37 [a] m = some (v, m') /\ NumB B v m' (x % p5) := by
  obtain ⟨v, m', h1, h2⟩ := cr m a x h.s hx
  rcases h2 with ⟨rfl, rfl, h3⟩ | h2
  . exact ⟨_, _, h1, by rw [h3]; exact h⟩
  . exact ⟨_, _, h1, h2.b.mono hB⟩
-- ntmps 9
-- ntmps 11
-- ntmps 9
-- ntmps 13
-- ntmps 8
section
variable {self : Self} {nf : Nat} {m : Mem} {a b : Value} {x y : Nat}
end
section
variable {self : Self} {nf : Nat} {m : Mem} {a : Value} {x : Nat}
end
theorem cellsN_inj {a b : List Nat} (h : cellsN a = cellsN b) : a = b := by
  unfold cellsN at h
  refine (List.map_inj_right (fun x y hxy => ?_)).1 h
  simp only [Value.int.injEq, true_and] at hxy
  omega
theorem idOf_row {n b k c : Nat} (hb : n ≤ b) : idOf n (.slice (some ⟨b, 0, none⟩) k c) = [b] := by
  have hnb : ¬ b < n := by omega
  simp [idOf, hnb]
theorem ids_row2 {n b k c b' k' c' : Nat} (hb : n ≤ b) (hb' : n ≤ b') : idsL n [.slice (some ⟨b, 0, none⟩) k c, .slice (some ⟨b', 0, none⟩) k' c'] [] = if b = b' then [b] else [b, b'] := by
  simp only [idsL, idOf_row hb, idOf_row hb', addIds, List.contains_nil, Bool.false_eq_true, if_false, List.nil_append]
  by_cases h : b = b'
  . subst h; simp
  . have : ¬ b' = b := fun e => h e.symm
    simp [h, this]
theorem acoll_pair0 {m m1 : Mem} {n b k c : Nat} {ro : Bool} {e : TypeId} {cs : List Value} (hb : n ≤ b) (hm : m1[b]? = some (.row ro e cs)) (hc : cs.all lit0 = true) :
    acoll m n (.tuple ⟨[.slice (some ⟨b, 0, none⟩) k c, .slice none 0 0]⟩) m1 = some (.tuple ⟨[.slice (some ⟨m.length, 0, none⟩) k c, .slice none 0 0]⟩, m ++ [.row ro e cs]) := by
  have hnb : ¬ b < n := by omega
  unfold acoll
  rw [if_neg (by simp [lit2, lit1, lit0])]
  have h1 : idsL n (partsOf (.tuple ⟨[.slice (some ⟨b, 0, none⟩) k c, .slice none 0 0]⟩)) [] = [b] := by
    show idsL n [.slice none 0 0] (addIds (idOf n (.slice (some ⟨b, 0, none⟩) k c)) []) = [b]
    rw [idOf_row hb]
    rfl
  have h2 : closeIds n m1 2 [b] = [b] := by simp only [closeIds, List.foldl_cons, List.foldl_nil, hm, idsL_lit cs [b] hc]
  simp only [h1, h2]
  rw [if_pos (by simp [nodupB, hb])]
  have h3 : rid n m.length [b] b = some m.length := by
    unfold rid
    rw [if_neg hnb]
    simp [List.idxOf?]
  have h4 : ren2 n m.length [b] (.slice none 0 0) = some (.slice none 0 0) := rfl
  have h5 : ren2 n m.length [b] (.slice (some ⟨b, 0, none⟩) k c) = some (.slice (some ⟨m.length, 0, none⟩) k c) := by simp only [ren2, ren1, h3]
  simp only [renB, hm, renL_id cs hc, ren3, renT, h4, h5]
theorem acoll_pair1 {m m1 : Mem} {n b k c : Nat} {ro : Bool} {e : TypeId} {cs : List Value} (hb : n ≤ b) (hm : m1[b]? = some (.row ro e cs)) (hc : cs.all lit0 = true) :
    acoll m n (.tuple ⟨[.slice none 0 0, .slice (some ⟨b, 0, none⟩) k c]⟩) m1 = some (.tuple ⟨[.slice none 0 0, .slice (some ⟨m.length, 0, none⟩) k c]⟩, m ++ [.row ro e cs]) := by
  have hnb : ¬ b < n := by omega
  unfold acoll
  rw [if_neg (by simp [lit2, lit1, lit0])]
  have h1 : idsL n (partsOf (.tuple ⟨[.slice none 0 0, .slice (some ⟨b, 0, none⟩) k c]⟩)) [] = [b] := by
    show addIds (idOf n (.slice (some ⟨b, 0, none⟩) k c)) [] = [b]
    rw [idOf_row hb]
    rfl
  have h2 : closeIds n m1 2 [b] = [b] := by simp only [closeIds, List.foldl_cons, List.foldl_nil, hm, idsL_lit cs [b] hc]
  simp only [h1, h2]
  rw [if_pos (by simp [nodupB, hb])]
  have h3 : rid n m.length [b] b = some m.length := by
    unfold rid
    rw [if_neg hnb]
    simp [List.idxOf?]
  have h4 : ren2 n m.length [b] (.slice none 0 0) = some (.slice none 0 0) := rfl
  have h5 : ren2 n m.length [b] (.slice (some ⟨b, 0, none⟩) k c) = some (.slice (some ⟨m.length, 0, none⟩) k c) := by simp only [ren2, ren1, h3]
  simp only [renB, hm, renL_id cs hc, ren3, renT, h4, h5]
theorem acoll_pairS {m m1 : Mem} {n b k c k' c' : Nat} {ro : Bool} {e : TypeId} {cs : List Value} (hb : n ≤ b) (hm : m1[b]? = some (.row ro e cs)) (hc : cs.all lit0 = true) :
    acoll m n (.tuple ⟨[.slice (some ⟨b, 0, none⟩) k c, .slice (some ⟨b, 0, none⟩) k' c']⟩) m1 = some (.tuple ⟨[.slice (some ⟨m.length, 0, none⟩) k c, .slice (some ⟨m.length, 0, none⟩) k' c']⟩, m ++ [.row ro e cs]) := by
  have hnb : ¬ b < n := by omega
  unfold acoll
  rw [if_neg (by simp [lit2, lit1, lit0])]
  have h1 : idsL n (partsOf (.tuple ⟨[.slice (some ⟨b, 0, none⟩) k c, .slice (some ⟨b, 0, none⟩) k' c']⟩)) [] = [b] := by
    show idsL n [.slice (some ⟨b, 0, none⟩) k c, .slice (some ⟨b, 0, none⟩) k' c'] [] = [b]
    rw [ids_row2 hb hb, if_pos rfl]
  have h2 : closeIds n m1 2 [b] = [b] := by simp only [closeIds, List.foldl_cons, List.foldl_nil, hm, idsL_lit cs [b] hc]
  simp only [h1, h2]
  rw [if_pos (by simp [nodupB, hb])]
  have h3 : rid n m.length [b] b = some m.length := by
    unfold rid
    rw [if_neg hnb]
    simp [List.idxOf?]
  have h5 : ∀ k c, ren2 n m.length [b] (.slice (some ⟨b, 0, none⟩) k c) = some (.slice (some ⟨m.length, 0, none⟩) k c) := fun k c => by simp only [ren2, ren1, h3]
  simp only [renB, hm, renL_id cs hc, ren3, renT, h5]
theorem acoll_pair2 {m m1 : Mem} {n b k c b' k' c' : Nat} {ro ro' : Bool} {e e' : TypeId} {cs cs' : List Value} (hb : n ≤ b) (hm : m1[b]? = some (.row ro e cs)) (hc : cs.all lit0 = true) (hb' : n ≤ b') (hm' : m1[b']? = some (.row ro' e' cs')) (hc' : cs'.all lit0 = true) (hne : b ≠ b') :
    acoll m n (.tuple ⟨[.slice (some ⟨b, 0, none⟩) k c, .slice (some ⟨b', 0, none⟩) k' c']⟩) m1 = some (.tuple ⟨[.slice (some ⟨m.length, 0, none⟩) k c, .slice (some ⟨m.length + 1, 0, none⟩) k' c']⟩, m ++ [.row ro e cs, .row ro' e' cs']) := by
  have hnb : ¬ b < n := by omega
  have hnb' : ¬ b' < n := by omega
  unfold acoll
  rw [if_neg (by simp [lit2, lit1, lit0])]
  have h1 : idsL n (partsOf (.tuple ⟨[.slice (some ⟨b, 0, none⟩) k c, .slice (some ⟨b', 0, none⟩) k' c']⟩)) [] = [b, b'] := by
    show idsL n [.slice (some ⟨b, 0, none⟩) k c, .slice (some ⟨b', 0, none⟩) k' c'] [] = [b, b']
    rw [ids_row2 hb hb', if_neg hne]
  have h2 : closeIds n m1 2 [b, b'] = [b, b'] := by simp only [closeIds, List.foldl_cons, List.foldl_nil, hm, hm', idsL_lit cs [b, b'] hc, idsL_lit cs' [b, b'] hc']
  simp only [h1, h2]
  rw [if_pos (by simp [nodupB, hb, hb', hne])]
  have h3 : rid n m.length [b, b'] b = some m.length := by
    unfold rid
    rw [if_neg hnb]
    simp [List.idxOf?, List.findIdx?_cons]
  have h4 : rid n m.length [b, b'] b' = some (m.length + 1) := by
    unfold rid
    rw [if_neg hnb']
    have : (b == b') = false := by simpa using hne
    simp [List.idxOf?, List.findIdx?_cons, this]
  have h5 : ren2 n m.length [b, b'] (.slice (some ⟨b, 0, none⟩) k c) = some (.slice (some ⟨m.length, 0, none⟩) k c) := by simp only [ren2, ren1, h3]
  have h6 : ren2 n m.length [b, b'] (.slice (some ⟨b', 0, none⟩) k' c') = some (.slice (some ⟨m.length + 1, 0, none⟩) k' c') := by simp only [ren2, ren1, h4]
  simp only [renB, hm, hm', renL_id cs hc, renL_id cs' hc', ren3, renT, h5, h6]
theorem NumB.coll22 {m m1 : Mem} {B r s : Nat} {v w : Value} (h1 : NumB B v m1 r) (h2 : NumB B w m1 s) : ∃ v' w' m', acoll m B (.tuple ⟨[v, w]⟩) m1 = some (.tuple ⟨[v', w']⟩, m') /\ Kept m m' /\ NumB m.length v' m' r /\ NumB m.length w' m' s := by
  rcases h1 with ⟨rfl, rfl⟩ | ⟨L, n, b, ro, a1, a2, a3, rfl, a4, ane⟩
  . rcases h2 with ⟨rfl, rfl⟩ | ⟨L', n', b', ro', c1, c2, c3, rfl, c4, cne⟩
    . exact ⟨_, _, m, by unfold acoll; exact if_pos rfl, Kept.refl _, .inl ⟨rfl, rfl⟩, .inl ⟨rfl, rfl⟩⟩
    . exact ⟨_, _, _, acoll_pair1 c3 c4 (cellsN_lits L'), Kept.app _ _, .inl ⟨rfl, rfl⟩, .inr ⟨L', n', m.length, false, c1, c2, Nat.le_refl _, rfl, by simp, cne⟩⟩
  . rcases h2 with ⟨rfl, rfl⟩ | ⟨L', n', b', ro', c1, c2, c3, rfl, c4, cne⟩
    . exact ⟨_, _, _, acoll_pair0 a3 a4 (cellsN_lits L), Kept.app _ _, .inr ⟨L, n, m.length, false, a1, a2, Nat.le_refl _, rfl, by simp, ane⟩, .inl ⟨rfl, rfl⟩⟩
    . by_cases he : b = b'
      . subst he
        have hL : L = L' := by
          rw [a4] at c4
          simp only [Option.some.injEq, Blk.row.injEq, true_and] at c4
          exact cellsN_inj c4
        subst hL
        exact ⟨_, _, _, acoll_pairS a3 a4 (cellsN_lits L), Kept.app _ _, .inr ⟨L, n, m.length, false, a1, a2, Nat.le_refl _, rfl, by simp, ane⟩, .inr ⟨L, n', m.length, false, c1, c2, Nat.le_refl _, rfl, by simp, cne⟩⟩
      . refine ⟨_, _, _, acoll_pair2 a3 a4 (cellsN_lits L) c3 c4 (cellsN_lits L') he, Kept.app _ _, .inr ⟨L, n, m.length, false, a1, a2, Nat.le_refl _, rfl, by simp, ane⟩, .inr ⟨L', n', m.length + 1, false, c1, c2, by omega, rfl, ?_, cne⟩⟩
        rw [List.getElem?_append_right (by omega)]
        simp
noncomputable def rrlen_0 := opR Tryd.f20 [0]
noncomputable def lrlen_0 : List Oper := match Tryd.f20.body with
  | some (.seq (.region _ o _) _) => o.toList
  | _ => []
theorem erlen_0 : rrlen_0.toList = lrlen_0 := rfl
noncomputable def rrlen_1 := opR Tryd.f20 [1,0]
noncomputable def lrlen_1 : List Oper := match Tryd.f20.body with
  | some (.seq _ (.seq (.region _ o _) _)) => o.toList
  | _ => []
theorem erlen_1 : rrlen_1.toList = lrlen_1 := rfl
noncomputable def lprlen_0 : Code := match Tryd.f20.body with
  | some (.seq _ (.seq _ (.seq (.block _ (.loop c)) _))) => c
  | _ => .skip
noncomputable def rrlen_2 := opR Tryd.f20 [1,1,0,0,0,0,0]
noncomputable def lrlen_2 : List Oper := match Tryd.f20.body with
  | some (.seq _ (.seq _ (.seq (.block _ (.loop (.seq (.seq (.region _ o _) _) _))) _))) => o.toList
  | _ => []
theorem erlen_2 : rrlen_2.toList = lrlen_2 := rfl
theorem grlen_2_2 {T : List Value} {dd : Option Tmp} {op : Op} {ty : TypeId} {pos : String} {af : Array Edge} {want : Bool} : agd rrlen_2 T { dst := dd, op := op, type := ty, pos := pos, after := af, guard := some (2, want) } = gdAt T 9 want := agd_at (by kernel_rfl)
noncomputable def rrlen_3 := opR Tryd.f20 [1,1,0,0,0,1,0]
noncomputable def lrlen_3 : List Oper := match Tryd.f20.body with
  | some (.seq _ (.seq _ (.seq (.block _ (.loop (.seq _ (.block _ (.region _ o _))))) _))) => o.toList
  | _ => []
theorem erlen_3 : rrlen_3.toList = lrlen_3 := rfl
theorem lprlen_0_eq : lprlen_0 = (.seq (.seq (.region 2 rrlen_2 false) (.cond (.tmp 15) .skip (.exit 0))) (.block 1 (.region 3 rrlen_3 false))) := rfl
noncomputable def rrlen_4 := opR Tryd.f20 [1,1,1,0]
noncomputable def lrlen_4 : List Oper := match Tryd.f20.body with
  | some (.seq _ (.seq _ (.seq _ (.seq (.region _ o _) _)))) => o.toList
  | _ => []
theorem erlen_4 : rrlen_4.toList = lrlen_4 := rfl
theorem bodyrlen : Tryd.f20.body = some (.seq (.region 0 rrlen_0 false) (.seq (.region 1 rrlen_1 false) (.seq (.block 0 (.loop lprlen_0)) (.seq (.region 4 rrlen_4 false) .ret)))) := rfl
-- ntmps 19
theorem callBitR : callableB E.P 45 = true := by kernel_rfl
theorem mulK8 (b : Int) : abin .mul .i64 8 .i64 b = some (.int .i64 (wrapF .i64 (8 * b))) := by kernel_rfl
theorem wrapS {n : Int} (h : -1000000 ≤ n) (h' : n < 1000000) : wrapF .i64 n = n := by
  simp only [wrapF]
  by_cases hn : 0 ≤ n
  . rw [if_neg (by omega)]; omega
  . rw [if_pos (by omega)]; omega
theorem wpred {k : Nat} (hk : k < 1000000) : wrapF .i64 (((k + 1 : Nat) : Int) - 1) = ((k : Nat) : Int) := by rw [wrap_i64 (by omega) (by omega)]; omega
section
variable {self : Self} {nf : Nat} {m : Mem} {F : Nat -> Value} {a b : Value} {x y k : Nat}
theorem rlen_more (cb : CBit self) (h0 : F 0 = a) (h3 : F 3 = .int .i64 ((k + 1 : Nat) : Int)) (hA : NumA m a (dig x)) (hk : k < 90000) (hb : x / 2 ^ k % 2 = 0) :
    ∃ F', acodeN E self nf lprlen_0 (lst F 19) m = some (.normal, lst F' 19, m) /\ F' 0 = F 0 /\ F' 3 = .int .i64 (k : Nat) := by
  have e1 := wpred (k := k) (by omega)
  have q0 : decide (((k + 1 : Nat) : Int) > 0) = true := decide_eq_true (by omega)
  have q1 := cb m a x k hA (by omega)
  rw [hb] at q1
  have q2 : (((0 : Nat) : Int) == 0) = true := rfl
  simp only [lprlen_0_eq, erlen_2, erlen_3, lrlen_2, lrlen_3, grlen_2_2, agd_none, gdAt, gdV_bool, Tryd.f20, List.cons_append, List.nil_append, acodeN, aopsN, astep, aop, ev, nth_lst, get_lst, aput, setAt_lst, upd_at, Nat.reduceLT, Nat.reduceEqDiff, Option.map_some, eqlVal_int, ↓aop_eqlV, List.map_cons, List.map_nil, List.isEmpty_nil, bls, if_true, if_false, beq_self_eq_true, h0, h3, gtr64', q0, sub64', e1, callBitR, q1, q2]
  exact ⟨_, rfl, by simp only [upd_at, Nat.reduceEqDiff, reduceIte, h0], rfl⟩
theorem rlen_zero (h3 : F 3 = .int .i64 ((0 : Nat) : Int)) : ∃ F', acodeN E self nf lprlen_0 (lst F 19) m = some (.exit 0, lst F' 19, m) /\ F' 3 = F 3 := by
  have q0 : decide (((0 : Nat) : Int) > 0) = false := rfl
  simp only [lprlen_0_eq, erlen_2, lrlen_2, grlen_2_2, agd_none, gdAt, gdV_bool, Tryd.f20, bft, acodeN, aopsN, astep, aop, ev, nth_lst, get_lst, aput, setAt_lst, upd_at, Nat.reduceLT, Nat.reduceEqDiff, Bool.false_eq_true, if_true, if_false, h3, gtr64', q0]
  exact ⟨_, rfl, by simp only [upd_at, Nat.reduceEqDiff, reduceIte, h3]⟩
theorem rlen_stop (cb : CBit self) (h0 : F 0 = a) (h3 : F 3 = .int .i64 ((k + 1 : Nat) : Int)) (hA : NumA m a (dig x)) (hk : k < 90000) (hb : x / 2 ^ k % 2 = 1) :
    ∃ F', acodeN E self nf lprlen_0 (lst F 19) m = some (.exit 0, lst F' 19, m) /\ F' 3 = F 3 := by
  have e1 := wpred (k := k) (by omega)
  have q0 : decide (((k + 1 : Nat) : Int) > 0) = true := decide_eq_true (by omega)
  have q1 := cb m a x k hA (by omega)
  rw [hb] at q1
  have q2 : (((1 : Nat) : Int) == 0) = false := rfl
  simp only [lprlen_0_eq, erlen_2, lrlen_2, grlen_2_2, agd_none, gdAt, gdV_bool, Tryd.f20, List.cons_append, List.nil_append, acodeN, aopsN, astep, aop, ev, nth_lst, get_lst, aput, setAt_lst, upd_at, Nat.reduceLT, Nat.reduceEqDiff, Option.map_some, eqlVal_int, ↓aop_eqlV, List.map_cons, List.map_nil, List.isEmpty_nil, bls, if_true, if_false, beq_self_eq_true, h0, h3, gtr64', q0, sub64', e1, callBitR, q1, q2]
  exact ⟨_, rfl, by simp only [upd_at, Nat.reduceEqDiff, reduceIte, h3]⟩
theorem half_lt {x k : Nat} (h : x < 2 ^ (k + 1)) (hb : x / 2 ^ k % 2 = 0) : x < 2 ^ k := by
  have h1 : x / 2 ^ k < 2 := by
    rw [Nat.div_lt_iff_lt_mul (Nat.two_pow_pos k), Nat.mul_comm, ← Nat.pow_succ]; exact h
  have h2 : x / 2 ^ k = 0 := by
    generalize x / 2 ^ k = t at *
    omega
  rcases (Nat.div_eq_zero_iff.1 h2) with h3 | h3
  . have := Nat.two_pow_pos k; omega
  . exact h3
theorem rlenA_body (cb : CBit self) (hA : NumA m a (dig x)) (hl : (dig x).length ≤ 100) (hnf : 1000 < nf) :
    ∃ n, abody E self nf 20 [a] m = some (.int .i64 (n : Nat), m) /\ x < 2 ^ n /\ n ≤ 800 /\ (n = 0 ∨ x / 2 ^ (n - 1) % 2 = 1) := by
  rw [abody_eqF (by kernel_rfl) Tryd.func20 bodyrlen (by kernel_rfl) (Nat.le_of_ble_eq_true rfl)]
  rw [show Tryd.f20.ntmps = 19 from rfl]
  have hlen := hA.1
  have hx := lt_dig_len x
  rw [p256] at hx
  generalize (dig x).length = L at *
  have e1 : wrapF .i64 (8 * ((L : Nat) : Int)) = ((8 * L : Nat) : Int) := by rw [wrap_i64 (by omega) (by omega)]; omega
  have hloop := aloop_inv (body := acodeN E self nf lprlen_0) (N := 8 * L)
    (I := fun k T m' => m' = m /\ ∃ G, T = lst G 19 /\ G 0 = a /\ G 3 = .int .i64 ((8 * L - k : Nat) : Int) /\ x < 2 ^ (8 * L - k))
    (Q := fun e T m' => e = .exit 0 /\ m' = m /\ ∃ G n, T = lst G 19 /\ G 3 = .int .i64 ((n : Nat) : Int) /\ x < 2 ^ n /\ n ≤ 800 /\ (n = 0 ∨ x / 2 ^ (n - 1) % 2 = 1)) (fun k T m' hk hI => by
      obtain ⟨rfl, G, rfl, g0, g3, gx⟩ := hI
      by_cases hz : 8 * L - k = 0
      . right
        rw [hz] at g3 gx
        obtain ⟨F', hr, f3⟩ := rlen_zero (self := self) (nf := nf) (m := m') g3
        exact ⟨_, _, _, hr, by simp, rfl, rfl, F', 0, rfl, f3.trans g3, gx, by omega, .inl rfl⟩
      . obtain ⟨j, hj⟩ : ∃ j, 8 * L - k = j + 1 := ⟨8 * L - k - 1, by omega⟩
        rw [hj] at g3 gx
        rcases Nat.mod_two_eq_zero_or_one (x / 2 ^ j) with hb | hb
        . left
          obtain ⟨F', hr, f0, f3⟩ := rlen_more (self := self) (nf := nf) cb g0 g3 hA (by omega) hb
          have h9 : 8 * L - (k + 1) = j := by omega
          exact ⟨_, _, hr, by omega, rfl, F', rfl, f0.trans g0, by rw [h9]; exact f3, by rw [h9]; exact half_lt gx hb⟩
        . right
          obtain ⟨F', hr, f3⟩ := rlen_stop (self := self) (nf := nf) cb g0 g3 hA (by omega) hb
          exact ⟨_, _, _, hr, by simp, rfl, rfl, F', j + 1, rfl, f3.trans g3, gx, by omega, .inr hb⟩)
  obtain ⟨e, T', m', hr, rfl, rfl, G, n, rfl, g3, gx⟩ := hloop (8 * L) 0 nf (lst (upd (upd (upd (upd (upd (init [a]) 2 (.int .i64 0)) 4 a) 5 (.int .i64 ((L : Nat) : Int))) 6 (.int .i64 ((8 * L : Nat) : Int))) 3 (.int .i64 ((8 * L : Nat) : Int))) 19) m (by omega) (by omega) ⟨rfl, _, rfl, rfl, rfl, hx⟩
  refine ⟨n, ?_, gx⟩
  simp only [erlen_0, erlen_1, erlen_4, lrlen_0, lrlen_1, lrlen_4, agd_none, Tryd.f20, acodeN, aopsN, astep, aop, ev, nth_lst, aput, setAt_lst, upd_at, init_zero, init_succ, init_nil, Nat.reduceLT, Nat.reduceEqDiff, len_N, Option.map_some, if_true, if_false, hlen, mulK8, e1, hr, g3, finish, ares, aresL, ares1]
end
def CLen (self : Self) : Prop := ∀ (m : Mem) (a : Value) (x : Nat), NumA m a (dig x) -> (dig x).length ≤ 100 -> ∃ n, ainv E self 20 [a] m = some (.int .i64 (n : Nat), m) /\ x < 2 ^ n /\ n ≤ 800 /\ (n = 0 ∨ x / 2 ^ (n - 1) % 2 = 1)
theorem clen {R : Nat -> Self} {K : List Fact} (hR : Runs R K) {n : Nat} (hK : hasF K 20 = false) (cb : CBit (R n)) (hn : 1000 ≤ n) : CLen (R (n + 1)) := by
  intro m a x ha hl9
  by_cases hl : ([a].all lit2) = true
  . have hl8 := hl
    simp only [List.all_cons, List.all_nil, Bool.and_true] at hl8
    obtain ⟨rfl, h1⟩ := ha.lit hl8
    obtain ⟨k, hb, h2⟩ := rlenA_body (self := (R n)) (nf := n + 1) (m := (m.take E.G).map onlyTab) (a := .slice none 0 0) (x := x) cb (by rw [h1]; exact NumA.nil _) hl9 (by omega)
    exact ⟨k, ainv_lit hl (by kernel_rfl) (hR.b hK hb) rfl, h2⟩
  . obtain ⟨k, hb, h2⟩ := rlenA_body (self := (R n)) (nf := n + 1) cb ha.sealed hl9 (by omega)
    exact ⟨k, ainv_look (by simpa using hl) (by kernel_rfl) (hR.b hK hb) rfl, h2⟩
noncomputable def rrdiv_0 := opR Tryd.f22 [0]
noncomputable def lrdiv_0 : List Oper := match Tryd.f22.body with
  | some (.seq (.region _ o _) _) => o.toList
  | _ => []
theorem erdiv_0 : rrdiv_0.toList = lrdiv_0 := rfl
noncomputable def rrdiv_1 := opR Tryd.f22 [1,0]
noncomputable def lrdiv_1 : List Oper := match Tryd.f22.body with
  | some (.seq _ (.seq (.region _ o _) _)) => o.toList
  | _ => []
theorem erdiv_1 : rrdiv_1.toList = lrdiv_1 := rfl
noncomputable def rrdiv_2 := opR Tryd.f22 [1,1,0,0]
noncomputable def lrdiv_2 : List Oper := match Tryd.f22.body with
  | some (.seq _ (.seq _ (.seq (.seq (.region _ o _) _) _))) => o.toList
  | _ => []
theorem erdiv_2 : rrdiv_2.toList = lrdiv_2 := rfl
noncomputable def lprdiv_0 : Code := match Tryd.f22.body with
  | some (.seq _ (.seq _ (.seq (.seq _ (.block _ (.loop c))) _))) => c
  | _ => .skip
noncomputable def rrdiv_3 := opR Tryd.f22 [1,1,0,1,0,0,0,0]
noncomputable def lrdiv_3 : List Oper := match Tryd.f22.body with
  | some (.seq _ (.seq _ (.seq (.seq _ (.block _ (.loop (.seq (.seq (.region _ o _) _) _)))) _))) => o.toList
  | _ => []
theorem erdiv_3 : rrdiv_3.toList = lrdiv_3 := rfl
noncomputable def rrdiv_5 := opR Tryd.f22 [1,1,0,1,0,0,1,0,0,0]
noncomputable def lrdiv_5 : List Oper := match Tryd.f22.body with
  | some (.seq _ (.seq _ (.seq (.seq _ (.block _ (.loop (.seq _ (.seq (.block _ (.seq (.region _ o _) _)) _))))) _))) => o.toList
  | _ => []
theorem erdiv_5 : rrdiv_5.toList = lrdiv_5 := rfl
noncomputable def rrdiv_6 := opR Tryd.f22 [1,1,0,1,0,0,1,0,0,1,0,0]
noncomputable def lrdiv_6 : List Oper := match Tryd.f22.body with
  | some (.seq _ (.seq _ (.seq (.seq _ (.block _ (.loop (.seq _ (.seq (.block _ (.seq _ (.seq (.seq (.region _ o _) _) _))) _))))) _))) => o.toList
  | _ => []
theorem erdiv_6 : rrdiv_6.toList = lrdiv_6 := rfl
noncomputable def rrdiv_7 := opR Tryd.f22 [1,1,0,1,0,0,1,0,0,1,0,1,0]
noncomputable def lrdiv_7 : List Oper := match Tryd.f22.body with
  | some (.seq _ (.seq _ (.seq (.seq _ (.block _ (.loop (.seq _ (.seq (.block _ (.seq _ (.seq (.seq _ (.cond _ (.region _ o _) _)) _))) _))))) _))) => o.toList
  | _ => []
theorem erdiv_7 : rrdiv_7.toList = lrdiv_7 := rfl
noncomputable def rrdiv_8 := opR Tryd.f22 [1,1,0,1,0,0,1,0,0,1,1,0]
noncomputable def lrdiv_8 : List Oper := match Tryd.f22.body with
  | some (.seq _ (.seq _ (.seq (.seq _ (.block _ (.loop (.seq _ (.seq (.block _ (.seq _ (.seq _ (.seq (.region _ o _) _)))) _))))) _))) => o.toList
  | _ => []
theorem erdiv_8 : rrdiv_8.toList = lrdiv_8 := rfl
noncomputable def rrdiv_9 := opR Tryd.f22 [1,1,0,1,0,0,1,0,0,1,1,1,0]
noncomputable def lrdiv_9 : List Oper := match Tryd.f22.body with
  | some (.seq _ (.seq _ (.seq (.seq _ (.block _ (.loop (.seq _ (.seq (.block _ (.seq _ (.seq _ (.seq _ (.seq (.region _ o _) _))))) _))))) _))) => o.toList
  | _ => []
theorem erdiv_9 : rrdiv_9.toList = lrdiv_9 := rfl
noncomputable def rrdiv_10 := opR Tryd.f22 [1,1,0,1,0,0,1,0,0,1,1,1,1,0,0]
noncomputable def lrdiv_10 : List Oper := match Tryd.f22.body with
  | some (.seq _ (.seq _ (.seq (.seq _ (.block _ (.loop (.seq _ (.seq (.block _ (.seq _ (.seq _ (.seq _ (.seq _ (.cond _ (.seq (.region _ o _) _) _)))))) _))))) _))) => o.toList
  | _ => []
theorem erdiv_10 : rrdiv_10.toList = lrdiv_10 := rfl
noncomputable def rrdiv_11 := opR Tryd.f22 [1,1,0,1,0,0,1,0,0,1,1,1,1,0,1]
noncomputable def lrdiv_11 : List Oper := match Tryd.f22.body with
  | some (.seq _ (.seq _ (.seq (.seq _ (.block _ (.loop (.seq _ (.seq (.block _ (.seq _ (.seq _ (.seq _ (.seq _ (.cond _ (.seq _ (.region _ o _)) _)))))) _))))) _))) => o.toList
  | _ => []
theorem erdiv_11 : rrdiv_11.toList = lrdiv_11 := rfl
noncomputable def rrdiv_4 := opR Tryd.f22 [1,1,0,1,0,0,1,1]
noncomputable def lrdiv_4 : List Oper := match Tryd.f22.body with
  | some (.seq _ (.seq _ (.seq (.seq _ (.block _ (.loop (.seq _ (.seq _ (.region _ o _)))))) _))) => o.toList
  | _ => []
theorem erdiv_4 : rrdiv_4.toList = lrdiv_4 := rfl
theorem lprdiv_0_eq : lprdiv_0 = (.seq (.seq (.region 3 rrdiv_3 false) (.cond (.tmp 14) .skip (.exit 0))) (.seq (.block 1 (.seq (.region 5 rrdiv_5 false) (.seq (.seq (.region 6 rrdiv_6 false) (.cond (.tmp 23) (.region 7 rrdiv_7 false) .skip)) (.seq (.region 8 rrdiv_8 false) (.seq (.region 9 rrdiv_9 false) (.cond (.tmp 33) (.seq (.region 10 rrdiv_10 false) (.region 11 rrdiv_11 false)) .skip)))))) (.region 4 rrdiv_4 false))) := rfl
noncomputable def rrdiv_12 := opR Tryd.f22 [1,1,1,0]
noncomputable def lrdiv_12 : List Oper := match Tryd.f22.body with
  | some (.seq _ (.seq _ (.seq _ (.seq (.region _ o _) _)))) => o.toList
  | _ => []
theorem erdiv_12 : rrdiv_12.toList = lrdiv_12 := rfl
theorem bodyrdiv : Tryd.f22.body = some (.seq (.region 0 rrdiv_0 false) (.seq (.region 1 rrdiv_1 false) (.seq (.seq (.region 2 rrdiv_2 false) (.block 0 (.loop lprdiv_0))) (.seq (.region 12 rrdiv_12 false) .ret)))) := rfl
-- ntmps 42
theorem one_row {m : Mem} : NumA (m ++ [Blk.row false 3 [.int .i64 1]]) (.slice (some ⟨m.length, 0, none⟩) 1 1) (dig 1) := by
  have h : dig 1 = [1] := by rw [dig_pos (by omega)]; show (1 % 256) :: dig 0 = _; rw [dig_zero]
  rw [h]
  exact NumA.row (L := [1]) (ro := false) (by rw [List.getElem?_append_right (Nat.le_refl _), Nat.sub_self]; rfl) (Nat.le_refl _)
theorem geqI (a b : Int) : abin .geq .i64 a .i64 b = some (.bool (decide (a ≥ b))) := by kernel_rfl
theorem callAddD : callableB E.P 10 = true := by kernel_rfl
theorem callSubD : callableB E.P 16 = true := by kernel_rfl
theorem callCmpD : callableB E.P 11 = true := by kernel_rfl
theorem dl {x j k : Nat} (h : x < 256 ^ j) (hj : j ≤ k) : (dig x).length ≤ k := Nat.le_trans (dig_len_le h) hj
theorem dbl_lt {x j : Nat} (h : x < 256 ^ j) : x + x + 1 < 256 ^ (j + 1) := by
  rw [Nat.pow_succ]; generalize 256 ^ j = P at *; omega
section
variable {self : Self} {nf : Nat} {m : Mem} {F : Nat -> Value} {a b : Value} {x y B q r i j : Nat}
theorem rdiv_5 (ca : CAdd self) (hr : NumB B (F 7) m r) (hB : B ≤ m.length) (hl : r < 256 ^ j) (hj : j ≤ 200) :
    ∃ F' m', acodeN E self nf (.region 5 rrdiv_5 false) (lst F 42) m = some (.normal, lst F' 42, m') /\ F' 0 = F 0 /\ F' 1 = F 1 /\ F' 6 = F 6 /\ F' 8 = F 8 /\ NumB B (F' 7) m' (r + r) /\ Kept m m' := by
  generalize hv : F 7 = v at hr
  obtain ⟨u, m1, e1, r1⟩ := ca m v v r r hr.s.a hr.s.a (dl hl (by omega)) (dl hl (by omega))
  simp only [erdiv_5, lrdiv_5, agd_none, Tryd.f22, List.cons_append, List.nil_append, acodeN, aopsN, astep, aop, ev, nth_lst, aput, setAt_lst, upd_at, Nat.reduceLT, Nat.reduceEqDiff, List.map_cons, List.map_nil, List.isEmpty_nil, bls, if_true, if_false, hv, callAddD, e1]
  exact ⟨_, _, rfl, rfl, rfl, rfl, rfl, by simp only [upd_at, Nat.reduceEqDiff, reduceIte]; exact r1.b.mono hB, r1.keeps⟩
theorem rdiv_6 (ca : CAdd self) (cb : CBit self) (h0 : F 0 = a) (h8 : F 8 = .int .i64 (i : Nat)) (hA : NumA m a (dig x)) (hi : i < 90000) (hr : NumB B (F 7) m r) (hB : B ≤ m.length) (hl : r < 256 ^ j) (hj : j ≤ 200) :
    ∃ F' m', acodeN E self nf (.seq (.region 6 rrdiv_6 false) (.cond (.tmp 23) (.region 7 rrdiv_7 false) .skip)) (lst F 42) m = some (.normal, lst F' 42, m') /\ F' 0 = F 0 /\ F' 1 = F 1 /\ F' 6 = F 6 /\ F' 8 = F 8 /\ NumB B (F' 7) m' (r + x / 2 ^ i % 2) /\ Kept m m' := by
  generalize hv : F 7 = v at hr
  have q1 := cb m a x i hA (by omega)
  rcases Nat.mod_two_eq_zero_or_one (x / 2 ^ i) with hb | hb
  . rw [hb] at q1 ⊢
    have q2 : (((0 : Nat) : Int) == 1) = false := rfl
    simp only [erdiv_6, lrdiv_6, agd_none, Tryd.f22, List.cons_append, List.nil_append, acodeN, aopsN, astep, aop, ev, nth_lst, aput, setAt_lst, upd_at, Nat.reduceLT, Nat.reduceEqDiff, Option.map_some, eqlVal_int, ↓aop_eqlV, List.map_cons, List.map_nil, List.isEmpty_nil, bls, if_true, if_false, h0, h8, callBitR, q1, q2]
    exact ⟨_, _, rfl, by simp only [upd_at, Nat.reduceEqDiff, reduceIte, h0], rfl, rfl, by simp only [upd_at, Nat.reduceEqDiff, reduceIte, h8], by simp only [upd_at, Nat.reduceEqDiff, reduceIte, hv]; exact hr, Kept.refl _⟩
  . rw [hb] at q1 ⊢
    have q2 : (((1 : Nat) : Int) == 1) = true := rfl
    have b1 := build27 1 m
    obtain ⟨u, m1, e1, r1⟩ := ca (m ++ [Blk.row false 3 [.int .i64 1]]) v (.slice (some ⟨m.length, 0, none⟩) 1 1) r 1 (hr.s.a.on (Kept.app _ _)) one_row (dl hl (by omega)) (dl (j := 1) (by decide) (by omega))
    have k1 := (Kept.app m [Blk.row false 3 [.int .i64 1]]).trans r1.keeps
    simp only [erdiv_6, erdiv_7, lrdiv_6, lrdiv_7, agd_none, Tryd.f22, List.cons_append, List.nil_append, acodeN, aopsN, astep, aop, ev, nth_lst, aput, setAt_lst, upd_at, Nat.reduceLT, Nat.reduceEqDiff, Option.map_some, eqlVal_int, ↓aop_eqlV, List.map_cons, List.map_nil, List.isEmpty_nil, bls, if_true, if_false, hv, h0, h8, callBitR, q1, q2, b1, callAddD, e1]
    exact ⟨_, _, rfl, by simp only [upd_at, Nat.reduceEqDiff, reduceIte, h0], rfl, rfl, by simp only [upd_at, Nat.reduceEqDiff, reduceIte, h8], by simp only [upd_at, Nat.reduceEqDiff, reduceIte]; exact r1.b.mono (Nat.le_trans hB (Kept.app m _).1), k1⟩
theorem rdiv_8 (ca : CAdd self) (hr : NumB B (F 6) m r) (hB : B ≤ m.length) (hl : r < 256 ^ j) (hj : j ≤ 200) :
    ∃ F' m', acodeN E self nf (.region 8 rrdiv_8 false) (lst F 42) m = some (.normal, lst F' 42, m') /\ F' 0 = F 0 /\ F' 1 = F 1 /\ F' 7 = F 7 /\ F' 8 = F 8 /\ NumB B (F' 6) m' (r + r) /\ Kept m m' := by
  generalize hv : F 6 = v at hr
  obtain ⟨u, m1, e1, r1⟩ := ca m v v r r hr.s.a hr.s.a (dl hl (by omega)) (dl hl (by omega))
  simp only [erdiv_8, lrdiv_8, agd_none, Tryd.f22, List.cons_append, List.nil_append, acodeN, aopsN, astep, aop, ev, nth_lst, aput, setAt_lst, upd_at, Nat.reduceLT, Nat.reduceEqDiff, List.map_cons, List.map_nil, List.isEmpty_nil, bls, if_true, if_false, hv, callAddD, e1]
  exact ⟨_, _, rfl, rfl, rfl, rfl, rfl, by simp only [upd_at, Nat.reduceEqDiff, reduceIte]; exact r1.b.mono hB, r1.keeps⟩
theorem rdiv_9 (ca : CAdd self) (cc : CCmp self) (cs : CSub self) (h1 : F 1 = b) (hN : NumA m b (dig y)) (ho : NumB B (F 6) m q) (hr : NumB B (F 7) m r) (hB : B ≤ m.length) (hq : q < 256 ^ j) (hl : r < 256 ^ j) (hy : y < 256 ^ j) (hj : j ≤ 200) :
    ∃ F' m', acodeN E self nf (.seq (.region 9 rrdiv_9 false) (.cond (.tmp 33) (.seq (.region 10 rrdiv_10 false) (.region 11 rrdiv_11 false)) .skip)) (lst F 42) m = some (.normal, lst F' 42, m') /\ F' 0 = F 0 /\ F' 1 = F 1 /\ F' 8 = F 8 /\ NumB B (F' 6) m' (if y ≤ r then q + 1 else q) /\ NumB B (F' 7) m' (if y ≤ r then r - y else r) /\ Kept m m' := by
  generalize hv : F 7 = v at hr
  generalize hw : F 6 = w at ho
  have e0 := cc m v b r y hr.s.a hN (dl hl (by omega)) (dl hy (by omega))
  by_cases hle : y ≤ r
  . have q0 : decide (cmpN r y ≥ 0) = true := decide_eq_true (by unfold cmpN; split <;> (try split) <;> omega)
    obtain ⟨u, m1, e1, r1⟩ := cs m v b r y hr.s.a hN hle (dl hl (by omega))
    have b1 := build27 1 m1
    obtain ⟨u2, m2, e2, r2⟩ := ca (m1 ++ [Blk.row false 3 [.int .i64 1]]) w (.slice (some ⟨m1.length, 0, none⟩) 1 1) q 1 (ho.s.a.on (r1.keeps.trans (Kept.app _ _))) one_row (dl hq (by omega)) (dl (j := 1) (by decide) (by omega))
    have k2 := (Kept.app m1 [Blk.row false 3 [.int .i64 1]]).trans r2.keeps
    rw [if_pos hle, if_pos hle]
    simp only [erdiv_10, erdiv_11, erdiv_9, lrdiv_9, lrdiv_10, lrdiv_11, agd_none, Tryd.f22, List.cons_append, List.nil_append, acodeN, aopsN, astep, aop, ev, nth_lst, aput, setAt_lst, upd_at, Nat.reduceLT, Nat.reduceEqDiff, List.map_cons, List.map_nil, List.isEmpty_nil, bls, if_true, if_false, hv, hw, h1, callCmpD, e0, geqI, q0, callSubD, e1, b1, callAddD, e2]
    exact ⟨_, _, rfl, rfl, by simp only [upd_at, Nat.reduceEqDiff, reduceIte, h1], rfl, by simp only [upd_at, Nat.reduceEqDiff, reduceIte]; exact r2.b.mono (Nat.le_trans hB (r1.keeps.trans (Kept.app _ _)).1), by simp only [upd_at, Nat.reduceEqDiff, reduceIte]; exact (r1.b.mono hB).on k2, r1.keeps.trans k2⟩
  . have q0 : decide (cmpN r y ≥ 0) = false := decide_eq_false (by unfold cmpN; split <;> (try split) <;> omega)
    rw [if_neg hle, if_neg hle]
    simp only [erdiv_9, lrdiv_9, agd_none, Tryd.f22, List.cons_append, List.nil_append, acodeN, aopsN, astep, aop, ev, nth_lst, aput, setAt_lst, upd_at, Nat.reduceLT, Nat.reduceEqDiff, List.map_cons, List.map_nil, List.isEmpty_nil, bls, if_true, if_false, hv, h1, callCmpD, e0, geqI, q0]
    exact ⟨_, _, rfl, rfl, by simp only [upd_at, Nat.reduceEqDiff, reduceIte, h1], rfl, by simp only [upd_at, Nat.reduceEqDiff, reduceIte, hw]; exact ho, by simp only [upd_at, Nat.reduceEqDiff, reduceIte, hv]; exact hr, Kept.refl _⟩
theorem rdiv_4 (h8 : F 8 = .int .i64 (i : Nat)) (hi : i < 90000) : ∃ F', acodeN E self nf (.region 4 rrdiv_4 false) (lst F 42) m = some (.normal, lst F' 42, m) /\ F' 0 = F 0 /\ F' 1 = F 1 /\ F' 6 = F 6 /\ F' 7 = F 7 /\ F' 8 = .int .i64 (((i : Nat) : Int) - 1) := by
  have e1 : wrapF .i64 (((i : Nat) : Int) - 1) = ((i : Nat) : Int) - 1 := wrapS (by omega) (by omega)
  simp only [erdiv_4, lrdiv_4, agd_none, Tryd.f22, acodeN, aopsN, astep, aop, ev, nth_lst, aput, setAt_lst, upd_at, Nat.reduceLT, Nat.reduceEqDiff, if_true, if_false, h8, sub64', e1]
  exact ⟨_, rfl, rfl, rfl, rfl, rfl, rfl⟩
theorem rdiv_3 (h8 : F 8 = .int .i64 (i : Nat)) : ∃ F', acodeN E self nf (.seq (.region 3 rrdiv_3 false) (.cond (.tmp 14) .skip (.exit 0))) (lst F 42) m = some (.normal, lst F' 42, m) /\ F' 0 = F 0 /\ F' 1 = F 1 /\ F' 6 = F 6 /\ F' 7 = F 7 /\ F' 8 = F 8 := by
  have q0 : decide (((i : Nat) : Int) ≥ 0) = true := decide_eq_true (by omega)
  simp only [erdiv_3, lrdiv_3, agd_none, Tryd.f22, acodeN, aopsN, astep, aop, ev, nth_lst, aput, setAt_lst, upd_at, Nat.reduceLT, Nat.reduceEqDiff, if_true, if_false, h8, geqI, q0]
  exact ⟨_, rfl, rfl, rfl, rfl, rfl, by simp only [upd_at, Nat.reduceEqDiff, reduceIte, h8]⟩
theorem rdiv_last (h8 : F 8 = .int .i64 (-1)) : ∃ F', acodeN E self nf lprdiv_0 (lst F 42) m = some (.exit 0, lst F' 42, m) /\ F' 6 = F 6 /\ F' 7 = F 7 := by
  have q0 : decide ((-1 : Int) ≥ 0) = false := rfl
  simp only [lprdiv_0_eq, erdiv_3, lrdiv_3, agd_none, Tryd.f22, acodeN, aopsN, astep, aop, ev, nth_lst, aput, setAt_lst, upd_at, Nat.reduceLT, Nat.reduceEqDiff, if_true, if_false, h8, geqI, q0]
  exact ⟨_, rfl, rfl, rfl⟩
theorem qr_step {X y t : Nat} (hy : 0 < y) (ht : t < 2) : (X + X + t) / y = (if y ≤ X % y + X % y + t then X / y + X / y + 1 else X / y + X / y) /\ (X + X + t) % y = (if y ≤ X % y + X % y + t then X % y + X % y + t - y else X % y + X % y + t) := by
  have h1 := Nat.div_add_mod X y
  have h2 := Nat.mod_lt X hy
  generalize X / y = q at *
  generalize X % y = r at *
  have h3 : X + X + t = y * (q + q) + (r + r + t) := by rw [Nat.mul_add]; omega
  by_cases hle : y ≤ r + r + t
  . rw [if_pos hle, if_pos hle]
    have h4 : X + X + t = y * (q + q + 1) + (r + r + t - y) := by rw [Nat.mul_add y (q + q) 1, Nat.mul_one]; omega
    rw [h4, Nat.mul_add_div hy, Nat.mul_add_mod, Nat.div_eq_of_lt (by omega), Nat.mod_eq_of_lt (by omega)]
    exact ⟨rfl, rfl⟩
  . rw [if_neg hle, if_neg hle, h3, Nat.mul_add_div hy, Nat.mul_add_mod, Nat.div_eq_of_lt (by omega), Nat.mod_eq_of_lt (by omega)]
    exact ⟨rfl, rfl⟩
theorem rdiv_it {X : Nat} (ca : CAdd self) (cc : CCmp self) (cs : CSub self) (cb : CBit self) (h0 : F 0 = a) (h1 : F 1 = b) (h8 : F 8 = .int .i64 (i : Nat)) (hi : i < 90000) (hA : NumA m a (dig x)) (hN : NumA m b (dig y)) (hy : 0 < y) (ho : NumB B (F 6) m (X / y)) (hr : NumB B (F 7) m (X % y)) (hB : B ≤ m.length) (hX : X < 256 ^ j) (hy9 : y < 256 ^ j) (hj : j ≤ 100) :
    ∃ F' m', acodeN E self nf lprdiv_0 (lst F 42) m = some (.normal, lst F' 42, m') /\ F' 0 = a /\ F' 1 = b /\ F' 8 = .int .i64 (((i : Nat) : Int) - 1) /\ NumB B (F' 6) m' ((X + X + x / 2 ^ i % 2) / y) /\ NumB B (F' 7) m' ((X + X + x / 2 ^ i % 2) % y) /\ Kept m m' := by
  have hq9 : X / y < 256 ^ j := Nat.lt_of_le_of_lt (Nat.div_le_self _ _) hX
  have hr9 : X % y < 256 ^ j := Nat.lt_trans (Nat.mod_lt _ hy) hy9
  have hd := dbl_lt hr9
  have hd2 := dbl_lt hq9
  have hy2 : y < 256 ^ (j + 1) := Nat.lt_of_lt_of_le hy9 (Nat.pow_le_pow_right (by omega) (by omega))
  have hb2 : x / 2 ^ i % 2 < 2 := Nat.mod_lt _ (by omega)
  obtain ⟨s1, s2⟩ := qr_step (X := X) hy hb2
  rw [s1, s2]
  obtain ⟨A, r3, a0, a1, a6, a7, a8⟩ := rdiv_3 (self := self) (nf := nf) (m := m) (F := F) h8
  obtain ⟨C, m1, r5, c0, c1, c6, c8, c7, k1⟩ := rdiv_5 (self := self) (nf := nf) (m := m) (F := A) ca (by rw [a7]; exact hr) hB hr9 (by omega)
  obtain ⟨D, m2, r6, d0, d1, d6, d8, d7, k2⟩ := rdiv_6 (self := self) (nf := nf) (m := m1) (F := C) ca cb (c0.trans (a0.trans h0)) (c8.trans (a8.trans h8)) (hA.on k1) hi c7 (Nat.le_trans hB k1.1) (show X % y + X % y < 256 ^ (j + 1) by omega) (by omega)
  have k12 := k1.trans k2
  obtain ⟨G, m3, r8, g0, g1, g7, g8, g6, k3⟩ := rdiv_8 (self := self) (nf := nf) (m := m2) (F := D) (B := B) (r := X / y) ca (by rw [d6, c6, a6]; exact ho.on k12) (Nat.le_trans hB k12.1) hq9 (by omega)
  have k13 := k12.trans k3
  obtain ⟨H, m4, r9, f0, f1, f8, f6, f7, k4⟩ := rdiv_9 (self := self) (nf := nf) (m := m3) (F := G) (B := B) (b := b) (y := y) ca cc cs (g1.trans (d1.trans (c1.trans (a1.trans h1)))) (hN.on k13) g6 (by rw [g7]; exact d7.on k3) (Nat.le_trans hB k13.1) (show X / y + X / y < 256 ^ (j + 1) by omega) (show X % y + X % y + x / 2 ^ i % 2 < 256 ^ (j + 1) by omega) hy2 (by omega)
  obtain ⟨I, r4, i0, i1, i6, i7, i8⟩ := rdiv_4 (self := self) (nf := nf) (m := m4) (F := H) (i := i) (f8.trans (g8.trans (d8.trans (c8.trans (a8.trans h8))))) hi
  refine ⟨I, m4, ?_, i0.trans (f0.trans (g0.trans (d0.trans (c0.trans (a0.trans h0))))), i1.trans (f1.trans (g1.trans (d1.trans (c1.trans (a1.trans h1))))), i8, by rw [i6]; exact f6, by rw [i7]; exact f7, k13.trans k4⟩
  rw [lprdiv_0_eq]
  generalize Code.seq (Code.region 3 rrdiv_3 false) (Code.cond (Operand.tmp 14) Code.skip (Code.exit 0)) = C3 at *
  generalize Code.region 5 rrdiv_5 false = C5 at *
  generalize Code.seq (Code.region 6 rrdiv_6 false) (Code.cond (Operand.tmp 23) (Code.region 7 rrdiv_7 false) Code.skip) = C6 at *
  generalize Code.region 8 rrdiv_8 false = C8 at *
  generalize Code.seq (Code.region 9 rrdiv_9 false) (Code.cond (Operand.tmp 33) (Code.seq (Code.region 10 rrdiv_10 false) (Code.region 11 rrdiv_11 false)) Code.skip) = C9 at *
  generalize Code.region 4 rrdiv_4 false = C4 at *
  simp only [acodeN, r3, r5, r6, r8, r9, r4]
theorem shift_step (x i : Nat) : x / 2 ^ (i + 1) + x / 2 ^ (i + 1) + x / 2 ^ i % 2 = x / 2 ^ i := by
  rw [Nat.pow_succ, ← Nat.div_div_eq_div_mul]; omega
theorem div_body (ca : CAdd self) (cc : CCmp self) (cs : CSub self) (cb : CBit self) (hA : NumA m a (dig x)) (hN : NumA m b (dig y)) (hy : 0 < y) (hx9 : x < 256 ^ 100) (hy9 : y < 256 ^ 100) (hnf : 1000 < nf) :
    ∃ v w m', abody E self nf 22 [a, b] m = some (.tuple ⟨[v, w]⟩, m') /\ NumB m.length v m' (x / y) /\ NumB m.length w m' (x % y) := by
  rw [abody_eqF (by kernel_rfl) Tryd.func22 bodyrdiv (by kernel_rfl) (Nat.le_of_ble_eq_true rfl)]
  rw [show Tryd.f22.ntmps = 42 from rfl]
  have hlen := hA.1
  have hl := dig_len_le hx9
  have hx := lt_dig_len x
  rw [p256] at hx
  generalize (dig x).length = L at hlen hl hx
  have e1 : wrapF .i64 (8 * ((L : Nat) : Int)) = ((8 * L : Nat) : Int) := by rw [wrap_i64 (by omega) (by omega)]; omega
  have e2 : wrapF .i64 (((8 * L : Nat) : Int) - 1) = ((8 * L : Nat) : Int) - 1 := wrapS (by omega) (by omega)
  have hloop := aloop_inv (body := acodeN E self nf lprdiv_0) (N := 8 * L)
    (I := fun k T m' => Kept m m' /\ ∃ G, T = lst G 42 /\ G 0 = a /\ G 1 = b /\ G 8 = .int .i64 (((8 * L - k : Nat) : Int) - 1) /\ NumB m.length (G 6) m' (x / 2 ^ (8 * L - k) / y) /\ NumB m.length (G 7) m' (x / 2 ^ (8 * L - k) % y))
    (Q := fun e T m' => e = .exit 0 /\ ∃ G, T = lst G 42 /\ NumB m.length (G 6) m' (x / y) /\ NumB m.length (G 7) m' (x % y)) (fun k T m' hk hI => by
      obtain ⟨gk, G, rfl, g0, g1, g8, g6, g7⟩ := hI
      by_cases hz : 8 * L - k = 0
      . right
        rw [hz] at g8 g6 g7
        rw [Nat.pow_zero, Nat.div_one] at g6 g7
        obtain ⟨F', hr, f6, f7⟩ := rdiv_last (self := self) (nf := nf) (m := m') (F := G) (g8.trans (by rfl))
        exact ⟨_, _, _, hr, by simp, rfl, F', rfl, by rw [f6]; exact g6, by rw [f7]; exact g7⟩
      . left
        obtain ⟨j, hj⟩ : ∃ j, 8 * L - k = j + 1 := ⟨8 * L - k - 1, by omega⟩
        rw [hj] at g8 g6 g7
        rw [show (((j + 1 : Nat) : Int) - 1) = ((j : Nat) : Int) by omega] at g8
        have hs := shift_step x j
        obtain ⟨F', m2, hr, f0, f1, f8, f6, f7, kk⟩ := rdiv_it (self := self) (nf := nf) (X := x / 2 ^ (j + 1)) (j := 100) ca cc cs cb g0 g1 g8 (by omega) (hA.on gk) (hN.on gk) hy g6 g7 gk.1 (Nat.lt_of_le_of_lt (Nat.div_le_self _ _) hx9) hy9 (by omega)
        rw [hs] at f6 f7
        have h9 : 8 * L - (k + 1) = j := by omega
        exact ⟨_, _, hr, by omega, gk.trans kk, F', rfl, f0, f1, by rw [h9]; exact f8, by rw [h9]; exact f6, by rw [h9]; exact f7⟩)
  obtain ⟨e, T', m', hr, rfl, G, rfl, g6, g7⟩ := hloop (8 * L) 0 nf (lst (upd (upd (upd (upd (upd (upd (upd (upd (upd (init [a, b]) 4 (.slice none 0 0)) 5 (.slice none 0 0)) 6 (.slice none 0 0)) 7 (.slice none 0 0)) 9 a) 10 (.int .i64 ((L : Nat) : Int))) 11 (.int .i64 ((8 * L : Nat) : Int))) 12 (.int .i64 (((8 * L : Nat) : Int) - 1))) 8 (.int .i64 (((8 * L : Nat) : Int) - 1))) 42) m (by omega) (by omega) ⟨Kept.refl _, _, rfl, rfl, rfl, rfl, by rw [Nat.sub_zero, Nat.div_eq_of_lt hx, Nat.zero_div]; exact .inl ⟨rfl, rfl⟩, by rw [Nat.sub_zero, Nat.div_eq_of_lt hx, Nat.zero_mod]; exact .inl ⟨rfl, rfl⟩⟩
  refine ⟨G 6, G 7, m', ?_, g6, g7⟩
  simp only [erdiv_0, erdiv_1, erdiv_12, erdiv_2, lrdiv_0, lrdiv_1, lrdiv_2, lrdiv_12, agd_none, Tryd.f22, acodeN, aopsN, astep, aop, ev, nth_lst, aput, setAt_lst, upd_at, init_zero, init_succ, init_nil, Nat.reduceLT, Nat.reduceEqDiff, len_N, Option.map_some, if_true, if_false, hlen, mulK8, e1, sub64', e2, hr, finish, ares, aresL, ares1]
end
def CDiv (self : Self) : Prop := ∀ (m : Mem) (a b : Value) (x y : Nat), NumA m a (dig x) -> NumA m b (dig y) -> 0 < y -> x < 256 ^ 100 -> y < 256 ^ 100 -> ∃ v w m', ainv E self 22 [a, b] m = some (.tuple ⟨[v, w]⟩, m') /\ NumB m.length v m' (x / y) /\ NumB m.length w m' (x % y) /\ Kept m m'
theorem cdiv {R : Nat -> Self} {K : List Fact} (hR : Runs R K) {n : Nat} (hK : hasF K 22 = false) (ca : CAdd (R n)) (cc : CCmp (R n)) (cs : CSub (R n)) (cb : CBit (R n)) (hn : 1000 ≤ n) : CDiv (R (n + 1)) := by
  intro m a b x y ha hb hy hx9 hy9
  have key : ∀ M : Mem, NumA M a (dig x) -> NumA M b (dig y) -> ∃ v w m1, R (n + 1) 22 [a, b] M = some (.tuple ⟨[v, w]⟩, m1) /\ NumB M.length v m1 (x / y) /\ NumB M.length w m1 (x % y) := by
    intro M hA hB
    obtain ⟨v, w, m1, h1, h2⟩ := div_body (self := R n) (nf := n + 1) ca cc cs cb hA hB hy hx9 hy9 (by omega)
    exact ⟨v, w, m1, hR.b hK h1, h2⟩
  unfold ainv
  by_cases hl : ([a, b].all lit2) = true
  . rw [if_pos hl, show E.fast 22 = none from by kernel_rfl]
    simp only [List.all_cons, List.all_nil, Bool.and_true, Bool.and_eq_true] at hl
    obtain ⟨rfl, h1⟩ := ha.lit hl.1
    obtain ⟨rfl, h2⟩ := hb.lit hl.2
    obtain ⟨v, w, m1, h3, h4, h5⟩ := key ((m.take E.G).map onlyTab) (by rw [h1]; exact NumA.nil _) (by rw [h2]; exact NumA.nil _)
    simp only [h3]
    obtain ⟨v', w', m', h6, h7, h8, h9⟩ := h4.coll22 (m := m) h5
    exact ⟨v', w', m', h6, h8, h9, h7⟩
  . rw [if_neg hl, show E.wr 22 = false from by kernel_rfl]
    obtain ⟨v, w, m1, h3, h4, h5⟩ := key (m.map sealed) ha.sealed hb.sealed
    simp only [Bool.false_eq_true, if_false, h3]
    obtain ⟨v', w', m', h6, h7, h8, h9⟩ := h4.coll22 (m := m) h5
    exact ⟨v', w', m', h6, h8, h9, h7⟩
end Go.Am.Seat
