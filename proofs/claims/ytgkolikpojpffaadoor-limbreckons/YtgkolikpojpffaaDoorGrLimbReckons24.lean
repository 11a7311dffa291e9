/-
  Texts of my own, put together: KW5, KW6, KWS.
-/
import Derived.Test.YtgkolikpojpffaaDoorGrLimbReckons23
set_option linter.unusedSimpArgs false
set_option linter.unusedVariables false
set_option maxRecDepth 100000
namespace Go.Am.Seat
open Go.Proofs Go.Am Go.Am.Num Go.Am.Kn
theorem a16w : ArrT 88 16 22 .u64 := ⟨Tryd.underlying88, und22, info_of (by kernel_rfl), info_of (by kernel_rfl)⟩
theorem alloc16 (m : Mem) : aalloc E.P 88 m = some (.pointer (some ⟨m.length, 0, none⟩), m ++ [.row false 88 (rowK .u64 16 fun _ => 0)]) := by kernel_rfl
theorem callPrd : callableB E.P 42 = true := by kernel_rfl
def CMs (self : Self) : Prop := ∀ x y a c, x < 18446744073709551616 -> y < 18446744073709551616 -> a < 18446744073709551616 -> c < 18446744073709551616 -> Ans self 63 [U x, U y, U a, U c] (pair64 ((x * y + a + c) % 18446744073709551616) ((x * y + a + c) / 18446744073709551616))
theorem addIW {a b : Nat} (h : a + b < 1000000000) : wrapF .i64 (((a : Nat) : Int) + ((b : Nat) : Int)) = ((a + b : Nat) : Int) := by rw [wrap_i64 (by omega) (by omega)]; omega
theorem ahead_prd_17a : aheadB E.P E.wr rprd_17 8 10 = false := by kernel_rfl
theorem ahead_prd_17b : aheadB E.P E.wr rprd_17 8 12 = true := by kernel_rfl
theorem ahead_prd_19a : aheadB E.P E.wr rprd_19 1 2 = false := by kernel_rfl
theorem ahead_prd_19b : aheadB E.P E.wr rprd_19 1 3 = true := by kernel_rfl
structure Oth (M m' : Mem) (t : Nat) (R : Nat -> Nat) : Prop where
  o : ∀ k, k ≠ t -> m'[k]? = M[k]?
  t : m'[t]? = some (.row false 88 (rowK .u64 16 R))
theorem Oth.set {M m' : Mem} {t k x : Nat} {R : Nat -> Nat} (h : Oth M m' t R) : Oth M (m'.set t (.row false 88 (rowK .u64 16 (putW R k x)))) t (putW R k x) where
  o := fun j hj => by rw [List.getElem?_set_ne (fun e => hj e.symm)]; exact h.o j hj
  t := by rw [List.getElem?_set_self (lt_of_at h.t)]
section
variable {self : Self} {nf : Nat} {m m' M : Mem} {F : Nat -> Value} {p q r s t n u i j k c : Nat} {w v o R R0 : Nat -> Nat} {be be' : TypeId}
theorem prd_0 {m1 m2 m3 m4 : Mem} (hb : abox E.P 24 (wide w) m = some (.pointer (some ⟨p, 0, none⟩), m1)) (hc : abox E.P 24 (wide v) m1 = some (.pointer (some ⟨q, 0, none⟩), m2)) (hd : aalloc E.P 24 m2 = some (.pointer (some ⟨r, 0, none⟩), m3)) (he : aalloc E.P 24 m3 = some (.pointer (some ⟨s, 0, none⟩), m4)) (h0 : F 0 = wide w) (h1 : F 1 = wide v) :
    ∃ F', acodeN E self nf (.region 0 rprd_0 false) (lst F 67) m = some (.normal, lst F' 67, m4) /\ F' 2 = .pointer (some ⟨p, 0, none⟩) /\ F' 3 = .pointer (some ⟨q, 0, none⟩) /\ F' 4 = .pointer (some ⟨r, 0, none⟩) /\ F' 5 = .pointer (some ⟨s, 0, none⟩) := by
  simp only [oprd_0, agd_none, acodeN, aopsN, astep, aop, ev, nth_lst, aput, setAt_lst, upd_at, Nat.reduceLT, Nat.reduceEqDiff, if_true, if_false, h0, h1, hb, hc, hd, he]
  exact ⟨_, rfl, rfl, rfl, rfl, rfl⟩
theorem prd_1 {m1 : Mem} (hd : aalloc E.P 88 m = some (.pointer (some ⟨t, 0, none⟩), m1)) : ∃ F', acodeN E self nf (.region 1 rprd_1 false) (lst F 67) m = some (.normal, lst F' 67, m1) /\ F' 6 = .pointer (some ⟨t, 0, none⟩) /\ ∀ j, j < 6 -> F' j = F j := by
  simp only [oprd_1, agd_none, acodeN, aopsN, astep, aop, aput, setAt_lst, hd]
  exact ⟨_, rfl, rfl, fun j h1 => by repeat rw [upd_ne (by omega)]⟩
theorem prd_2 (h3 : F 3 = .pointer (some ⟨q, 0, none⟩)) (ld : aload E.P 24 (.pointer (some ⟨q, 0, none⟩)) m = some (wide v)) (hc : ∀ M, ainv E self 43 [wide v] M = some (.int .i64 ((n : Nat) : Int), M)) :
    ∃ F', acodeN E self nf (.region 2 rprd_2 false) (lst F 67) m = some (.normal, lst F' 67, m) /\ F' 7 = .int .i64 ((n : Nat) : Int) /\ ∀ j, j < 7 -> F' j = F j := by
  simp only [oprd_2, agd_none, List.cons_append, List.nil_append, acodeN, aopsN, astep, aop, ev, nth_lst, aput, setAt_lst, upd_at, Nat.reduceLT, Nat.reduceEqDiff, Option.map_some, List.map_cons, List.map_nil, List.isEmpty_nil, bls, if_true, if_false, h3, ld, callUs, hc]
  exact ⟨_, rfl, rfl, fun j h1 => by repeat rw [upd_ne (by omega)]⟩
theorem prd_3 (h2 : F 2 = .pointer (some ⟨p, 0, none⟩)) (ld : aload E.P 24 (.pointer (some ⟨p, 0, none⟩)) m = some (wide w)) (hc : ∀ M, ainv E self 43 [wide w] M = some (.int .i64 ((u : Nat) : Int), M)) :
    ∃ F', acodeN E self nf (.region 3 rprd_3 false) (lst F 67) m = some (.normal, lst F' 67, m) /\ F' 15 = .int .i64 ((u : Nat) : Int) /\ F' 16 = .int .i64 ((0 : Nat) : Int) /\ ∀ j, j < 8 -> F' j = F j := by
  simp only [oprd_3, agd_none, List.cons_append, List.nil_append, acodeN, aopsN, astep, aop, ev, nth_lst, aput, setAt_lst, upd_at, Nat.reduceLT, Option.map_some, List.map_cons, List.map_nil, List.isEmpty_nil, bls, if_true, h2, ld, callUs, hc]
  exact ⟨_, rfl, rfl, by simp only [upd_at, Nat.reduceEqDiff, reduceIte]; rfl, fun j h1 => by repeat rw [upd_ne (by omega)]⟩
theorem prd_4 {b : Bool} (h15 : F 15 = .int .i64 ((u : Nat) : Int)) (h16 : F 16 = .int .i64 ((i : Nat) : Int)) (hb : decide (((i : Nat) : Int) < ((u : Nat) : Int)) = b) : ∃ F', acodeN E self nf (.region 4 rprd_4 false) (lst F 67) m = some (.normal, lst F' 67, m) /\ F' 17 = .bool b /\ ∀ j, j < 17 -> F' j = F j := by
  simp only [oprd_4, agd_none, acodeN, aopsN, astep, aop, ev, nth_lst, aput, setAt_lst, Nat.reduceLT, if_true, h15, h16, lss64, hb]
  exact ⟨_, rfl, rfl, fun j h1 => by repeat rw [upd_ne (by omega)]⟩
theorem prd_5 (h16 : F 16 = .int .i64 ((i : Nat) : Int)) : ∃ F', acodeN E self nf (.region 5 rprd_5 false) (lst F 67) m = some (.normal, lst F' 67, m) /\ F' 8 = .int .i64 ((i : Nat) : Int) /\ ∀ j, j ≠ 8 -> j < 17 -> F' j = F j := by
  simp only [oprd_5, agd_none, acodeN, aopsN, astep, aop, ev, nth_lst, aput, setAt_lst, upd_at, Nat.reduceLT, if_true, h16]
  exact ⟨_, rfl, rfl, fun j h1 h2 => by repeat rw [upd_ne (by omega)]⟩
theorem prd_6 : ∃ F', acodeN E self nf (.region 6 rprd_6 false) (lst F 67) m = some (.normal, lst F' 67, m) /\ F' 9 = U 0 /\ ∀ j, j ≠ 9 -> j < 17 -> F' j = F j := by
  simp only [oprd_6, agd_none, acodeN, aopsN, astep, aop, ev, aput, setAt_lst]
  exact ⟨_, rfl, by simp only [upd_at, reduceIte]; rfl, fun j h1 h2 => by repeat rw [upd_ne (by omega)]⟩
theorem prd_7 (h7 : F 7 = .int .i64 ((n : Nat) : Int)) : ∃ F', acodeN E self nf (.region 7 rprd_7 false) (lst F 67) m = some (.normal, lst F' 67, m) /\ F' 19 = .int .i64 ((n : Nat) : Int) /\ F' 20 = .int .i64 ((0 : Nat) : Int) /\ ∀ j, j < 17 -> F' j = F j := by
  simp only [oprd_7, agd_none, acodeN, aopsN, astep, aop, ev, nth_lst, aput, setAt_lst, Nat.reduceLT, if_true, h7]
  exact ⟨_, rfl, rfl, by simp only [upd_at, Nat.reduceEqDiff, reduceIte]; rfl, fun j h1 => by repeat rw [upd_ne (by omega)]⟩
theorem prd_8 {b : Bool} (h19 : F 19 = .int .i64 ((n : Nat) : Int)) (h20 : F 20 = .int .i64 ((j : Nat) : Int)) (hb : decide (((j : Nat) : Int) < ((n : Nat) : Int)) = b) : ∃ F', acodeN E self nf (.region 8 rprd_8 false) (lst F 67) m = some (.normal, lst F' 67, m) /\ F' 21 = .bool b /\ ∀ j, j < 21 -> F' j = F j := by
  simp only [oprd_8, agd_none, acodeN, aopsN, astep, aop, ev, nth_lst, aput, setAt_lst, Nat.reduceLT, if_true, h19, h20, lss64, hb]
  exact ⟨_, rfl, rfl, fun j h1 => by repeat rw [upd_ne (by omega)]⟩
theorem prd_9 (h20 : F 20 = .int .i64 ((j : Nat) : Int)) : ∃ F', acodeN E self nf (.region 9 rprd_9 false) (lst F 67) m = some (.normal, lst F' 67, m) /\ F' 10 = .int .i64 ((j : Nat) : Int) /\ ∀ j, j ≠ 10 -> j < 21 -> F' j = F j := by
  simp only [oprd_9, agd_none, acodeN, aopsN, astep, aop, ev, nth_lst, aput, setAt_lst, upd_at, Nat.reduceLT, if_true, h20]
  exact ⟨_, rfl, rfl, fun j h1 h2 => by repeat rw [upd_ne (by omega)]⟩
theorem prd_10 {m1 : Mem} {x y z a b : Nat} (h2 : F 2 = .pointer (some ⟨p, 0, none⟩)) (h3 : F 3 = .pointer (some ⟨q, 0, none⟩)) (h6 : F 6 = .pointer (some ⟨t, 0, none⟩)) (h8 : F 8 = .int .i64 ((i : Nat) : Int)) (h9 : F 9 = U c) (h10 : F 10 = .int .i64 ((j : Nat) : Int)) (hi : i < 8) (hj : j < 8) (cp : cellAt (m.map sealed) p i = some (U x)) (cq : cellAt (m.map sealed) q j = some (U y)) (ct : cellAt (m.map sealed) t (i + j) = some (U z)) (hc : ∀ M, ainv E self 63 [U x, U y, U z, U c] M = some (pair64 a b, M)) (st : astore E.P 22 (.pointer (some ⟨t, i + j, none⟩)) (U a) m = some m1) :
    ∃ F', acodeN E self nf (.region 10 rprd_10 true) (lst F 67) m = some (.normal, lst F' 67, m1) /\ F' 9 = U b /\ ∀ j, j ≠ 9 -> j < 21 -> F' j = F j := by
  have i1 := ix24 (p := p) (k := i) hi
  have i2 := ix24 (p := q) (k := j) hj
  have i3 := a16w.ix (p := t) (j := i + j) (by omega)
  have e := addIW (a := i) (b := j) (by omega)
  simp only [↓dprd_10, ↓sprd_10, oprd_10, agd_none, List.cons_append, List.nil_append, acodeN, adrawT, cls, astep, aop, afloat, ev, nth_lst, aput, setAt_lst, upd_at, Nat.reduceLT, Nat.reduceEqDiff, Option.map_some, List.map_cons, List.map_nil, List.isEmpty_nil, bls, if_true, if_false, List.length_map, h2, h3, h6, h8, h9, h10, add64', e, i1, i2, i3, load22, cp, cq, ct, adr87, callMs, hc, ex0, ex1, st]
  exact ⟨_, rfl, rfl, fun j h1 h2 => by repeat rw [upd_ne (by omega)]⟩
theorem prd_11 (h20 : F 20 = .int .i64 ((j : Nat) : Int)) (hj : j < 8) : ∃ F', acodeN E self nf (.region 11 rprd_11 false) (lst F 67) m = some (.normal, lst F' 67, m) /\ F' 20 = .int .i64 ((j + 1 : Nat) : Int) /\ ∀ j, j < 20 -> F' j = F j := by
  have e : wrapF .i64 (((j : Nat) : Int) + 1) = ((j + 1 : Nat) : Int) := by rw [wrap_i64 (by omega) (by omega)]; omega
  simp only [oprd_11, agd_none, acodeN, aopsN, astep, aop, ev, nth_lst, aput, setAt_lst, upd_at, Nat.reduceLT, if_true, h20, add64', e]
  exact ⟨_, rfl, rfl, fun j h1 => by repeat rw [upd_ne (by omega)]⟩
theorem prd_12 {m1 : Mem} (h6 : F 6 = .pointer (some ⟨t, 0, none⟩)) (h7 : F 7 = .int .i64 ((n : Nat) : Int)) (h8 : F 8 = .int .i64 ((i : Nat) : Int)) (h9 : F 9 = U c) (hi : i < 8) (hn : n ≤ 8) (st : astore E.P 22 (.pointer (some ⟨t, i + n, none⟩)) (U c) m = some m1) : ∃ F', acodeN E self nf (.region 12 rprd_12 false) (lst F 67) m = some (.normal, lst F' 67, m1) /\ ∀ j, j < 20 -> F' j = F j := by
  have i3 := a16w.ix (p := t) (j := i + n) (by omega)
  have e := addIW (a := i) (b := n) (by omega)
  simp only [oprd_12, agd_none, acodeN, aopsN, astep, aop, ev, nth_lst, aput, setAt_lst, upd_at, Nat.reduceLT, Nat.reduceEqDiff, Option.map_some, if_true, if_false, h6, h7, h8, h9, add64', e, i3, st]
  exact ⟨_, rfl, fun j h1 => by repeat rw [upd_ne (by omega)]⟩
theorem prd_13 (h16 : F 16 = .int .i64 ((i : Nat) : Int)) (hi : i < 8) : ∃ F', acodeN E self nf (.region 13 rprd_13 false) (lst F 67) m = some (.normal, lst F' 67, m) /\ F' 16 = .int .i64 ((i + 1 : Nat) : Int) /\ ∀ j, j < 16 -> F' j = F j := by
  have e : wrapF .i64 (((i : Nat) : Int) + 1) = ((i + 1 : Nat) : Int) := by rw [wrap_i64 (by omega) (by omega)]; omega
  simp only [oprd_13, agd_none, acodeN, aopsN, astep, aop, ev, nth_lst, aput, setAt_lst, upd_at, Nat.reduceLT, if_true, h16, add64', e]
  exact ⟨_, rfl, rfl, fun j h1 => by repeat rw [upd_ne (by omega)]⟩
theorem prd_14 : ∃ F', acodeN E self nf (.region 14 rprd_14 false) (lst F 67) m = some (.normal, lst F' 67, m) /\ F' 50 = .int .i64 ((0 : Nat) : Int) /\ ∀ j, j < 50 -> F' j = F j := by
  simp only [oprd_14, agd_none, acodeN, aopsN, astep, aop, ev, aput, setAt_lst]
  exact ⟨_, rfl, by simp only [upd_at, reduceIte]; rfl, fun j h1 => by repeat rw [upd_ne (by omega)]⟩
theorem prd_15 {b : Bool} (h50 : F 50 = .int .i64 ((k : Nat) : Int)) (hb : decide (((k : Nat) : Int) < 8) = b) : ∃ F', acodeN E self nf (.region 15 rprd_15 false) (lst F 67) m = some (.normal, lst F' 67, m) /\ F' 51 = .bool b /\ ∀ j, j < 51 -> F' j = F j := by
  simp only [oprd_15, agd_none, acodeN, aopsN, astep, aop, ev, nth_lst, aput, setAt_lst, Nat.reduceLT, if_true, h50, lss64, hb]
  exact ⟨_, rfl, rfl, fun j h1 => by repeat rw [upd_ne (by omega)]⟩
theorem prd_16 (h50 : F 50 = .int .i64 ((k : Nat) : Int)) : ∃ F', acodeN E self nf (.region 16 rprd_16 false) (lst F 67) m = some (.normal, lst F' 67, m) /\ F' 11 = .int .i64 ((k : Nat) : Int) /\ ∀ j, j ≠ 11 -> j < 51 -> F' j = F j := by
  simp only [oprd_16, agd_none, acodeN, aopsN, astep, aop, ev, nth_lst, aput, setAt_lst, upd_at, Nat.reduceLT, if_true, h50]
  exact ⟨_, rfl, rfl, fun j h1 h2 => by repeat rw [upd_ne (by omega)]⟩
theorem prd_17 {m1 m2 : Mem} {x y : Nat} (hrt : (r == t) = false) (h4 : F 4 = .pointer (some ⟨r, 0, none⟩)) (h5 : F 5 = .pointer (some ⟨s, 0, none⟩)) (h6 : F 6 = .pointer (some ⟨t, 0, none⟩)) (h11 : F 11 = .int .i64 ((k : Nat) : Int)) (hk : k < 8) (c1 : cellAt m t k = some (U x)) (c1s : cellAt (m.map sealed) t k = some (U x)) (c2 : cellAt m t (8 + k) = some (U y)) (c2s : cellAt (m.map sealed) t (8 + k) = some (U y))
    (st : astore E.P 22 (.pointer (some ⟨r, k, none⟩)) (U x) m = some m1) (st2 : astore E.P 22 (.pointer (some ⟨s, k, none⟩)) (U y) m1 = some m2) :
    ∃ F', acodeN E self nf (.region 17 rprd_17 true) (lst F 67) m = some (.normal, lst F' 67, m2) /\ ∀ j, j < 51 -> F' j = F j := by
  have i1 := ix24 (p := r) (k := k) hk
  have i2 := ix24 (p := s) (k := k) hk
  have i3 := a16w.ix (p := t) (j := k) (by omega)
  have i4 := a16w.ix (p := t) (j := 8 + k) (by omega)
  have e : wrapF .i64 (8 + ((k : Nat) : Int)) = ((8 + k : Nat) : Int) := addIW (a := 8) (b := k) (by omega)
  have a2 := ahead_prd_17a
  have a3 := ahead_prd_17b
  simp only [↓dprd_17, ↓sprd_17, oprd_17, agd_none, acodeN, adrawT, cls, astep, aop, afloat, ev, nth_lst, aput, setAt_lst, upd_at, Nat.reduceLT, Nat.reduceEqDiff, Option.map_some, List.map_cons, List.map_nil, bls, Bool.false_eq_true, if_true, if_false, List.length_map, h4, h5, h6, h11, add64', e, i1, i2, i3, i4, load22, c1s, c2s, st, st2, laterOk, sparesB, liveB, loadAt, loadBlk, Nat.reduceAdd, Nat.zero_add, a2, a3, List.filter_cons, List.filter_nil, List.append_nil, List.contains_cons, List.contains_nil, hrt]
  exact ⟨_, rfl, fun j h1 => by repeat rw [upd_ne (by omega)]⟩
theorem prd_18 (h50 : F 50 = .int .i64 ((k : Nat) : Int)) (hk : k < 8) : ∃ F', acodeN E self nf (.region 18 rprd_18 false) (lst F 67) m = some (.normal, lst F' 67, m) /\ F' 50 = .int .i64 ((k + 1 : Nat) : Int) /\ ∀ j, j < 50 -> F' j = F j := by
  have e : wrapF .i64 (((k : Nat) : Int) + 1) = ((k + 1 : Nat) : Int) := by rw [wrap_i64 (by omega) (by omega)]; omega
  simp only [oprd_18, agd_none, acodeN, aopsN, astep, aop, ev, nth_lst, aput, setAt_lst, upd_at, Nat.reduceLT, if_true, h50, add64', e]
  exact ⟨_, rfl, rfl, fun j h1 => by repeat rw [upd_ne (by omega)]⟩
theorem prd_19 {m1 m2 : Mem} {a b : Nat -> Nat} (hrs : (r == s) = false) (h4 : F 4 = .pointer (some ⟨r, 0, none⟩)) (h5 : F 5 = .pointer (some ⟨s, 0, none⟩)) (l1 : aload E.P 24 (.pointer (some ⟨r, 0, none⟩)) m = some (wide a)) (l1s : aload E.P 24 (.pointer (some ⟨r, 0, none⟩)) (m.map sealed) = some (wide a)) (l2 : aload E.P 24 (.pointer (some ⟨s, 0, none⟩)) m = some (wide b)) (l2s : aload E.P 24 (.pointer (some ⟨s, 0, none⟩)) (m.map sealed) = some (wide b)) (st : astore E.P 24 (.pointer (some ⟨r, 0, none⟩)) (wide a) m = some m1) (st2 : astore E.P 24 (.pointer (some ⟨s, 0, none⟩)) (wide b) m1 = some m2) :
    ∃ F', acodeN E self nf (.region 19 rprd_19 true) (lst F 67) m = some (.normal, lst F' 67, m2) /\ F' 4 = .pointer (some ⟨r, 0, none⟩) /\ F' 5 = .pointer (some ⟨s, 0, none⟩) := by
  have a2 := ahead_prd_19a
  have a3 := ahead_prd_19b
  simp only [↓dprd_19, ↓sprd_19, oprd_19, agd_none, acodeN, adrawT, cls, astep, aop, ev, nth_lst, aput, setAt_lst, upd_at, Nat.reduceLT, Nat.reduceEqDiff, Option.map_some, List.map_cons, List.map_nil, bls, Bool.false_eq_true, if_true, if_false, List.length_map, h4, h5, l1s, l2s, st, st2, laterOk, sparesB, liveB, loadAt, loadBlk, Nat.reduceAdd, Nat.zero_add, a2, a3, List.filter_cons, List.filter_nil, List.append_nil, List.contains_cons, List.contains_nil, hrs]
  exact ⟨_, rfl, by simp only [upd_at, Nat.reduceEqDiff, reduceIte, h4], by simp only [upd_at, Nat.reduceEqDiff, reduceIte, h5]⟩
end
theorem putW_lt {R : Nat -> Nat} {k x : Nat} (h : ∀ j, R j < 18446744073709551616) (hx : x < 18446744073709551616) (j : Nat) : putW R k x j < 18446744073709551616 := by
  unfold putW
  split
  . exact hx
  . exact h j
section
variable {self : Self} {nf : Nat} {m m' M : Mem} {F : Nat -> Value} {p q r s t n u i j k c : Nat} {w v o R R0 : Nat -> Nat} {be be' : TypeId}
theorem prd_in (hms : CMs self) (h2 : F 2 = .pointer (some ⟨p, 0, none⟩)) (h3 : F 3 = .pointer (some ⟨q, 0, none⟩)) (h6 : F 6 = .pointer (some ⟨t, 0, none⟩)) (h8 : F 8 = .int .i64 ((i : Nat) : Int)) (h9 : F 9 = U c) (h19 : F 19 = .int .i64 ((n : Nat) : Int)) (h20 : F 20 = .int .i64 ((j : Nat) : Int)) (hi : i < 8) (hj : j < n) (hn : n ≤ 8)
    (gp : m[p]? = some (.row false be (rowOf w))) (gq : m[q]? = some (.row false be' (rowOf v))) (gt : m[t]? = some (.row false 88 (rowK .u64 16 R))) (hw : w i < 18446744073709551616) (hv : v j < 18446744073709551616) (hR : R (i + j) < 18446744073709551616) (hc : c < 18446744073709551616) :
    ∃ F', acodeN E self nf lpprd_1 (lst F 67) m = some (.normal, lst F' 67, m.set t (.row false 88 (rowK .u64 16 (putW R (i + j) ((w i * v j + R (i + j) + c) % 18446744073709551616))))) /\ F' 9 = U ((w i * v j + R (i + j) + c) / 18446744073709551616) /\ F' 20 = .int .i64 ((j + 1 : Nat) : Int) /\ ∀ a, a ≠ 9 -> a ≠ 10 -> a < 20 -> F' a = F a := by
  have cp : cellAt (m.map sealed) p i = some (U (w i)) := by rw [cellSeal gp, rowOf_get hi]
  have cq : cellAt (m.map sealed) q j = some (U (v j)) := by rw [cellSeal gq, rowOf_get (by omega)]
  have ct : cellAt (m.map sealed) t (i + j) = some (U (R (i + j))) := by rw [cellSeal gt, rowK_get (by omega)]
  have hs := hms (w i) (v j) (R (i + j)) c hw hv hR hc
  unfold Ans at hs
  have st := storeW (x := (w i * v j + R (i + j) + c) % 18446744073709551616) gt (show i + j < 16 by omega)
  generalize (w i * v j + R (i + j) + c) % 18446744073709551616 = x at *
  generalize (w i * v j + R (i + j) + c) / 18446744073709551616 = y at *
  obtain ⟨A, ra, a21, ak⟩ := prd_8 (self := self) (nf := nf) (m := m) h19 h20 (b := true) (decide_eq_true (by omega))
  obtain ⟨B, rb, b10, bk⟩ := prd_9 (self := self) (nf := nf) (m := m) ((ak 20 (by omega)).trans h20)
  have kb : ∀ a, a ≠ 10 -> a < 21 -> B a = F a := fun a h1 h2 => (bk a h1 h2).trans (ak a h2)
  obtain ⟨C, rc, c9, ck⟩ := prd_10 (self := self) (nf := nf) (m := m) ((kb 2 (by omega) (by omega)).trans h2) ((kb 3 (by omega) (by omega)).trans h3) ((kb 6 (by omega) (by omega)).trans h6) ((kb 8 (by omega) (by omega)).trans h8) ((kb 9 (by omega) (by omega)).trans h9) b10 hi (by omega) cp cq ct hs st
  obtain ⟨D, rd, d20, dk⟩ := prd_11 (self := self) (nf := nf) (m := m.set t (.row false 88 (rowK .u64 16 (putW R (i + j) x)))) ((ck 20 (by omega) (by omega)).trans ((kb 20 (by omega) (by omega)).trans h20)) (by omega)
  refine ⟨D, ?_, (dk 9 (by omega)).trans c9, d20, fun a h1 h2 h3 => (dk a h3).trans ((ck a h1 (by omega)).trans (kb a h2 (by omega)))⟩
  rw [lpprd_1_eq]
  generalize m.set t (.row false 88 (rowK .u64 16 (putW R (i + j) x))) = M1 at *
  generalize Code.region 8 rprd_8 false = C8 at *
  generalize Code.region 9 rprd_9 false = C9 at *
  generalize Code.region 10 rprd_10 true = C10 at *
  generalize Code.region 11 rprd_11 false = C11 at *
  simp only [acodeN, ra, rb, rc, rd, ev, nth_lst, Nat.reduceLT, if_true, a21]
theorem prd_inx (h19 : F 19 = .int .i64 ((n : Nat) : Int)) (h20 : F 20 = .int .i64 ((n : Nat) : Int)) : ∃ F', acodeN E self nf lpprd_1 (lst F 67) m = some (.exit 2, lst F' 67, m) /\ ∀ j, j < 21 -> F' j = F j := by
  obtain ⟨A, ra, a21, ak⟩ := prd_8 (self := self) (nf := nf) (m := m) h19 h20 (b := false) (decide_eq_false (by omega))
  rw [lpprd_1_eq]
  refine ⟨A, ?_, ak⟩
  generalize Code.region 8 rprd_8 false = C8 at *
  simp only [acodeN, ra, ev, nth_lst, Nat.reduceLT, if_true, a21]
theorem in_step {P a b c x y z d e B z0 : Nat} (h : a + P * c = b + x * d) (h2 : e + B * z = x * y + z0 + c) : a + P * e + P * B * z = b + P * z0 + x * (d + P * y) := by
  have e1 : P * (e + B * z) = P * (x * y + z0 + c) := by rw [h2]
  rw [Nat.mul_add, Nat.mul_add, Nat.mul_add] at e1
  rw [Nat.mul_add, Nat.mul_assoc P B z, Nat.mul_left_comm x P y]
  omega
theorem prd_inl (hms : CMs self) (h2 : F 2 = .pointer (some ⟨p, 0, none⟩)) (h3 : F 3 = .pointer (some ⟨q, 0, none⟩)) (h6 : F 6 = .pointer (some ⟨t, 0, none⟩)) (h8 : F 8 = .int .i64 ((i : Nat) : Int)) (h9 : F 9 = U 0) (h19 : F 19 = .int .i64 ((n : Nat) : Int)) (h20 : F 20 = .int .i64 ((0 : Nat) : Int)) (hi : i < 8) (hn : n ≤ 8) (hpt : p ≠ t) (hqt : q ≠ t)
    (gp : M[p]? = some (.row false be (rowOf w))) (gq : M[q]? = some (.row false be' (rowOf v))) (gO : Oth M m t R) (hw : w i < 18446744073709551616) (hv : ∀ j, v j < 18446744073709551616) (hR : ∀ j, R j < 18446744073709551616) (hnf : 10 < nf) :
    ∃ G R' c m', aloop (acodeN E self nf lpprd_1) nf (lst F 67) m = some (.exit 2, lst G 67, m') /\ Oth M m' t R' /\ (∀ j, R' j < 18446744073709551616) /\ c < 18446744073709551616 /\ G 9 = U c /\ vN (fun a => R' (i + a)) n + 18446744073709551616 ^ n * c = vN (fun a => R (i + a)) n + w i * vN v n /\ (∀ a, a < i ∨ i + n ≤ a -> R' a = R a) /\ ∀ a, a ≠ 9 -> a ≠ 10 -> a < 20 -> G a = F a := by
  have hloop := aloop_inv (body := acodeN E self nf lpprd_1) (N := n)
    (I := fun k T m' => ∃ G R' c, T = lst G 67 /\ Oth M m' t R' /\ (∀ j, R' j < 18446744073709551616) /\ c < 18446744073709551616 /\ G 9 = U c /\ G 20 = .int .i64 ((k : Nat) : Int) /\ vN (fun a => R' (i + a)) k + 18446744073709551616 ^ k * c = vN (fun a => R (i + a)) k + w i * vN v k /\ (∀ a, a < i ∨ i + k ≤ a -> R' a = R a) /\ ∀ a, a ≠ 9 -> a ≠ 10 -> a < 20 -> G a = F a)
    (Q := fun x T m' => x = .exit 2 /\ ∃ G R' c, T = lst G 67 /\ Oth M m' t R' /\ (∀ j, R' j < 18446744073709551616) /\ c < 18446744073709551616 /\ G 9 = U c /\ vN (fun a => R' (i + a)) n + 18446744073709551616 ^ n * c = vN (fun a => R (i + a)) n + w i * vN v n /\ (∀ a, a < i ∨ i + n ≤ a -> R' a = R a) /\ ∀ a, a ≠ 9 -> a ≠ 10 -> a < 20 -> G a = F a) (fun k T m' hk hI => by
      obtain ⟨G, R', c, rfl, hO, hR', hc, g9, g20, hs, hoth, hG⟩ := hI
      have g19 : G 19 = .int .i64 ((n : Nat) : Int) := (hG 19 (by omega) (by omega) (by omega)).trans h19
      by_cases h0 : k = n
      . right
        subst h0
        obtain ⟨H, rh, hk⟩ := prd_inx (self := self) (nf := nf) (m := m') g19 g20
        exact ⟨_, _, _, rh, by simp, rfl, H, R', c, rfl, hO, hR', hc, (hk 9 (by omega)).trans g9, hs, hoth, fun a h1 h2 h3 => (hk a (by omega)).trans (hG a h1 h2 h3)⟩
      . left
        have hkn : k < n := by omega
        obtain ⟨H, rh, x9, x20, hk2⟩ := prd_in (self := self) (nf := nf) (m := m') (w := w) (v := v) hms ((hG 2 (by omega) (by omega) (by omega)).trans h2) ((hG 3 (by omega) (by omega) (by omega)).trans h3) ((hG 6 (by omega) (by omega) (by omega)).trans h6) ((hG 8 (by omega) (by omega) (by omega)).trans h8) g9 g19 g20 hi hkn hn ((hO.o p hpt).trans gp) ((hO.o q hqt).trans gq) hO.t hw (hv k) (hR' _) hc
        have hpl := prod_le hw (hv k)
        have hr := hR' (i + k)
        have hrk := hoth (i + k) (.inr (Nat.le_refl _))
        have hq9 : (w i * v k + R' (i + k) + c) / 18446744073709551616 < 18446744073709551616 := Nat.div_lt_of_lt_mul (by omega)
        have hdm := Nat.mod_add_div (w i * v k + R' (i + k) + c) 18446744073709551616
        have hlt : (w i * v k + R' (i + k) + c) % 18446744073709551616 < 18446744073709551616 := Nat.mod_lt _ (by decide)
        obtain ⟨x, hx⟩ : ∃ x, x = (w i * v k + R' (i + k) + c) % 18446744073709551616 := ⟨_, rfl⟩
        obtain ⟨y, hy⟩ : ∃ y, y = (w i * v k + R' (i + k) + c) / 18446744073709551616 := ⟨_, rfl⟩
        rw [← hx] at rh hdm hlt
        rw [← hy] at x9 hq9 hdm
        refine ⟨_, _, rh, by omega, H, putW R' (i + k) x, y, rfl, hO.set, putW_lt hR' hlt, hq9, x9, x20, ?_, ?_, fun a h1 h2 h3 => (hk2 a h1 h2 h3).trans (hG a h1 h2 h3)⟩
        . have e1 : vN (fun a => putW R' (i + k) x (i + a)) k = vN (fun a => R' (i + a)) k := vN_ext fun a ha => by
            unfold putW
            rw [if_neg (by omega)]
          have e2 : putW R' (i + k) x (i + k) = x := by unfold putW; rw [if_pos rfl]
          rw [vN, vN, vN, e1, e2, Nat.pow_succ, ← hrk]
          exact in_step hs hdm
        . intro a ha
          unfold putW
          rw [if_neg (by omega)]
          exact hoth a (by omega))
  obtain ⟨x, T', m', hr, rfl, G, R', c, rfl, hO, hR', hc, g9, hs, hoth, hG⟩ := hloop n 0 nf (lst F 67) m (by omega) (by omega) ⟨F, R, 0, rfl, gO, hR, by decide, h9, h20, by simp [vN], fun _ _ => rfl, fun _ _ _ _ => rfl⟩
  exact ⟨G, R', c, m', hr, hO, hR', hc, g9, hs, hoth, hG⟩
theorem out_step {P a b n' w' V c d : Nat} (h : a + P * b = n') (h2 : d = b + w' * V) (h3 : n' = c * V) : a + P * d = (c + P * w') * V := by
  rw [h2, Nat.mul_add, ← Nat.add_assoc, h, h3, Nat.add_mul, Nat.mul_assoc]
theorem prd_out (hms : CMs self) (h2 : F 2 = .pointer (some ⟨p, 0, none⟩)) (h3 : F 3 = .pointer (some ⟨q, 0, none⟩)) (h6 : F 6 = .pointer (some ⟨t, 0, none⟩)) (h7 : F 7 = .int .i64 ((n : Nat) : Int)) (h15 : F 15 = .int .i64 ((u : Nat) : Int)) (h16 : F 16 = .int .i64 ((i : Nat) : Int)) (hi : i < u) (hu : u ≤ 8) (hn : n ≤ 8) (hpt : p ≠ t) (hqt : q ≠ t)
    (gp : M[p]? = some (.row false be (rowOf w))) (gq : M[q]? = some (.row false be' (rowOf v))) (gO : Oth M m t R) (hw : ∀ j, w j < 18446744073709551616) (hv : ∀ j, v j < 18446744073709551616) (hR : ∀ j, R j < 18446744073709551616) (hnf : 10 < nf) (hs : vN R (i + n) = vN w i * vN v n) (hz : ∀ a, i + n ≤ a -> R a = 0) :
    ∃ G R' m', acodeN E self nf lpprd_0 (lst F 67) m = some (.normal, lst G 67, m') /\ Oth M m' t R' /\ (∀ j, R' j < 18446744073709551616) /\ vN R' (i + 1 + n) = vN w (i + 1) * vN v n /\ (∀ a, i + 1 + n ≤ a -> R' a = 0) /\ G 16 = .int .i64 ((i + 1 : Nat) : Int) /\ ∀ a, a ≠ 8 -> a ≠ 9 -> a ≠ 10 -> a < 16 -> G a = F a := by
  obtain ⟨A, ra, a17, ak⟩ := prd_4 (self := self) (nf := nf) (m := m) h15 h16 (b := true) (decide_eq_true (by omega))
  obtain ⟨B, rb, b8, bk⟩ := prd_5 (self := self) (nf := nf) (m := m) ((ak 16 (by omega)).trans h16)
  obtain ⟨C, rc, c9, ck⟩ := prd_6 (self := self) (nf := nf) (m := m) (F := B)
  have kc : ∀ a, a ≠ 8 -> a ≠ 9 -> a < 17 -> C a = F a := fun a h1 h2 h3 => (ck a h2 h3).trans ((bk a h1 h3).trans (ak a h3))
  obtain ⟨D, rd, d19, d20, dk⟩ := prd_7 (self := self) (nf := nf) (m := m) ((kc 7 (by omega) (by omega) (by omega)).trans h7)
  have kd : ∀ a, a ≠ 8 -> a ≠ 9 -> a < 17 -> D a = F a := fun a h1 h2 h3 => (dk a h3).trans (kc a h1 h2 h3)
  obtain ⟨G, R1, c, m1, re, hO, hR1, hc, g9, hsum, hoth, hG⟩ := prd_inl (self := self) (nf := nf) (m := m) (w := w) (v := v) (n := n) (i := i) hms ((kd 2 (by omega) (by omega) (by omega)).trans h2) ((kd 3 (by omega) (by omega) (by omega)).trans h3) ((kd 6 (by omega) (by omega) (by omega)).trans h6) ((dk 8 (by omega)).trans ((ck 8 (by omega) (by omega)).trans b8)) ((dk 9 (by omega)).trans c9) d19 d20 (by omega) hn hpt hqt gp gq gO (hw i) hv hR hnf
  have g8 : G 8 = .int .i64 ((i : Nat) : Int) := (hG 8 (by omega) (by omega) (by omega)).trans ((dk 8 (by omega)).trans ((ck 8 (by omega) (by omega)).trans b8))
  have kg : ∀ a, a ≠ 8 -> a ≠ 9 -> a ≠ 10 -> a < 17 -> G a = F a := fun a h1 h2 h3 h4 => (hG a h2 h3 (by omega)).trans (kd a h1 h2 h4)
  have st := storeW (x := c) hO.t (show i + n < 16 by omega)
  obtain ⟨H, rh, hk⟩ := prd_12 (self := self) (nf := nf) (m := m1) ((kg 6 (by omega) (by omega) (by omega) (by omega)).trans h6) ((kg 7 (by omega) (by omega) (by omega) (by omega)).trans h7) g8 g9 (by omega) hn st
  obtain ⟨I, ri, i16, ik⟩ := prd_13 (self := self) (nf := nf) (m := m1.set t (.row false 88 (rowK .u64 16 (putW R1 (i + n) c)))) ((hk 16 (by omega)).trans ((kg 16 (by omega) (by omega) (by omega) (by omega)).trans h16)) (by omega)
  refine ⟨I, putW R1 (i + n) c, m1.set t (.row false 88 (rowK .u64 16 (putW R1 (i + n) c))), ?_, hO.set, putW_lt hR1 hc, ?_, ?_, i16, fun a h1 h2 h3 h4 => (ik a h4).trans ((hk a (by omega)).trans (kg a h1 h2 h3 (by omega)))⟩
  . rw [lpprd_0_eq]
    clear hsum hoth hO hs hz gO gp gq hR hR1 hw hv
    generalize m1.set t (.row false 88 (rowK .u64 16 (putW R1 (i + n) c))) = M1 at *
    generalize Code.region 4 rprd_4 false = C4 at *
    generalize Code.region 5 rprd_5 false = C5 at *
    generalize Code.region 6 rprd_6 false = C6 at *
    generalize Code.region 7 rprd_7 false = C7 at *
    generalize Code.region 12 rprd_12 false = C12 at *
    generalize Code.region 13 rprd_13 false = C13 at *
    simp only [acodeN, ra, rb, rc, rd, re, rh, ri, ev, nth_lst, Nat.reduceLT, if_true, a17]
  . have e1 : vN (putW R1 (i + n) c) i = vN R i := vN_ext fun a ha => by
      unfold putW
      rw [if_neg (by omega)]
      exact hoth a (.inl ha)
    have e2 : vN (fun a => putW R1 (i + n) c (i + a)) n = vN (fun a => R1 (i + a)) n := vN_ext fun a ha => by
      unfold putW
      rw [if_neg (by omega)]
    have e3 : putW R1 (i + n) c (i + n) = c := by unfold putW; rw [if_pos rfl]
    rw [show i + 1 + n = i + (n + 1) by omega, vN_split, e1, vN_top (w := fun a => putW R1 (i + n) c (i + a)) n, e2, e3, vN_top (w := w) i]
    have h4 := vN_split R i n
    exact out_step h4.symm hsum hs
  . intro a ha
    unfold putW
    rw [if_neg (by omega), hoth a (.inr (by omega))]
    exact hz a (by omega)
theorem prd_outx (h15 : F 15 = .int .i64 ((u : Nat) : Int)) (h16 : F 16 = .int .i64 ((u : Nat) : Int)) : ∃ F', acodeN E self nf lpprd_0 (lst F 67) m = some (.exit 0, lst F' 67, m) /\ ∀ j, j < 17 -> F' j = F j := by
  obtain ⟨A, ra, a17, ak⟩ := prd_4 (self := self) (nf := nf) (m := m) h15 h16 (b := false) (decide_eq_false (by omega))
  rw [lpprd_0_eq]
  refine ⟨A, ?_, ak⟩
  generalize Code.region 4 rprd_4 false = C4 at *
  simp only [acodeN, ra, ev, nth_lst, Nat.reduceLT, if_true, a17]
theorem prd_outl (hms : CMs self) (h2 : F 2 = .pointer (some ⟨p, 0, none⟩)) (h3 : F 3 = .pointer (some ⟨q, 0, none⟩)) (h6 : F 6 = .pointer (some ⟨t, 0, none⟩)) (h7 : F 7 = .int .i64 ((n : Nat) : Int)) (h15 : F 15 = .int .i64 ((u : Nat) : Int)) (h16 : F 16 = .int .i64 ((0 : Nat) : Int)) (hu : u ≤ 8) (hn : n ≤ 8) (hpt : p ≠ t) (hqt : q ≠ t)
    (gp : m[p]? = some (.row false be (rowOf w))) (gq : m[q]? = some (.row false be' (rowOf v))) (gt : m[t]? = some (.row false 88 (rowK .u64 16 fun _ => 0))) (hw : ∀ j, w j < 18446744073709551616) (hv : ∀ j, v j < 18446744073709551616) (hnf : 10 < nf) :
    ∃ G R m', aloop (acodeN E self nf lpprd_0) nf (lst F 67) m = some (.exit 0, lst G 67, m') /\ Oth m m' t R /\ (∀ j, R j < 18446744073709551616) /\ vN R 16 = vN w u * vN v n /\ ∀ a, a ≠ 8 -> a ≠ 9 -> a ≠ 10 -> a < 16 -> G a = F a := by
  have hloop := aloop_inv (body := acodeN E self nf lpprd_0) (N := u)
    (I := fun k T m' => ∃ G R, T = lst G 67 /\ Oth m m' t R /\ (∀ j, R j < 18446744073709551616) /\ vN R (k + n) = vN w k * vN v n /\ (∀ a, k + n ≤ a -> R a = 0) /\ G 16 = .int .i64 ((k : Nat) : Int) /\ ∀ a, a ≠ 8 -> a ≠ 9 -> a ≠ 10 -> a < 16 -> G a = F a)
    (Q := fun x T m' => x = .exit 0 /\ ∃ G R, T = lst G 67 /\ Oth m m' t R /\ (∀ j, R j < 18446744073709551616) /\ vN R 16 = vN w u * vN v n /\ ∀ a, a ≠ 8 -> a ≠ 9 -> a ≠ 10 -> a < 16 -> G a = F a) (fun k T m' hk hI => by
      obtain ⟨G, R, rfl, hO, hR, hs, hz, g16, hG⟩ := hI
      have g15 : G 15 = .int .i64 ((u : Nat) : Int) := (hG 15 (by omega) (by omega) (by omega) (by omega)).trans h15
      by_cases h0 : k = u
      . right
        subst h0
        obtain ⟨H, rh, hk⟩ := prd_outx (self := self) (nf := nf) (m := m') g15 g16
        refine ⟨_, _, _, rh, by simp, rfl, H, R, rfl, hO, hR, ?_, fun a h1 h2 h3 h4 => (hk a (by omega)).trans (hG a h1 h2 h3 h4)⟩
        have := vN_zero (w := R) (n := k + n) (16 - (k + n)) fun a h1 _ => hz a h1
        rw [show k + n + (16 - (k + n)) = 16 by omega] at this
        rw [this, hs]
      . left
        have hkn : k < u := by omega
        obtain ⟨H, R', m1, rh, hO', hR', hs', hz', x16, hk2⟩ := prd_out (self := self) (nf := nf) (m := m') (w := w) (v := v) hms ((hG 2 (by omega) (by omega) (by omega) (by omega)).trans h2) ((hG 3 (by omega) (by omega) (by omega) (by omega)).trans h3) ((hG 6 (by omega) (by omega) (by omega) (by omega)).trans h6) ((hG 7 (by omega) (by omega) (by omega) (by omega)).trans h7) g15 g16 hkn hu hn hpt hqt gp gq hO hw hv hR hnf hs hz
        exact ⟨_, _, rh, by omega, H, R', rfl, hO', hR', hs', hz', x16, fun a h1 h2 h3 h4 => (hk2 a h1 h2 h3 h4).trans (hG a h1 h2 h3 h4)⟩)
  obtain ⟨x, T', m', hr, rfl, G, R, rfl, hO, hR, hs, hG⟩ := hloop u 0 nf (lst F 67) m (by omega) (by omega) ⟨F, fun _ => 0, rfl, ⟨fun _ _ => rfl, gt⟩, fun _ => (by show 0 < 18446744073709551616; decide), by
    have := vN_zero (w := fun _ => 0) (n := 0) n fun _ _ _ => rfl
    rw [this, vN, vN, Nat.zero_mul], fun _ _ => rfl, h16, fun _ _ _ _ _ => rfl⟩
  exact ⟨G, R, m', hr, hO, hR, hs, hG⟩
def loW (R : Nat -> Nat) (k j : Nat) : Nat := if j < k then R j else 0
def hiW (R : Nat -> Nat) (k j : Nat) : Nat := if j < k then R (8 + j) else 0
theorem loW_step (R : Nat -> Nat) (k : Nat) : (fun j => if j = k then R k else loW R k j) = loW R (k + 1) := funext fun j => by
  unfold loW
  by_cases h : j = k
  . rw [if_pos h, h, if_pos (Nat.lt_succ_self k)]
  . rw [if_neg h]
    by_cases h2 : j < k
    . rw [if_pos h2, if_pos (by omega)]
    . rw [if_neg h2, if_neg (by omega)]
theorem hiW_step (R : Nat -> Nat) (k : Nat) : (fun j => if j = k then R (8 + k) else hiW R k j) = hiW R (k + 1) := funext fun j => by
  unfold hiW
  by_cases h : j = k
  . rw [if_pos h, h, if_pos (Nat.lt_succ_self k)]
  . rw [if_neg h]
    by_cases h2 : j < k
    . rw [if_pos h2, if_pos (by omega)]
    . rw [if_neg h2, if_neg (by omega)]
theorem prd_cut (h4 : F 4 = .pointer (some ⟨r, 0, none⟩)) (h5 : F 5 = .pointer (some ⟨s, 0, none⟩)) (h6 : F 6 = .pointer (some ⟨t, 0, none⟩)) (h50 : F 50 = .int .i64 ((k : Nat) : Int)) (hk : k < 8) (hrs : r ≠ s) (hrt : r ≠ t) (hst : s ≠ t)
    (gr : m[r]? = some (.row false 24 (rowOf (loW R k)))) (gs : m[s]? = some (.row false 24 (rowOf (hiW R k)))) (gt : m[t]? = some (.row false 88 (rowK .u64 16 R))) :
    ∃ G m', acodeN E self nf lpprd_2 (lst F 67) m = some (.normal, lst G 67, m') /\ m'[r]? = some (.row false 24 (rowOf (loW R (k + 1)))) /\ m'[s]? = some (.row false 24 (rowOf (hiW R (k + 1)))) /\ m'[t]? = some (.row false 88 (rowK .u64 16 R)) /\ G 50 = .int .i64 ((k + 1 : Nat) : Int) /\ ∀ a, a ≠ 11 -> a < 50 -> G a = F a := by
  have s1 := store22 (x := R k) gr hk
  rw [loW_step] at s1
  have g1 : (m.set r (.row false 24 (rowOf (loW R (k + 1)))))[s]? = some (.row false 24 (rowOf (hiW R k))) := by rw [List.getElem?_set_ne hrs]; exact gs
  have s2 := store22 (x := R (8 + k)) g1 hk
  rw [hiW_step] at s2
  have c1 : cellAt m t k = some (U (R k)) := by rw [cellAt_row gt, rowK_get (by omega)]
  have c1s : cellAt (m.map sealed) t k = some (U (R k)) := by rw [cellSeal gt, rowK_get (by omega)]
  have c2 : cellAt m t (8 + k) = some (U (R (8 + k))) := by rw [cellAt_row gt, rowK_get (by omega)]
  have c2s : cellAt (m.map sealed) t (8 + k) = some (U (R (8 + k))) := by rw [cellSeal gt, rowK_get (by omega)]
  obtain ⟨m2, hm2⟩ : ∃ m2, m2 = (m.set r (.row false 24 (rowOf (loW R (k + 1))))).set s (.row false 24 (rowOf (hiW R (k + 1)))) := ⟨_, rfl⟩
  rw [← hm2] at s2
  obtain ⟨A, ra, a51, ak⟩ := prd_15 (self := self) (nf := nf) (m := m) h50 (b := true) (decide_eq_true (by omega))
  obtain ⟨B, rb, b11, bk⟩ := prd_16 (self := self) (nf := nf) (m := m) ((ak 50 (by omega)).trans h50)
  have kb : ∀ a, a ≠ 11 -> a < 51 -> B a = F a := fun a h1 h2 => (bk a h1 h2).trans (ak a h2)
  obtain ⟨C, rc, ck⟩ := prd_17 (self := self) (nf := nf) (m := m) (ne_beq hrt) ((kb 4 (by omega) (by omega)).trans h4) ((kb 5 (by omega) (by omega)).trans h5) ((kb 6 (by omega) (by omega)).trans h6) b11 hk c1 c1s c2 c2s s1 s2
  obtain ⟨D, rd, d50, dk⟩ := prd_18 (self := self) (nf := nf) (m := m2) ((ck 50 (by omega)).trans ((kb 50 (by omega) (by omega)).trans h50)) hk
  refine ⟨D, m2, ?_, ?_, ?_, ?_, d50, fun a h1 h2 => (dk a h2).trans ((ck a (by omega)).trans (kb a h1 (by omega)))⟩
  . rw [lpprd_2_eq]
    clear hm2
    generalize Code.region 15 rprd_15 false = C15 at *
    generalize Code.region 16 rprd_16 false = C16 at *
    generalize Code.region 17 rprd_17 true = C17 at *
    generalize Code.region 18 rprd_18 false = C18 at *
    simp only [acodeN, ra, rb, rc, rd, ev, nth_lst, Nat.reduceLT, if_true, a51]
  . rw [hm2, List.getElem?_set_ne (fun e => hrs e.symm), List.getElem?_set_self (lt_of_at gr)]
  . rw [hm2, List.getElem?_set_self (lt_of_at g1)]
  . rw [hm2, List.getElem?_set_ne hst, List.getElem?_set_ne hrt]; exact gt
theorem prd_cutx (h50 : F 50 = .int .i64 ((8 : Nat) : Int)) : ∃ F', acodeN E self nf lpprd_2 (lst F 67) m = some (.exit 4, lst F' 67, m) /\ ∀ j, j < 51 -> F' j = F j := by
  obtain ⟨A, ra, a51, ak⟩ := prd_15 (self := self) (nf := nf) (m := m) h50 (b := false) (by decide)
  rw [lpprd_2_eq]
  refine ⟨A, ?_, ak⟩
  generalize Code.region 15 rprd_15 false = C15 at *
  simp only [acodeN, ra, ev, nth_lst, Nat.reduceLT, if_true, a51]
theorem prd_cutl (h4 : F 4 = .pointer (some ⟨r, 0, none⟩)) (h5 : F 5 = .pointer (some ⟨s, 0, none⟩)) (h6 : F 6 = .pointer (some ⟨t, 0, none⟩)) (h50 : F 50 = .int .i64 ((0 : Nat) : Int)) (hrs : r ≠ s) (hrt : r ≠ t) (hst : s ≠ t)
    (gr : m[r]? = some (.row false 24 (rowOf fun _ => 0))) (gs : m[s]? = some (.row false 24 (rowOf fun _ => 0))) (gt : m[t]? = some (.row false 88 (rowK .u64 16 R))) (hnf : 10 < nf) :
    ∃ G m', aloop (acodeN E self nf lpprd_2) nf (lst F 67) m = some (.exit 4, lst G 67, m') /\ m'[r]? = some (.row false 24 (rowOf (loW R 8))) /\ m'[s]? = some (.row false 24 (rowOf (hiW R 8))) /\ ∀ a, a ≠ 11 -> a < 50 -> G a = F a := by
  have z1 : (fun _ => 0 : Nat -> Nat) = loW R 0 := funext fun j => by unfold loW; rw [if_neg (Nat.not_lt_zero j)]
  have z2 : (fun _ => 0 : Nat -> Nat) = hiW R 0 := funext fun j => by unfold hiW; rw [if_neg (Nat.not_lt_zero j)]
  rw [z1] at gr
  rw [z2] at gs
  have hloop := aloop_inv (body := acodeN E self nf lpprd_2) (N := 8)
    (I := fun k T m' => ∃ G, T = lst G 67 /\ m'[r]? = some (.row false 24 (rowOf (loW R k))) /\ m'[s]? = some (.row false 24 (rowOf (hiW R k))) /\ m'[t]? = some (.row false 88 (rowK .u64 16 R)) /\ G 50 = .int .i64 ((k : Nat) : Int) /\ ∀ a, a ≠ 11 -> a < 50 -> G a = F a)
    (Q := fun x T m' => x = .exit 4 /\ ∃ G, T = lst G 67 /\ m'[r]? = some (.row false 24 (rowOf (loW R 8))) /\ m'[s]? = some (.row false 24 (rowOf (hiW R 8))) /\ ∀ a, a ≠ 11 -> a < 50 -> G a = F a) (fun k T m' hk hI => by
      obtain ⟨G, rfl, gr, gs, gt, g50, hG⟩ := hI
      by_cases h0 : k = 8
      . right
        subst h0
        obtain ⟨H, rh, hk⟩ := prd_cutx (self := self) (nf := nf) (m := m') g50
        exact ⟨_, _, _, rh, by simp, rfl, H, rfl, gr, gs, fun a h1 h2 => (hk a (by omega)).trans (hG a h1 h2)⟩
      . left
        obtain ⟨H, m1, rh, gr', gs', gt', x50, hk2⟩ := prd_cut (self := self) (nf := nf) (m := m') ((hG 4 (by omega) (by omega)).trans h4) ((hG 5 (by omega) (by omega)).trans h5) ((hG 6 (by omega) (by omega)).trans h6) g50 (by omega) hrs hrt hst gr gs gt
        exact ⟨_, _, rh, by omega, H, rfl, gr', gs', gt', x50, fun a h1 h2 => (hk2 a h1 h2).trans (hG a h1 h2)⟩)
  obtain ⟨x, T', m', hr, rfl, G, rfl, gr, gs, hG⟩ := hloop 8 0 nf (lst F 67) m (by omega) (by omega) ⟨F, rfl, gr, gs, gt, h50, fun _ _ _ => rfl⟩
  exact ⟨G, m', hr, gr, gs, hG⟩
end
end Go.Am.Seat
namespace Go.Am.Seat
open Go.Proofs Go.Am
noncomputable def rast_0 := opR Tryd.f39 [0]
noncomputable def rast_1 := opR Tryd.f39 [1,0]
theorem bodyast : Tryd.f39.body = some (.seq (.region 0 rast_0 false) (.seq (.region 1 rast_1 false) .ret)) := rfl
noncomputable def rsst_0 := opR Tryd.f41 [0]
noncomputable def rsst_1 := opR Tryd.f41 [1,0]
theorem bodysst : Tryd.f41.body = some (.seq (.region 0 rsst_0 false) (.seq (.region 1 rsst_1 false) .ret)) := rfl
noncomputable def rwof_0 := opR Tryd.f29 [0]
noncomputable def rwof_1 := opR Tryd.f29 [1,0]
theorem bodywof : Tryd.f29.body = some (.seq (.region 0 rwof_0 false) (.seq (.region 1 rwof_1 false) .ret)) := rfl
end Go.Am.Seat
