/-
  Texts of my own, put together: FR3, G12, F5.
-/
import Derived.Test.YtmgknkjdbpgjmaaGreatDoorGrFieldRoots25
import Derived.Test.YtmgknkjdbpgjmaaGreatDoorGrFieldRoots22
set_option linter.unusedSimpArgs false
set_option linter.unusedVariables false
set_option maxRecDepth 100000
namespace Go.Am.Seat
open Go.Proofs Go.Am Go.Am.Num
noncomputable def rrinv_0 : Array Oper := match Tryz.f15.body with
  | some (.seq (.region _ o _) _) => o
  | _ => #[]
noncomputable def lrinv_0 : List Oper := match Tryz.f15.body with
  | some (.seq (.region _ o _) _) => o.toList
  | _ => []
theorem erinv_0 : rrinv_0.toList = lrinv_0 := rfl
noncomputable def rrinv_1 : Array Oper := match Tryz.f15.body with
  | some (.seq _ (.seq (.region _ o _) _)) => o
  | _ => #[]
noncomputable def lrinv_1 : List Oper := match Tryz.f15.body with
  | some (.seq _ (.seq (.region _ o _) _)) => o.toList
  | _ => []
theorem erinv_1 : rrinv_1.toList = lrinv_1 := rfl
theorem bodyrinv : Tryz.f15.body = some (.seq (.region 0 rrinv_0 false) (.seq (.region 1 rrinv_1 false) .ret)) := rfl
-- ntmps 8
noncomputable def rri5_0 : Array Oper := match Tryz.f17.body with
  | some (.seq (.region _ o _) _) => o
  | _ => #[]
noncomputable def lri5_0 : List Oper := match Tryz.f17.body with
  | some (.seq (.region _ o _) _) => o.toList
  | _ => []
theorem eri5_0 : rri5_0.toList = lri5_0 := rfl
noncomputable def rri5_1 : Array Oper := match Tryz.f17.body with
  | some (.seq _ (.seq (.region _ o _) _)) => o
  | _ => #[]
noncomputable def lri5_1 : List Oper := match Tryz.f17.body with
  | some (.seq _ (.seq (.region _ o _) _)) => o.toList
  | _ => []
theorem eri5_1 : rri5_1.toList = lri5_1 := rfl
noncomputable def rri5_2 : Array Oper := match Tryz.f17.body with
  | some (.seq _ (.seq _ (.seq (.region _ o _) _))) => o
  | _ => #[]
noncomputable def lri5_2 : List Oper := match Tryz.f17.body with
  | some (.seq _ (.seq _ (.seq (.region _ o _) _))) => o.toList
  | _ => []
theorem eri5_2 : rri5_2.toList = lri5_2 := rfl
theorem bodyri5 : Tryz.f17.body = some (.seq (.region 0 rri5_0 false) (.seq (.region 1 rri5_1 false) (.seq (.region 2 rri5_2 false) .ret))) := rfl
-- ntmps 15
noncomputable def rrroot_0 : Array Oper := match Tryz.f34.body with
  | some (.seq (.region _ o _) _) => o
  | _ => #[]
noncomputable def lrroot_0 : List Oper := match Tryz.f34.body with
  | some (.seq (.region _ o _) _) => o.toList
  | _ => []
theorem erroot_0 : rrroot_0.toList = lrroot_0 := rfl
noncomputable def rrroot_1 : Array Oper := match Tryz.f34.body with
  | some (.seq _ (.seq (.region _ o _) _)) => o
  | _ => #[]
noncomputable def lrroot_1 : List Oper := match Tryz.f34.body with
  | some (.seq _ (.seq (.region _ o _) _)) => o.toList
  | _ => []
theorem erroot_1 : rrroot_1.toList = lrroot_1 := rfl
noncomputable def rrroot_2 : Array Oper := match Tryz.f34.body with
  | some (.seq _ (.seq _ (.seq (.region _ o _) _))) => o
  | _ => #[]
noncomputable def lrroot_2 : List Oper := match Tryz.f34.body with
  | some (.seq _ (.seq _ (.seq (.region _ o _) _))) => o.toList
  | _ => []
theorem erroot_2 : rrroot_2.toList = lrroot_2 := rfl
noncomputable def rrroot_3 : Array Oper := match Tryz.f34.body with
  | some (.seq _ (.seq _ (.seq _ (.seq (.seq (.region _ o _) _) _)))) => o
  | _ => #[]
noncomputable def lrroot_3 : List Oper := match Tryz.f34.body with
  | some (.seq _ (.seq _ (.seq _ (.seq (.seq (.region _ o _) _) _)))) => o.toList
  | _ => []
theorem erroot_3 : rrroot_3.toList = lrroot_3 := rfl
noncomputable def rrroot_4 : Array Oper := match Tryz.f34.body with
  | some (.seq _ (.seq _ (.seq _ (.seq (.seq _ (.cond _ (.seq (.region _ o _) _) _)) _)))) => o
  | _ => #[]
noncomputable def lrroot_4 : List Oper := match Tryz.f34.body with
  | some (.seq _ (.seq _ (.seq _ (.seq (.seq _ (.cond _ (.seq (.region _ o _) _) _)) _)))) => o.toList
  | _ => []
theorem erroot_4 : rrroot_4.toList = lrroot_4 := rfl
noncomputable def rrroot_5 : Array Oper := match Tryz.f34.body with
  | some (.seq _ (.seq _ (.seq _ (.seq _ (.seq (.region _ o _) _))))) => o
  | _ => #[]
noncomputable def lrroot_5 : List Oper := match Tryz.f34.body with
  | some (.seq _ (.seq _ (.seq _ (.seq _ (.seq (.region _ o _) _))))) => o.toList
  | _ => []
theorem erroot_5 : rrroot_5.toList = lrroot_5 := rfl
noncomputable def rrroot_6 : Array Oper := match Tryz.f34.body with
  | some (.seq _ (.seq _ (.seq _ (.seq _ (.seq _ (.seq (.region _ o _) _)))))) => o
  | _ => #[]
noncomputable def lrroot_6 : List Oper := match Tryz.f34.body with
  | some (.seq _ (.seq _ (.seq _ (.seq _ (.seq _ (.seq (.region _ o _) _)))))) => o.toList
  | _ => []
theorem erroot_6 : rrroot_6.toList = lrroot_6 := rfl
theorem bodyrroot : Tryz.f34.body = some (.seq (.region 0 rrroot_0 false) (.seq (.region 1 rrroot_1 false) (.seq (.region 2 rrroot_2 false) (.seq (.seq (.region 3 rrroot_3 false) (.cond (.tmp 23) (.seq (.region 4 rrroot_4 false) .ret) .skip)) (.seq (.region 5 rrroot_5 false) (.seq (.region 6 rrroot_6 false) .ret)))))) := rfl
-- ntmps 37
noncomputable def rrrat_0 : Array Oper := match Tryz.f9.body with
  | some (.seq (.region _ o _) _) => o
  | _ => #[]
noncomputable def lrrat_0 : List Oper := match Tryz.f9.body with
  | some (.seq (.region _ o _) _) => o.toList
  | _ => []
theorem errat_0 : rrrat_0.toList = lrrat_0 := rfl
noncomputable def rrrat_1 : Array Oper := match Tryz.f9.body with
  | some (.seq _ (.seq (.seq (.region _ o _) _) _)) => o
  | _ => #[]
noncomputable def lrrat_1 : List Oper := match Tryz.f9.body with
  | some (.seq _ (.seq (.seq (.region _ o _) _) _)) => o.toList
  | _ => []
theorem errat_1 : rrrat_1.toList = lrrat_1 := rfl
noncomputable def rrrat_2 : Array Oper := match Tryz.f9.body with
  | some (.seq _ (.seq (.seq _ (.cond _ (.seq (.region _ o _) _) _)) _)) => o
  | _ => #[]
noncomputable def lrrat_2 : List Oper := match Tryz.f9.body with
  | some (.seq _ (.seq (.seq _ (.cond _ (.seq (.region _ o _) _) _)) _)) => o.toList
  | _ => []
theorem errat_2 : rrrat_2.toList = lrrat_2 := rfl
noncomputable def rrrat_3 : Array Oper := match Tryz.f9.body with
  | some (.seq _ (.seq _ (.seq (.seq (.region _ o _) _) _))) => o
  | _ => #[]
noncomputable def lrrat_3 : List Oper := match Tryz.f9.body with
  | some (.seq _ (.seq _ (.seq (.seq (.region _ o _) _) _))) => o.toList
  | _ => []
theorem errat_3 : rrrat_3.toList = lrrat_3 := rfl
noncomputable def rrrat_4 : Array Oper := match Tryz.f9.body with
  | some (.seq _ (.seq _ (.seq (.seq _ (.cond _ (.seq (.region _ o _) _) _)) _))) => o
  | _ => #[]
noncomputable def lrrat_4 : List Oper := match Tryz.f9.body with
  | some (.seq _ (.seq _ (.seq (.seq _ (.cond _ (.seq (.region _ o _) _) _)) _))) => o.toList
  | _ => []
theorem errat_4 : rrrat_4.toList = lrrat_4 := rfl
noncomputable def rrrat_5 : Array Oper := match Tryz.f9.body with
  | some (.seq _ (.seq _ (.seq _ (.seq (.region _ o _) _)))) => o
  | _ => #[]
noncomputable def lrrat_5 : List Oper := match Tryz.f9.body with
  | some (.seq _ (.seq _ (.seq _ (.seq (.region _ o _) _)))) => o.toList
  | _ => []
theorem errat_5 : rrrat_5.toList = lrrat_5 := rfl
noncomputable def rrrat_6 : Array Oper := match Tryz.f9.body with
  | some (.seq _ (.seq _ (.seq _ (.seq _ (.seq (.region _ o _) _))))) => o
  | _ => #[]
noncomputable def lrrat_6 : List Oper := match Tryz.f9.body with
  | some (.seq _ (.seq _ (.seq _ (.seq _ (.seq (.region _ o _) _))))) => o.toList
  | _ => []
theorem errat_6 : rrrat_6.toList = lrrat_6 := rfl
noncomputable def rrrat_7 : Array Oper := match Tryz.f9.body with
  | some (.seq _ (.seq _ (.seq _ (.seq _ (.seq _ (.seq (.seq (.region _ o _) _) _)))))) => o
  | _ => #[]
noncomputable def lrrat_7 : List Oper := match Tryz.f9.body with
  | some (.seq _ (.seq _ (.seq _ (.seq _ (.seq _ (.seq (.seq (.region _ o _) _) _)))))) => o.toList
  | _ => []
theorem errat_7 : rrrat_7.toList = lrrat_7 := rfl
noncomputable def rrrat_8 : Array Oper := match Tryz.f9.body with
  | some (.seq _ (.seq _ (.seq _ (.seq _ (.seq _ (.seq (.seq _ (.cond _ (.seq (.region _ o _) _) _)) _)))))) => o
  | _ => #[]
noncomputable def lrrat_8 : List Oper := match Tryz.f9.body with
  | some (.seq _ (.seq _ (.seq _ (.seq _ (.seq _ (.seq (.seq _ (.cond _ (.seq (.region _ o _) _) _)) _)))))) => o.toList
  | _ => []
theorem errat_8 : rrrat_8.toList = lrrat_8 := rfl
noncomputable def rrrat_9 : Array Oper := match Tryz.f9.body with
  | some (.seq _ (.seq _ (.seq _ (.seq _ (.seq _ (.seq _ (.seq (.region _ o _) _))))))) => o
  | _ => #[]
noncomputable def lrrat_9 : List Oper := match Tryz.f9.body with
  | some (.seq _ (.seq _ (.seq _ (.seq _ (.seq _ (.seq _ (.seq (.region _ o _) _))))))) => o.toList
  | _ => []
theorem errat_9 : rrrat_9.toList = lrrat_9 := rfl
noncomputable def rrrat_10 : Array Oper := match Tryz.f9.body with
  | some (.seq _ (.seq _ (.seq _ (.seq _ (.seq _ (.seq _ (.seq _ (.seq (.region _ o _) _)))))))) => o
  | _ => #[]
noncomputable def lrrat_10 : List Oper := match Tryz.f9.body with
  | some (.seq _ (.seq _ (.seq _ (.seq _ (.seq _ (.seq _ (.seq _ (.seq (.region _ o _) _)))))))) => o.toList
  | _ => []
theorem errat_10 : rrrat_10.toList = lrrat_10 := rfl
theorem bodyrrat : Tryz.f9.body = some (.seq (.region 0 rrrat_0 false) (.seq (.seq (.region 1 rrrat_1 false) (.cond (.tmp 11) (.seq (.region 2 rrrat_2 false) .ret) .skip)) (.seq (.seq (.region 3 rrrat_3 false) (.cond (.tmp 14) (.seq (.region 4 rrrat_4 false) .ret) .skip)) (.seq (.region 5 rrrat_5 false) (.seq (.region 6 rrrat_6 false) (.seq (.seq (.region 7 rrrat_7 false) (.cond (.tmp 24) (.seq (.region 8 rrrat_8 false) .ret) .skip)) (.seq (.region 9 rrrat_9 false) (.seq (.region 10 rrrat_10 false) .ret)))))))) := rfl
-- ntmps 34
theorem Fe.lt32 (u : Fe) : u.1 < 256 ^ 32 := Nat.lt_trans u.2 (by decide +kernel)
theorem Fe.p5 (u : Fe) : u.1 < p5 := by rw [← p5_eq]; exact u.2
theorem pw_def (x e : Nat) : pw x e = x ^ e % P25519 := rfl
theorem fpw_val (u : Fe) (e : Nat) : u.1 ^ e % Go.Am.Seat.p5 = (fpw u e).1 := by rw [← p5_eq, ← pw_def]; rfl
theorem fmul_val (u v : Fe) : u.1 * v.1 % Go.Am.Seat.p5 = (fmul u v).1 := by rw [← p5_eq]; rfl
theorem fabs_val (u : Fe) : (if u.1 % 2 = 1 then (Go.Am.Seat.p5 - u.1) % Go.Am.Seat.p5 else u.1) = (fabs u).1 := by rw [← p5_eq]; rfl
def CMulF (self : Self) : Prop := ∀ (m : Mem) (a b : Value) (u v : Fe), NumA m a (dig u.1) → NumA m b (dig v.1) → ∃ r m', ainv E self 33 [a, b] m = some (r, m') ∧ NumR m r m' (fmul u v).1
theorem CMul5.f {self : Self} (h : CMul5 self) : CMulF self := fun m a b u v ha hb => by
  obtain ⟨r, m', h1, h2⟩ := h m a b u.1 v.1 ha hb u.lt32 v.lt32
  exact ⟨r, m', h1, by rw [← fmul_val]; exact h2⟩
def CPowF (self : Self) : Prop := ∀ (m : Mem) (a b : Value) (u : Fe) (e : Nat), NumA m a (dig u.1) → NumA m b (dig e) → e < 256 ^ 100 → ∃ r m', ainv E self 19 [a, b] m = some (r, m') ∧ NumR m r m' (fpw u e).1
theorem CPow.f {self : Self} (h : CPow self) : CPowF self := fun m a b u e ha hb he => by
  obtain ⟨r, m', h1, h2⟩ := h m a b u.1 e ha hb u.lt32 he
  exact ⟨r, m', h1, by rw [← fpw_val]; exact h2⟩
def CAbsF (self : Self) : Prop := ∀ (m : Mem) (a : Value) (u : Fe) (B : Nat), NumB B a m u.1 → B ≤ m.length → ∃ r m', ainv E self 43 [a] m = some (r, m') ∧ NumB B r m' (fabs u).1 ∧ Kept m m'
theorem CAbsN.f {self : Self} (h : CAbsN self) : CAbsF self := fun m a u B ha hB => by
  obtain ⟨r, m', h1, h2, h3⟩ := h m a u.1 B ha u.p5 hB
  exact ⟨r, m', h1, by rw [← fabs_val]; exact h2, h3⟩
def CInvF (self : Self) : Prop := ∀ (m : Mem) (a : Value) (u : Fe), NumA m a (dig u.1) → ∃ r m', ainv E self 15 [a] m = some (r, m') ∧ NumR m r m' (dinv u).1
def CIF (self : Self) : Prop := ∀ (m : Mem), ∃ r m', ainv E self 17 [] m = some (r, m') ∧ NumR m r m' fI.1
def CRootF (self : Self) : Prop := ∀ (m : Mem) (a : Value) (u : Fe), NumA m a (dig u.1) → ∃ r m', ainv E self 34 [a] m = some (.tuple ⟨[r, .bool (dok u)]⟩, m') ∧ NumR m r m' (droot u).1
def CRatF (self : Self) : Prop := ∀ (m : Mem) (a b : Value) (u v : Fe), NumA m a (dig u.1) → NumA m b (dig v.1) → ∃ r m', ainv E self 9 [a, b] m = some (.tuple ⟨[r, .bool (dratio u v).2]⟩, m') ∧ NumR m r m' (dratio u v).1.1
theorem ex_lt {x : Nat} (h : x < 256 ^ 33) : x < 256 ^ 100 := Nat.lt_of_lt_of_le h (Nat.pow_le_pow_right (by omega) (by omega))
section
variable {self : Self} {nf : Nat} {m : Mem} {a b : Value}
theorem inv_body (cp : CP5 self) (cs : CSub self) (cw : CPowF self) {u : Fe} (hA : NumA m a (dig u.1)) :
    ∃ r m', abody E self nf 15 [a] m = some (r, m') ∧ NumB m.length r m' (dinv u).1 := by
  rw [abody_eqF (by kernel_rfl) Tryz.func15 bodyrinv (by kernel_rfl) (Nat.le_of_ble_eq_true rfl)]
  rw [show Tryz.f15.ntmps = 8 from rfl]
  obtain ⟨v1, m1, e1, r1⟩ := cp m
  have b1 := build27 2 m1
  obtain ⟨v2, m2, e2, r2⟩ := cs (m1 ++ [Blk.row false 3 [.int .i64 2]]) v1 (.slice (some ⟨m1.length, 0, none⟩) 1 1) _ 2 (r1.is.on (Kept.app _ _)) (lit_row (c := 2) (by omega) (by omega)) (by decide +kernel) (dl (j := 33) (by decide +kernel) (by omega))
  have k1 := r1.keeps.trans ((Kept.app m1 [Blk.row false 3 [.int .i64 2]]).trans r2.keeps)
  obtain ⟨e, he⟩ : ∃ e, e = 57896044618658097711785492504343953926634992332820282019728792003956564819949 - 2 := ⟨_, rfl⟩
  rw [← he] at r2
  obtain ⟨v3, m3, e3, r3⟩ := cw m2 a v2 u e (hA.on k1) r2.is (by rw [he]; exact ex_lt (by decide +kernel))
  simp only [erinv_0, erinv_1, lrinv_0, lrinv_1, agd_none, gdAt, gdV_bool, gdV_undef, Tryz.f15, List.append_eq, List.cons_append, List.nil_append, apure_call1, apure_call2, apure_call3, bft, btf, acodeN, List.getElem?_toArray, List.getElem?_cons_zero, List.getElem?_cons_succ, aopsN, adrawT, cls, astep, aop, afloat, ev, nth_lst, get_lst, aput, setAt_lst, upd_at, init_zero, init_succ, init_nil, Nat.reduceLT, Nat.reduceEqDiff, reduceIte, len_N, abuiltin_app, Option.map_some, Option.map_none, orElse_some, apure_add, apure_eqlV, eqlVal_str, eqlVal_bool, eqlVal_ptr, eqlVal_slice, eqlVal_wide, eqlVal_int, allT, ↓aop_eqlV, apure_neq, List.map_cons, List.map_nil, List.all_cons, List.all_nil, lit2, lit1, lit0, List.isEmpty_nil, bls, Bool.false_eq_true, if_true, if_false, List.length_map, beq_self_eq_true, uns, callP5, e1, b1, callSubD, e2, callPow5, e3, finish, ares, aresL, ares1]
  refine ⟨_, _, rfl, ?_⟩
  have hd : dinv u = fpw u e := by unfold dinv; rw [he]; rfl
  rw [hd]
  exact r3.b.mono k1.1
theorem I_gen {u : Fe} {e : Nat} (hu : u = fe 2) (he : e = quart) : fabs (fpw u e) = fI := by rw [hu, he]; exact two_quart
theorem i5_body (cp : CP5 self) (cs : CSub self) (cd : CDiv self) (cw : CPowF self) (cn : CAbsF self) :
    ∃ r m', abody E self nf 17 [] m = some (r, m') ∧ NumB m.length r m' fI.1 := by
  rw [abody_eqF (by kernel_rfl) Tryz.func17 bodyri5 (by kernel_rfl) (Nat.le_of_ble_eq_true rfl)]
  rw [show Tryz.f17.ntmps = 15 from rfl]
  obtain ⟨v1, m1, e1, r1⟩ := cp m
  have b1 := build27 1 m1
  obtain ⟨v2, m2, e2, r2⟩ := cs (m1 ++ [Blk.row false 3 [.int .i64 1]]) v1 (.slice (some ⟨m1.length, 0, none⟩) 1 1) _ 1 (r1.is.on (Kept.app _ _)) (lit_row (c := 1) (by omega) (by omega)) (by decide +kernel) (dl (j := 33) (by decide +kernel) (by omega))
  have b2 := build27 4 m2
  obtain ⟨v3, w3, m3, e3, r3, _, k3⟩ := cd (m2 ++ [Blk.row false 3 [.int .i64 4]]) v2 (.slice (some ⟨m2.length, 0, none⟩) 1 1) _ 4 (r2.is.on (Kept.app _ _)) (lit_row (c := 4) (by omega) (by omega)) (by omega) (ex_lt (by decide +kernel)) (ex_lt (by decide +kernel))
  have k1 := r1.keeps.trans ((Kept.app m1 [Blk.row false 3 [.int .i64 1]]).trans (r2.keeps.trans ((Kept.app m2 [Blk.row false 3 [.int .i64 4]]).trans k3)))
  obtain ⟨e, he⟩ : ∃ e, e = (57896044618658097711785492504343953926634992332820282019728792003956564819949 - 1) / 4 := ⟨_, rfl⟩
  rw [← he] at r3
  have b3 := build27 2 m3
  obtain ⟨u, hu⟩ : ∃ u, u = fe 2 := ⟨_, rfl⟩
  have hu2 : u.1 = 2 := by rw [hu]; decide +kernel
  obtain ⟨v4, m4, e4, r4⟩ := cw (m3 ++ [Blk.row false 3 [.int .i64 2]]) (.slice (some ⟨m3.length, 0, none⟩) 1 1) v3 u e (by rw [hu2]; exact lit_row (c := 2) (by omega) (by omega)) (r3.s.a.on (Kept.app _ _)) (by rw [he]; exact ex_lt (by decide +kernel))
  have k4 := k1.trans ((Kept.app m3 [Blk.row false 3 [.int .i64 2]]).trans r4.keeps)
  obtain ⟨v5, m5, e5, r5, k5⟩ := cn m4 v4 _ m.length (r4.b.mono (k1.trans (Kept.app _ _)).1) k4.1
  rw [I_gen hu (by rw [he]; decide +kernel)] at r5
  simp only [eri5_0, eri5_1, eri5_2, lri5_0, lri5_1, lri5_2, agd_none, gdAt, gdV_bool, gdV_undef, Tryz.f17, List.append_eq, List.cons_append, List.nil_append, apure_call1, apure_call2, apure_call3, bft, btf, acodeN, List.getElem?_toArray, List.getElem?_cons_zero, List.getElem?_cons_succ, aopsN, adrawT, cls, astep, aop, afloat, ev, nth_lst, get_lst, aput, setAt_lst, upd_at, init_zero, init_succ, init_nil, Nat.reduceLT, Nat.reduceEqDiff, reduceIte, len_N, abuiltin_app, Option.map_some, Option.map_none, orElse_some, apure_add, apure_eqlV, eqlVal_str, eqlVal_bool, eqlVal_ptr, eqlVal_slice, eqlVal_wide, eqlVal_int, allT, ↓aop_eqlV, apure_neq, List.map_cons, List.map_nil, List.all_cons, List.all_nil, lit2, lit1, lit0, List.isEmpty_nil, bls, Bool.false_eq_true, if_true, if_false, List.length_map, beq_self_eq_true, uns, callP5, e1, b1, callSubD, e2, b2, callDivR, e3, aextract, b3, callPow5, e4, callAbsR, e5, finish, ares, aresL, ares1]
  exact ⟨_, _, rfl, r5⟩
theorem dx_gen {u : Fe} {e : Nat} (he : e = (P25519 + 3) / 8) : dx u = fpw u e := by unfold dx; rw [he]
theorem cmp_fe (u v : Fe) : (cmpN u.1 v.1 == 0) = decide (u = v) := by rw [cmp_eq, dec_val]
section
variable {F : Nat → Value} {m1 m2 m3 m4 m5 : Mem} {v1 v2 v3 v4 w3 : Value}
theorem rroot_r0 : ∃ F', acodeN E self nf (.region 0 rrroot_0 false) (lst F 37) m = some (.normal, lst F' 37, m) ∧ F' 0 = F 0 := by
  simp only [erroot_0, erroot_1, erroot_2, erroot_3, erroot_4, erroot_5, erroot_6, lrroot_0, lrroot_1, lrroot_2, lrroot_3, lrroot_4, lrroot_5, lrroot_6, agd_none, gdAt, gdV_bool, gdV_undef, Tryz.f34, List.append_eq, List.cons_append, List.nil_append, apure_call1, apure_call2, apure_call3, bft, btf, acodeN, List.getElem?_toArray, List.getElem?_cons_zero, List.getElem?_cons_succ, aopsN, adrawT, cls, astep, aop, afloat, ev, nth_lst, get_lst, aput, setAt_lst, upd_at, init_zero, init_succ, init_nil, Nat.reduceLT, Nat.reduceEqDiff, reduceIte, len_N, abuiltin_app, Option.map_some, Option.map_none, orElse_some, apure_add, apure_eqlV, eqlVal_str, eqlVal_bool, eqlVal_ptr, eqlVal_slice, eqlVal_wide, eqlVal_int, allT, ↓aop_eqlV, apure_neq, List.map_cons, List.map_nil, List.all_cons, List.all_nil, lit2, lit1, lit0, List.isEmpty_nil, bls, Bool.false_eq_true, if_true, if_false, List.length_map, beq_self_eq_true, uns]
  exact ⟨_, rfl, by simp only [upd_at, Nat.reduceEqDiff, reduceIte]⟩
theorem rroot_r1 {M1 M2 : Mem} {s1 s2 : Value} (e1 : ainv E self 12 [] m = some (v1, m1)) (b1 : abuildSlice E.P 30 1 [(0, .int .i64 3)] m1 = some (s1, M1)) (e2 : ainv E self 35 [v1, s1] M1 = some (v2, m2)) (b2 : abuildSlice E.P 30 1 [(0, .int .i64 8)] m2 = some (s2, M2)) (e3 : ainv E self 10 [v2, s2] M2 = some (.tuple ⟨[v3, w3]⟩, m3)) :
    ∃ F', acodeN E self nf (.region 1 rrroot_1 false) (lst F 37) m = some (.normal, lst F' 37, m3) ∧ F' 0 = F 0 ∧ F' 4 = v3 := by
  simp only [erroot_0, erroot_1, erroot_2, erroot_3, erroot_4, erroot_5, erroot_6, lrroot_0, lrroot_1, lrroot_2, lrroot_3, lrroot_4, lrroot_5, lrroot_6, agd_none, gdAt, gdV_bool, gdV_undef, Tryz.f34, List.append_eq, List.cons_append, List.nil_append, apure_call1, apure_call2, apure_call3, bft, btf, acodeN, List.getElem?_toArray, List.getElem?_cons_zero, List.getElem?_cons_succ, aopsN, adrawT, cls, astep, aop, afloat, ev, nth_lst, get_lst, aput, setAt_lst, upd_at, init_zero, init_succ, init_nil, Nat.reduceLT, Nat.reduceEqDiff, reduceIte, len_N, abuiltin_app, Option.map_some, Option.map_none, orElse_some, apure_add, apure_eqlV, eqlVal_str, eqlVal_bool, eqlVal_ptr, eqlVal_slice, eqlVal_wide, eqlVal_int, allT, ↓aop_eqlV, apure_neq, List.map_cons, List.map_nil, List.all_cons, List.all_nil, lit2, lit1, lit0, List.isEmpty_nil, bls, Bool.false_eq_true, if_true, if_false, List.length_map, beq_self_eq_true, uns, callP5, e1, b1, callAddD, e2, b2, callDivR, e3, aextract]
  exact ⟨_, rfl, by simp only [upd_at, Nat.reduceEqDiff, reduceIte], by simp only [upd_at, Nat.reduceEqDiff, reduceIte]⟩
theorem rroot_r2 (h0 : F 0 = a) (h4 : F 4 = v3) (e4 : ainv E self 19 [a, v3] m = some (v4, m1)) :
    ∃ F', acodeN E self nf (.region 2 rrroot_2 false) (lst F 37) m = some (.normal, lst F' 37, m1) ∧ F' 0 = a ∧ F' 6 = v4 := by
  simp only [erroot_0, erroot_1, erroot_2, erroot_3, erroot_4, erroot_5, erroot_6, lrroot_0, lrroot_1, lrroot_2, lrroot_3, lrroot_4, lrroot_5, lrroot_6, agd_none, gdAt, gdV_bool, gdV_undef, Tryz.f34, List.append_eq, List.cons_append, List.nil_append, apure_call1, apure_call2, apure_call3, bft, btf, acodeN, List.getElem?_toArray, List.getElem?_cons_zero, List.getElem?_cons_succ, aopsN, adrawT, cls, astep, aop, afloat, ev, nth_lst, get_lst, aput, setAt_lst, upd_at, init_zero, init_succ, init_nil, Nat.reduceLT, Nat.reduceEqDiff, reduceIte, len_N, abuiltin_app, Option.map_some, Option.map_none, orElse_some, apure_add, apure_eqlV, eqlVal_str, eqlVal_bool, eqlVal_ptr, eqlVal_slice, eqlVal_wide, eqlVal_int, allT, ↓aop_eqlV, apure_neq, List.map_cons, List.map_nil, List.all_cons, List.all_nil, lit2, lit1, lit0, List.isEmpty_nil, bls, Bool.false_eq_true, if_true, if_false, List.length_map, beq_self_eq_true, uns, h0, h4, callPow5, e4]
  exact ⟨_, rfl, by simp only [upd_at, Nat.reduceEqDiff, reduceIte, h0], by simp only [upd_at, Nat.reduceEqDiff, reduceIte]⟩
theorem rroot_r3 {c : Int} (h0 : F 0 = a) (h6 : F 6 = v4) (e5 : ainv E self 33 [v4, v4] m = some (v1, m1)) (e6 : ainv E self 37 [v1, a] m1 = some (.int .i64 c, m1)) (q : (c == 0) = false) :
    ∃ F', acodeN E self nf (.seq (.region 3 rrroot_3 false) (.cond (.tmp 23) (.seq (.region 4 rrroot_4 false) .ret) .skip)) (lst F 37) m = some (.normal, lst F' 37, m1) ∧ F' 0 = a ∧ F' 6 = v4 := by
  simp only [erroot_0, erroot_1, erroot_2, erroot_3, erroot_4, erroot_5, erroot_6, lrroot_0, lrroot_1, lrroot_2, lrroot_3, lrroot_4, lrroot_5, lrroot_6, agd_none, gdAt, gdV_bool, gdV_undef, Tryz.f34, List.append_eq, List.cons_append, List.nil_append, apure_call1, apure_call2, apure_call3, bft, btf, acodeN, List.getElem?_toArray, List.getElem?_cons_zero, List.getElem?_cons_succ, aopsN, adrawT, cls, astep, aop, afloat, ev, nth_lst, get_lst, aput, setAt_lst, upd_at, init_zero, init_succ, init_nil, Nat.reduceLT, Nat.reduceEqDiff, reduceIte, len_N, abuiltin_app, Option.map_some, Option.map_none, orElse_some, apure_add, apure_eqlV, eqlVal_str, eqlVal_bool, eqlVal_ptr, eqlVal_slice, eqlVal_wide, eqlVal_int, allT, ↓aop_eqlV, apure_neq, List.map_cons, List.map_nil, List.all_cons, List.all_nil, lit2, lit1, lit0, List.isEmpty_nil, bls, Bool.false_eq_true, if_true, if_false, List.length_map, beq_self_eq_true, uns, h0, h6, callMulF5, e5, callCmpD, e6, eql64, q]
  exact ⟨_, rfl, by simp only [upd_at, Nat.reduceEqDiff, reduceIte, h0], by simp only [upd_at, Nat.reduceEqDiff, reduceIte, h6]⟩
theorem rroot_r5 (h0 : F 0 = a) (h6 : F 6 = v4) (e7 : ainv E self 17 [] m = some (v1, m1)) (e8 : ainv E self 33 [v4, v1] m1 = some (v2, m2)) :
    ∃ F', acodeN E self nf (.region 5 rrroot_5 false) (lst F 37) m = some (.normal, lst F' 37, m2) ∧ F' 0 = a ∧ F' 6 = v2 := by
  simp only [erroot_0, erroot_1, erroot_2, erroot_3, erroot_4, erroot_5, erroot_6, lrroot_0, lrroot_1, lrroot_2, lrroot_3, lrroot_4, lrroot_5, lrroot_6, agd_none, gdAt, gdV_bool, gdV_undef, Tryz.f34, List.append_eq, List.cons_append, List.nil_append, apure_call1, apure_call2, apure_call3, bft, btf, acodeN, List.getElem?_toArray, List.getElem?_cons_zero, List.getElem?_cons_succ, aopsN, adrawT, cls, astep, aop, afloat, ev, nth_lst, get_lst, aput, setAt_lst, upd_at, init_zero, init_succ, init_nil, Nat.reduceLT, Nat.reduceEqDiff, reduceIte, len_N, abuiltin_app, Option.map_some, Option.map_none, orElse_some, apure_add, apure_eqlV, eqlVal_str, eqlVal_bool, eqlVal_ptr, eqlVal_slice, eqlVal_wide, eqlVal_int, allT, ↓aop_eqlV, apure_neq, List.map_cons, List.map_nil, List.all_cons, List.all_nil, lit2, lit1, lit0, List.isEmpty_nil, bls, Bool.false_eq_true, if_true, if_false, List.length_map, beq_self_eq_true, uns, h0, h6, callI5, e7, callMulF5, e8]
  exact ⟨_, rfl, by simp only [upd_at, Nat.reduceEqDiff, reduceIte, h0], by simp only [upd_at, Nat.reduceEqDiff, reduceIte]⟩
theorem rroot_r6 {c : Int} {t : Bool} (h0 : F 0 = a) (h6 : F 6 = v4) (e9 : ainv E self 43 [v4] m = some (v1, m1)) (e10 : ainv E self 33 [v4, v4] m1 = some (v2, m2)) (e11 : ainv E self 37 [v2, a] m2 = some (.int .i64 c, m2)) (q : (c == 0) = t) :
    ∃ F', acodeN E self nf (.region 6 rrroot_6 false) (lst F 37) m = some (.normal, lst F' 37, m2) ∧ F' 2 = v1 ∧ F' 3 = .bool t := by
  simp only [erroot_0, erroot_1, erroot_2, erroot_3, erroot_4, erroot_5, erroot_6, lrroot_0, lrroot_1, lrroot_2, lrroot_3, lrroot_4, lrroot_5, lrroot_6, agd_none, gdAt, gdV_bool, gdV_undef, Tryz.f34, List.append_eq, List.cons_append, List.nil_append, apure_call1, apure_call2, apure_call3, bft, btf, acodeN, List.getElem?_toArray, List.getElem?_cons_zero, List.getElem?_cons_succ, aopsN, adrawT, cls, astep, aop, afloat, ev, nth_lst, get_lst, aput, setAt_lst, upd_at, init_zero, init_succ, init_nil, Nat.reduceLT, Nat.reduceEqDiff, reduceIte, len_N, abuiltin_app, Option.map_some, Option.map_none, orElse_some, apure_add, apure_eqlV, eqlVal_str, eqlVal_bool, eqlVal_ptr, eqlVal_slice, eqlVal_wide, eqlVal_int, allT, ↓aop_eqlV, apure_neq, List.map_cons, List.map_nil, List.all_cons, List.all_nil, lit2, lit1, lit0, List.isEmpty_nil, bls, Bool.false_eq_true, if_true, if_false, List.length_map, beq_self_eq_true, uns, h0, h6, callAbsR, e9, callMulF5, e10, callCmpD, e11, eql64, q]
  exact ⟨_, rfl, by simp only [upd_at, Nat.reduceEqDiff, reduceIte], by simp only [upd_at, Nat.reduceEqDiff, reduceIte]⟩
end
theorem root_body (cp : CP5 self) (ca : CAdd self) (cd : CDiv self) (cw : CPowF self) (cm : CMulF self) (cc : CCmp self) (ci : CIF self) (cn : CAbsF self) {u : Fe} (hA : NumA m a (dig u.1)) :
    ∃ r m', abody E self nf 34 [a] m = some (.tuple ⟨[r, .bool (dok u)]⟩, m') ∧ NumB m.length r m' (droot u).1 := by
  rw [abody_eqF (by kernel_rfl) Tryz.func34 bodyrroot (by kernel_rfl) (Nat.le_of_ble_eq_true rfl)]
  rw [show Tryz.f34.ntmps = 37 from rfl]
  obtain ⟨v1, m1, e1, r1⟩ := cp m
  have b1 := build27 3 m1
  obtain ⟨v2, m2, e2, r2⟩ := ca (m1 ++ [Blk.row false 3 [.int .i64 3]]) v1 (.slice (some ⟨m1.length, 0, none⟩) 1 1) _ 3 (r1.is.on (Kept.app _ _)) (lit_row (c := 3) (by omega) (by omega)) (dl (j := 33) (by decide +kernel) (by omega)) (dl (j := 33) (by decide +kernel) (by omega))
  have b2 := build27 8 m2
  obtain ⟨v3, w3, m3, e3, r3, _, k3⟩ := cd (m2 ++ [Blk.row false 3 [.int .i64 8]]) v2 (.slice (some ⟨m2.length, 0, none⟩) 1 1) _ 8 (r2.is.on (Kept.app _ _)) (lit_row (c := 8) (by omega) (by omega)) (by omega) (ex_lt (by decide +kernel)) (ex_lt (by decide +kernel))
  have k1 := r1.keeps.trans ((Kept.app m1 [Blk.row false 3 [.int .i64 3]]).trans (r2.keeps.trans ((Kept.app m2 [Blk.row false 3 [.int .i64 8]]).trans k3)))
  obtain ⟨e, he⟩ : ∃ e, e = (57896044618658097711785492504343953926634992332820282019728792003956564819949 + 3) / 8 := ⟨_, rfl⟩
  rw [← he] at r3
  obtain ⟨v4, m4, e4, r4⟩ := cw m3 a v3 u e (hA.on k1) r3.s.a (by rw [he]; exact ex_lt (by decide +kernel))
  rw [← dx_gen (u := u) (e := e) (by rw [he]; decide +kernel)] at r4
  clear he
  have k4 := k1.trans r4.keeps
  have n4 := r4.b.mono k1.1
  unfold droot dok
  generalize dx u = X at *
  obtain ⟨v5, m5, e5, r5⟩ := cm m4 v4 v4 X X r4.is r4.is
  have k5 := k4.trans r5.keeps
  have e6 := cc m5 v5 a _ u.1 r5.is (hA.on k5) (dl (fmul X X).lt32 (by omega)) (dl u.lt32 (by omega))
  have q6 := cmp_fe (fmul X X) u
  by_cases hq : fmul X X = u
  · rw [decide_eq_true hq] at q6
    obtain ⟨v7, m7, e7, r7, k7⟩ := cn m5 v4 X m.length (n4.on r5.keeps) k5.1
    rw [if_pos hq, decide_eq_true hq, Bool.true_or]
    refine ⟨v7, m7, ?_, r7⟩
    clear r7 k7 n4 hq hA k1 k3 r1 r2 r3 r4 r5 k4 k5
    generalize cmpN (fmul X X).1 u.1 = c6 at *
    clear X u
    generalize m1 ++ [Blk.row false 3 [.int .i64 3]] = M1 at *
    generalize m2 ++ [Blk.row false 3 [.int .i64 8]] = M2 at *
    simp only [erroot_0, erroot_1, erroot_2, erroot_3, erroot_4, erroot_5, erroot_6, lrroot_0, lrroot_1, lrroot_2, lrroot_3, lrroot_4, lrroot_5, lrroot_6, agd_none, gdAt, gdV_bool, gdV_undef, Tryz.f34, List.append_eq, List.cons_append, List.nil_append, apure_call1, apure_call2, apure_call3, bft, btf, acodeN, List.getElem?_toArray, List.getElem?_cons_zero, List.getElem?_cons_succ, aopsN, adrawT, cls, astep, aop, afloat, ev, nth_lst, get_lst, aput, setAt_lst, upd_at, init_zero, init_succ, init_nil, Nat.reduceLT, Nat.reduceEqDiff, reduceIte, len_N, abuiltin_app, Option.map_some, Option.map_none, orElse_some, apure_add, apure_eqlV, eqlVal_str, eqlVal_bool, eqlVal_ptr, eqlVal_slice, eqlVal_wide, eqlVal_int, allT, ↓aop_eqlV, apure_neq, List.map_cons, List.map_nil, List.all_cons, List.all_nil, lit2, lit1, lit0, List.isEmpty_nil, bls, Bool.false_eq_true, if_true, if_false, List.length_map, beq_self_eq_true, uns, callP5, e1, b1, callAddD, e2, b2, callDivR, e3, aextract, callPow5, e4, callMulF5, e5, callCmpD, e6, eql64, q6, callAbsR, e7, finish, ares, aresL, ares1]
  · rw [decide_eq_false hq] at q6
    obtain ⟨v7, m7, e7, r7⟩ := ci m5
    have k7 := k5.trans r7.keeps
    obtain ⟨v8, m8, e8, r8⟩ := cm m7 v4 v7 X fI (r4.is.on (r5.keeps.trans r7.keeps)) r7.is
    have k8 := k7.trans r8.keeps
    have n8 := r8.b.mono k7.1
    obtain ⟨v9, m9, e9, r9, k9⟩ := cn m8 v8 _ m.length n8 k8.1
    obtain ⟨v10, m10, e10, r10⟩ := cm m9 v8 v8 _ _ (r8.is.on k9) (r8.is.on k9)
    have k10 := k8.trans (k9.trans r10.keeps)
    have e11 := cc m10 v10 a _ u.1 r10.is (hA.on k10) (dl (fmul _ _).lt32 (by omega)) (dl u.lt32 (by omega))
    have q11 := cmp_fe (fmul (fmul X fI) (fmul X fI)) u
    rw [if_neg hq, decide_eq_false hq, Bool.false_or]
    generalize decide (fmul (fmul X fI) (fmul X fI) = u) = t at *
    refine ⟨v9, m10, ?_, r9.on r10.keeps⟩
    clear r9 r10 k10 r8 n8 r7 k7 k8 k9 n4 hq hA k1 k3 r1 r2 r3 r4 r5 k4 k5
    generalize cmpN (fmul X X).1 u.1 = c6 at *
    generalize cmpN (fmul (fmul X fI) (fmul X fI)).1 u.1 = c11 at *
    obtain ⟨A, ra, a0⟩ := rroot_r0 (self := self) (nf := nf) (m := m) (F := init [a])
    have a0 : A 0 = a := a0
    obtain ⟨C, rb, c0, c4⟩ := rroot_r1 (self := self) (nf := nf) (m := m) (F := A) e1 b1 e2 b2 e3
    obtain ⟨D, rc, d0, d6⟩ := rroot_r2 (self := self) (nf := nf) (m := m3) (F := C) (c0.trans a0) c4 e4
    obtain ⟨G, rd, g0, g6⟩ := rroot_r3 (self := self) (nf := nf) (m := m4) (F := D) d0 d6 e5 e6 q6
    obtain ⟨H, re, h0, h6⟩ := rroot_r5 (self := self) (nf := nf) (m := m5) (F := G) g0 g6 e7 e8
    obtain ⟨J, rf, j2, j3⟩ := rroot_r6 (self := self) (nf := nf) (m := m8) (F := H) h0 h6 e9 e10 e11 q11
    clear e1 e2 e3 e4 e5 e6 e7 e8 e9 e10 e11
    generalize Code.region 0 rrroot_0 false = C0 at *
    generalize Code.region 1 rrroot_1 false = C1 at *
    generalize Code.region 2 rrroot_2 false = C2 at *
    generalize Code.seq (Code.region 3 rrroot_3 false) (Code.cond (Operand.tmp 23) (Code.seq (Code.region 4 rrroot_4 false) Code.ret) Code.skip) = C3 at *
    generalize Code.region 5 rrroot_5 false = C5 at *
    generalize Code.region 6 rrroot_6 false = C6 at *
    simp only [acodeN, ra, rb, rc, rd, re, rf, if_true, finish, ares, aresL, ares1, Tryz.f34, ev, nth_lst, Nat.reduceLT, j2, j3, Option.map_some]
theorem ratio_body (cv : CInvF self) (cm : CMulF self) (ci : CIF self) (cr : CRootF self) {u v : Fe} (hA : NumA m a (dig u.1)) (hB : NumA m b (dig v.1)) :
    ∃ r m', abody E self nf 9 [a, b] m = some (.tuple ⟨[r, .bool (dratio u v).2]⟩, m') ∧ NumB m.length r m' (dratio u v).1.1 := by
  rw [abody_eqF (by kernel_rfl) Tryz.func9 bodyrrat (by kernel_rfl) (Nat.le_of_ble_eq_true rfl)]
  rw [show Tryz.f9.ntmps = 34 from rfl]
  have la := hA.1
  have lb := hB.1
  have qa := dig_nil (X := u.1)
  have qb := dig_nil (X := v.1)
  rw [show decide (u.1 = 0) = decide (u = f0) by rw [dec_val]; rfl] at qa
  rw [show decide (v.1 = 0) = decide (v = f0) by rw [dec_val]; rfl] at qb
  unfold dratio
  by_cases hu : u = f0
  · rw [decide_eq_true hu] at qa
    rw [if_pos hu]
    simp only [errat_0, errat_1, errat_10, errat_2, errat_3, errat_4, errat_5, errat_6, errat_7, errat_8, errat_9, lrrat_0, lrrat_1, lrrat_2, lrrat_3, lrrat_4, lrrat_5, lrrat_6, lrrat_7, lrrat_8, lrrat_9, lrrat_10, agd_none, gdAt, gdV_bool, gdV_undef, Tryz.f9, List.append_eq, List.cons_append, List.nil_append, apure_call1, apure_call2, apure_call3, bft, btf, acodeN, List.getElem?_toArray, List.getElem?_cons_zero, List.getElem?_cons_succ, aopsN, adrawT, cls, astep, aop, afloat, ev, nth_lst, get_lst, aput, setAt_lst, upd_at, init_zero, init_succ, init_nil, Nat.reduceLT, Nat.reduceEqDiff, reduceIte, len_N, abuiltin_app, Option.map_some, Option.map_none, orElse_some, apure_add, apure_eqlV, eqlVal_str, eqlVal_bool, eqlVal_ptr, eqlVal_slice, eqlVal_wide, eqlVal_int, allT, ↓aop_eqlV, apure_neq, List.map_cons, List.map_nil, List.all_cons, List.all_nil, lit2, lit1, lit0, List.isEmpty_nil, bls, Bool.false_eq_true, if_true, if_false, List.length_map, beq_self_eq_true, uns, la, eql64, qa, finish, ares, aresL, ares1]
    exact ⟨_, _, rfl, .inl ⟨rfl, rfl⟩⟩
  · rw [decide_eq_false hu] at qa
    rw [if_neg hu]
    by_cases hv : v = f0
    · rw [decide_eq_true hv] at qb
      rw [if_pos hv]
      simp only [errat_0, errat_1, errat_10, errat_2, errat_3, errat_4, errat_5, errat_6, errat_7, errat_8, errat_9, lrrat_0, lrrat_1, lrrat_2, lrrat_3, lrrat_4, lrrat_5, lrrat_6, lrrat_7, lrrat_8, lrrat_9, lrrat_10, agd_none, gdAt, gdV_bool, gdV_undef, Tryz.f9, List.append_eq, List.cons_append, List.nil_append, apure_call1, apure_call2, apure_call3, bft, btf, acodeN, List.getElem?_toArray, List.getElem?_cons_zero, List.getElem?_cons_succ, aopsN, adrawT, cls, astep, aop, afloat, ev, nth_lst, get_lst, aput, setAt_lst, upd_at, init_zero, init_succ, init_nil, Nat.reduceLT, Nat.reduceEqDiff, reduceIte, len_N, abuiltin_app, Option.map_some, Option.map_none, orElse_some, apure_add, apure_eqlV, eqlVal_str, eqlVal_bool, eqlVal_ptr, eqlVal_slice, eqlVal_wide, eqlVal_int, allT, ↓aop_eqlV, apure_neq, List.map_cons, List.map_nil, List.all_cons, List.all_nil, lit2, lit1, lit0, List.isEmpty_nil, bls, Bool.false_eq_true, if_true, if_false, List.length_map, beq_self_eq_true, uns, la, lb, eql64, qa, qb, finish, ares, aresL, ares1]
      exact ⟨_, _, rfl, .inl ⟨rfl, rfl⟩⟩
    · rw [decide_eq_false hv] at qb
      rw [if_neg hv]
      obtain ⟨v1, m1, e1, r1⟩ := cv m b v hB
      obtain ⟨v2, m2, e2, r2⟩ := cm m1 a v1 u _ (hA.on r1.keeps) r1.is
      have k2 := r1.keeps.trans r2.keeps
      generalize fmul u (dinv v) = w at *
      obtain ⟨v3, m3, e3, r3⟩ := cr m2 v2 w r2.is
      have k3 := k2.trans r3.keeps
      by_cases ho : dok w = true
      · rw [ho] at e3
        rw [if_pos ho]
        simp only [errat_0, errat_1, errat_10, errat_2, errat_3, errat_4, errat_5, errat_6, errat_7, errat_8, errat_9, lrrat_0, lrrat_1, lrrat_2, lrrat_3, lrrat_4, lrrat_5, lrrat_6, lrrat_7, lrrat_8, lrrat_9, lrrat_10, agd_none, gdAt, gdV_bool, gdV_undef, Tryz.f9, List.append_eq, List.cons_append, List.nil_append, apure_call1, apure_call2, apure_call3, bft, btf, acodeN, List.getElem?_toArray, List.getElem?_cons_zero, List.getElem?_cons_succ, aopsN, adrawT, cls, astep, aop, afloat, ev, nth_lst, get_lst, aput, setAt_lst, upd_at, init_zero, init_succ, init_nil, Nat.reduceLT, Nat.reduceEqDiff, reduceIte, len_N, abuiltin_app, Option.map_some, Option.map_none, orElse_some, apure_add, apure_eqlV, eqlVal_str, eqlVal_bool, eqlVal_ptr, eqlVal_slice, eqlVal_wide, eqlVal_int, allT, ↓aop_eqlV, apure_neq, List.map_cons, List.map_nil, List.all_cons, List.all_nil, lit2, lit1, lit0, List.isEmpty_nil, bls, Bool.false_eq_true, if_true, if_false, List.length_map, beq_self_eq_true, uns, la, lb, eql64, qa, qb, callInv5, e1, callMulF5, e2, callRoot5, e3, aextract, finish, ares, aresL, ares1]
        exact ⟨_, _, rfl, r3.b.mono k2.1⟩
      · have ho' : dok w = false := by simpa using ho
        rw [ho'] at e3
        rw [if_neg ho]
        obtain ⟨v4, m4, e4, r4⟩ := ci m3
        obtain ⟨v5, m5, e5, r5⟩ := cm m4 v4 v2 fI w r4.is (r2.is.on (r3.keeps.trans r4.keeps))
        have k5 := k3.trans (r4.keeps.trans r5.keeps)
        obtain ⟨v6, m6, e6, r6⟩ := cr m5 v5 _ r5.is
        simp only [errat_0, errat_1, errat_10, errat_2, errat_3, errat_4, errat_5, errat_6, errat_7, errat_8, errat_9, lrrat_0, lrrat_1, lrrat_2, lrrat_3, lrrat_4, lrrat_5, lrrat_6, lrrat_7, lrrat_8, lrrat_9, lrrat_10, agd_none, gdAt, gdV_bool, gdV_undef, Tryz.f9, List.append_eq, List.cons_append, List.nil_append, apure_call1, apure_call2, apure_call3, bft, btf, acodeN, List.getElem?_toArray, List.getElem?_cons_zero, List.getElem?_cons_succ, aopsN, adrawT, cls, astep, aop, afloat, ev, nth_lst, get_lst, aput, setAt_lst, upd_at, init_zero, init_succ, init_nil, Nat.reduceLT, Nat.reduceEqDiff, reduceIte, len_N, abuiltin_app, Option.map_some, Option.map_none, orElse_some, apure_add, apure_eqlV, eqlVal_str, eqlVal_bool, eqlVal_ptr, eqlVal_slice, eqlVal_wide, eqlVal_int, allT, ↓aop_eqlV, apure_neq, List.map_cons, List.map_nil, List.all_cons, List.all_nil, lit2, lit1, lit0, List.isEmpty_nil, bls, Bool.false_eq_true, if_true, if_false, List.length_map, beq_self_eq_true, uns, la, lb, eql64, qa, qb, callInv5, e1, callMulF5, e2, callRoot5, e3, aextract, callI5, e4, e5, e6, finish, ares, aresL, ares1]
        exact ⟨_, _, rfl, r6.b.mono k5.1⟩
end
section
variable {R : Nat → Self} {K : List Fact} (hR : Runs R K) {n : Nat}
include hR
theorem cinvF (hK : hasF K 15 = false) (cp : CP5 (R n)) (cs : CSub (R n)) (cw : CPowF (R n)) : CInvF (R (n + 1)) := by
  intro m a u ha
  refine num1_call (by kernel_rfl) (by kernel_rfl) ha fun M hA => ?_
  obtain ⟨v, m1, h1, h2⟩ := inv_body (self := R n) (nf := n + 1) cp cs cw hA
  exact ⟨v, m1, hR.b hK h1, h2⟩
theorem ciF (hK : hasF K 17 = false) (cp : CP5 (R n)) (cs : CSub (R n)) (cd : CDiv (R n)) (cw : CPowF (R n)) (cn : CAbsF (R n)) : CIF (R (n + 1)) := by
  intro m
  obtain ⟨v, m1, h1, h2⟩ := i5_body (self := R n) (nf := n + 1) (m := (m.take E.G).map onlyTab) cp cs cd cw cn
  unfold ainv
  rw [show (([] : List Value).all lit2) = true from rfl, show E.fast 17 = none from by kernel_rfl]
  simp only [if_true, hR.b hK h1]
  exact h2.coll
theorem crootF (hK : hasF K 34 = false) (cp : CP5 (R n)) (ca : CAdd (R n)) (cd : CDiv (R n)) (cw : CPowF (R n)) (cm : CMulF (R n)) (cc : CCmp (R n)) (ci : CIF (R n)) (cn : CAbsF (R n)) : CRootF (R (n + 1)) := by
  intro m a u ha
  refine num1_callT (by kernel_rfl) (by kernel_rfl) ha fun M hA => ?_
  obtain ⟨v, m1, h1, h2⟩ := root_body (self := R n) (nf := n + 1) cp ca cd cw cm cc ci cn hA
  exact ⟨v, m1, hR.b hK h1, h2⟩
theorem cratF (hK : hasF K 9 = false) (cv : CInvF (R n)) (cm : CMulF (R n)) (ci : CIF (R n)) (cr : CRootF (R n)) : CRatF (R (n + 1)) := by
  intro m a b u v ha hb
  refine num2_callT (by kernel_rfl) (by kernel_rfl) ha hb fun M hA hB => ?_
  obtain ⟨r, m1, h1, h2⟩ := ratio_body (self := R n) (nf := n + 1) cv cm ci cr hA hB
  exact ⟨r, m1, hR.b hK h1, h2⟩
end
end Go.Am.Seat
namespace Go.Am.Seat
open Go.Proofs Go.Am Go.Am.Num
theorem z46 : zeroB E.P 23 = some (.row false 23 (rowK .u8 32 fun _ => 0)) := by kernel_rfl
theorem NumO.s {m : Mem} {nb nb0 : List Blk} {ow ow0 : List Nat} {j : Nat} {v : Value} {x : Nat} (h : NumO m nb ow j v x) (hn : NumN m nb0 ow0 j v x) : NumS (m ++ nb) v x := by
  rcases hn with ⟨rfl, rfl⟩ | ⟨L, n, k, h1, h2, rfl, h4, h5, hne⟩
  · exact .inl ⟨rfl, rfl⟩
  · rcases h with ⟨h6, _⟩ | ⟨_, h6⟩ | ⟨L', n', k', q1, q2, q3, q4, q5, qne⟩
    · cases h6
    · rcases h6 with h6 | ⟨b, a, c, h6, hb⟩
      · cases h6
      · simp only [Value.slice.injEq, Option.some.injEq, Addr.mk.injEq] at h6
        omega
    · right
      refine ⟨m.length + k', false, L', n', q3, q1, q2, ?_, qne⟩
      rw [List.getElem?_append_right (by omega), Nat.add_sub_cancel_left]
      exact q4
section
variable {self : Self} {nf : Nat} {m : Mem} {F : Nat → Value} {X Y : Nat} {wa wb : Nat → Nat}
end
end Go.Am.Seat
namespace Go.Am.Seat
open Go.Proofs Go.Am Go.Am.Num
set_option maxHeartbeats 8000000
theorem callRa : callableB E.P 8 = true := by kernel_rfl
theorem callIv : callableB E.P 14 = true := by kernel_rfl
-- ntmps 145
section
variable {self : Self} {nf : Nat} {F : Nat → Value} {B N N2 : Mem} {rX rY rZ rR : Blk} {pa pb pc px py pz po pr pn : Nat} {va vb vc vX vY vZ vS vQ vR vO vT : Value}
end
end Go.Am.Seat
