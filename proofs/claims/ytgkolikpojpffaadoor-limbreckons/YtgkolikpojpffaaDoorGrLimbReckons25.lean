/-
  Texts of my own, put together: KW7, Y1, PA, PB.
-/
import Derived.Test.YtgkolikpojpffaaDoorGrLimbReckons24
import Derived.Test.YtgkolikpojpffaaDoorGrLimbReckons8
import Derived.Defers
import Derived.Recover
set_option linter.unusedSimpArgs false
set_option linter.unusedVariables false
set_option maxRecDepth 100000
namespace Go.Am.Seat
open Go.Proofs Go.Am Go.Am.Num Go.Am.Kn
theorem oast_0 : rast_0.toList = [⟨some 6, .assign (.const (.int .u64 0)), 22, "reckon.go:13", #[], none⟩, ⟨some 7, .assign (.const (.int .u64 0)), 22, "reckon.go:13", #[eC 0], none⟩] := rfl
theorem oast_1 : rast_1.toList = [⟨some 8, .move (.tmp 0), 22, "reckon.go:13", #[], none⟩, ⟨some 9, .move (.tmp 1), 22, "reckon.go:13", #[], none⟩, ⟨some 10, .move (.tmp 2), 22, "reckon.go:13", #[], none⟩, ⟨some 11, .call { callee := .value (.func 61), args := #[.tmp 8, .tmp 9, .tmp 10], argTypes := #[22, 22, 22] }, 87, "reckon.go:13", #[eD 0, eD 1, eD 2], none⟩, ⟨some 12, .extract (.tmp 11) 0, 22, "reckon.go:13", #[eD 3], none⟩, ⟨some 13, .extract (.tmp 11) 1, 22, "reckon.go:13", #[eD 3], none⟩, ⟨some 6, .assign (.tmp 12), 22, "reckon.go:13", #[eD 4, eC 3, eP 0, eP 1, eP 2, eP 3, eP 4, eP 5], none⟩, ⟨some 7, .assign (.tmp 13), 22, "reckon.go:13", #[eD 5, eC 6, eP 0, eP 1, eP 2, eP 3, eP 4, eP 5, eP 6], none⟩] := rfl
theorem osst_0 : rsst_0.toList = [⟨some 6, .assign (.const (.int .u64 0)), 22, "reckon.go:15", #[], none⟩, ⟨some 7, .assign (.const (.int .u64 0)), 22, "reckon.go:15", #[eC 0], none⟩] := rfl
theorem osst_1 : rsst_1.toList = [⟨some 8, .move (.tmp 0), 22, "reckon.go:15", #[], none⟩, ⟨some 9, .move (.tmp 1), 22, "reckon.go:15", #[], none⟩, ⟨some 10, .move (.tmp 2), 22, "reckon.go:15", #[], none⟩, ⟨some 11, .call { callee := .value (.func 62), args := #[.tmp 8, .tmp 9, .tmp 10], argTypes := #[22, 22, 22] }, 87, "reckon.go:15", #[eD 0, eD 1, eD 2], none⟩, ⟨some 12, .extract (.tmp 11) 0, 22, "reckon.go:15", #[eD 3], none⟩, ⟨some 13, .extract (.tmp 11) 1, 22, "reckon.go:15", #[eD 3], none⟩, ⟨some 6, .assign (.tmp 12), 22, "reckon.go:15", #[eD 4, eC 3, eP 0, eP 1, eP 2, eP 3, eP 4, eP 5], none⟩, ⟨some 7, .assign (.tmp 13), 22, "reckon.go:15", #[eD 5, eC 6, eP 0, eP 1, eP 2, eP 3, eP 4, eP 5, eP 6], none⟩] := rfl
theorem owof_0 : rwof_0.toList = [⟨some 2, .alloc 24, 0, "limb.go:30", #[], none⟩] := rfl
theorem owof_1 : rwof_1.toList = [⟨some 3, .move (.tmp 0), 22, "limb.go:30", #[], none⟩, ⟨some 4, .build 24 #[(0, .tmp 3)], 24, "limb.go:30", #[eD 0], none⟩, ⟨none, .store 24 (.tmp 2) (.tmp 4), 0, "limb.go:30", #[eD 1, eP 0, eP 1], none⟩] := rfl
theorem ahead_wmul_2a : aheadB E.P E.wr rwmul_2 1 4 = false := by kernel_rfl
noncomputable def apB1 (P : Program) (t ty : TypeId) (a : Value) : Option Value := apure P [a] { dst := none, op := .build t #[(0, .tmp 0)], type := ty, pos := "", after := #[], guard := none }
theorem apure_build1 {P : Program} {T : List Value} {t ty : TypeId} {a : Nat} {pos : String} {af : Array Edge} {gu : Option (Nat × Bool)} {dd : Option Tmp} :
    apure P T { dst := dd, op := .build t #[(0, .tmp a)], type := ty, pos := pos, after := af, guard := gu } = apB1 P t ty (nth T a) := by
  unfold apB1 apure
  simp [Op.operands, execOp, ev, nth_zero]
theorem abuildOf (x : Nat) : apB1 E.P 24 24 (U x) = some (wide fun j => if j = 0 then x else 0) := by kernel_rfl
section
variable {self : Self} {nf : Nat} {m m' : Mem} {F : Nat -> Value} {p q r s x y z c : Nat} {w v o l : Nat -> Nat}
theorem ast_body (hc : c ≤ 1) : abody E self nf 39 [U x, U y, U c] m = some (pair64 (addF x y c) (addG x y c), m) := by
  rw [abody_eqF (by kernel_rfl) Tryd.func39 bodyast (by kernel_rfl) (Nat.le_of_ble_eq_true rfl)]
  rw [show Tryd.f39.ntmps = 14 from rfl]
  have h : aext .add64 [U x, U y, U c] m = some (pair64 (addF x y c) (addG x y c), m) := (add64C x y c m).trans (if_pos hc)
  clear hc
  generalize addF x y c = a at *
  generalize addG x y c = b at *
  simp only [oast_0, oast_1, agd_none, acodeN, aopsN, astep, aop, ev, nth_lst, aput, setAt_lst, upd_at, init_zero, init_succ, init_nil, Nat.reduceLT, Nat.reduceEqDiff, Option.map_some, List.map_cons, List.map_nil, List.isEmpty_nil, bls, if_true, if_false, callAdd, extAdd, h, ex0, ex1, finish, ares, aresL, ares1, Tryd.f39]
  rfl
theorem sst_run {a b : Nat} (h : aext .sub64 [U x, U y, U c] m = some (pair64 a b, m)) : abody E self nf 41 [U x, U y, U c] m = some (pair64 a b, m) := by
  rw [abody_eqF (by kernel_rfl) Tryd.func41 bodysst (by kernel_rfl) (Nat.le_of_ble_eq_true rfl)]
  rw [show Tryd.f41.ntmps = 14 from rfl]
  simp only [osst_0, osst_1, agd_none, acodeN, aopsN, astep, aop, ev, nth_lst, aput, setAt_lst, upd_at, init_zero, init_succ, init_nil, Nat.reduceLT, Nat.reduceEqDiff, Option.map_some, List.map_cons, List.map_nil, List.isEmpty_nil, bls, if_true, if_false, callSub, extSub, h, ex0, ex1, finish, ares, aresL, ares1, Tryd.f41]
  rfl
theorem subS {M : Mem} {d bo : Nat} (hd : d = subF x y c) (hbo : bo = subG x y c) (hc : c ≤ 1) : aext .sub64 [U x, U y, U c] M = some (pair64 d bo, M) := by rw [hd, hbo]; exact (sub64C _ _ _ M).trans (if_pos hc)
theorem sst_body (hc : c ≤ 1) : abody E self nf 41 [U x, U y, U c] m = some (pair64 (subF x y c) (subG x y c), m) := sst_run (subS rfl rfl hc)
theorem wof_body : ∃ m', abody E self nf 29 [U x] m = some (wide fun j => if j = 0 then x else 0, m') := by
  rw [abody_eqF (by kernel_rfl) Tryd.func29 bodywof (by kernel_rfl) (Nat.le_of_ble_eq_true rfl)]
  rw [show Tryd.f29.ntmps = 5 from rfl]
  have ha := alloc24 m
  obtain ⟨M, hM⟩ : ∃ M, M = m ++ [Blk.row false 24 (rowOf fun _ => 0)] := ⟨_, rfl⟩
  rw [← hM] at ha
  have g : M[m.length]? = some (.row false 24 (rowOf fun _ => 0)) := by rw [hM, List.getElem?_append_right (Nat.le_refl _)]; simp
  have st := store24 (w := fun j => if j = 0 then x else 0) g (rowOf_length _)
  have ld : aload E.P 24 (.pointer (some ⟨m.length, 0, none⟩)) (M.set m.length (.row false 24 (rowOf fun j => if j = 0 then x else 0))) = some (wide fun j => if j = 0 then x else 0) := load24 (by rw [List.getElem?_set_self (lt_of_at g)])
  have hb2 := abuildOf x
  generalize (wide fun j => if j = 0 then x else 0) = V at *
  simp only [owof_0, owof_1, agd_none, acodeN, aopsN, astep, aop, ev, nth_lst, aput, setAt_lst, upd_at, init_zero, init_succ, init_nil, Nat.reduceLT, Nat.reduceEqDiff, Option.map_some, if_true, if_false, ha, apure_build1, hb2, st, ld, finish, ares, aresL, ares1, Tryd.f29]
  exact ⟨_, rfl⟩
theorem wmul_0 {m1 m2 m3 : Mem} (hb : abox E.P 24 (wide w) m = some (.pointer (some ⟨p, 0, none⟩), m1)) (hc : abox E.P 24 (wide v) m1 = some (.pointer (some ⟨q, 0, none⟩), m2)) (hd : aalloc E.P 24 m2 = some (.pointer (some ⟨r, 0, none⟩), m3)) (h0 : F 0 = wide w) (h1 : F 1 = wide v) :
    ∃ F', acodeN E self nf (.region 0 rwmul_0 false) (lst F 18) m = some (.normal, lst F' 18, m3) /\ F' 2 = .pointer (some ⟨p, 0, none⟩) /\ F' 3 = .pointer (some ⟨q, 0, none⟩) /\ F' 4 = .pointer (some ⟨r, 0, none⟩) := by
  simp only [owmul_0, agd_none, acodeN, aopsN, astep, aop, ev, nth_lst, aput, setAt_lst, upd_at, Nat.reduceLT, Nat.reduceEqDiff, if_true, if_false, h0, h1, hb, hc, hd]
  exact ⟨_, rfl, rfl, rfl, rfl⟩
theorem wmul_1 {m1 m2 m3 m4 : Mem} (h2 : F 2 = .pointer (some ⟨p, 0, none⟩)) (h3 : F 3 = .pointer (some ⟨q, 0, none⟩)) (ld : aload E.P 24 (.pointer (some ⟨p, 0, none⟩)) m = some (wide w)) (ld2 : aload E.P 24 (.pointer (some ⟨q, 0, none⟩)) m = some (wide v)) (hc : ∀ M, ainv E self 42 [wide w, wide v] M = some (.tuple ⟨[wide o, wide l]⟩, M)) (ha : aalloc E.P 24 m = some (.pointer (some ⟨x, 0, none⟩), m1)) (ha2 : aalloc E.P 24 m1 = some (.pointer (some ⟨y, 0, none⟩), m2)) (st : astore E.P 24 (.pointer (some ⟨x, 0, none⟩)) (wide o) m2 = some m3) (st2 : astore E.P 24 (.pointer (some ⟨y, 0, none⟩)) (wide l) m3 = some m4) :
    ∃ F', acodeN E self nf (.region 1 rwmul_1 false) (lst F 18) m = some (.normal, lst F' 18, m4) /\ F' 6 = .pointer (some ⟨x, 0, none⟩) /\ F' 7 = .pointer (some ⟨y, 0, none⟩) /\ ∀ j, j < 6 -> F' j = F j := by
  simp only [owmul_1, agd_none, List.cons_append, List.nil_append, acodeN, aopsN, astep, aop, ev, nth_lst, aput, setAt_lst, upd_at, Nat.reduceLT, Nat.reduceEqDiff, Option.map_some, List.map_cons, List.map_nil, List.isEmpty_nil, bls, if_true, if_false, h2, h3, ld, ld2, callPrd, hc, ha, ha2, st, st2, exW0, exW1]
  exact ⟨_, rfl, rfl, rfl, fun j h1 => by repeat rw [upd_ne (by omega)]⟩
theorem wmul_2 {m1 : Mem} {b : Bool} (hry : (r == y) = false) (h4 : F 4 = .pointer (some ⟨r, 0, none⟩)) (h6 : F 6 = .pointer (some ⟨x, 0, none⟩)) (h7 : F 7 = .pointer (some ⟨y, 0, none⟩)) (l1 : aload E.P 24 (.pointer (some ⟨x, 0, none⟩)) m = some (wide o)) (l1s : aload E.P 24 (.pointer (some ⟨x, 0, none⟩)) (m.map sealed) = some (wide o)) (l2 : aload E.P 24 (.pointer (some ⟨y, 0, none⟩)) m = some (wide l)) (l2s : aload E.P 24 (.pointer (some ⟨y, 0, none⟩)) (m.map sealed) = some (wide l)) (hb : ∀ i j, eqlVal E.P 24 i j (wide l) (wide fun _ => 0) = some (.bool b)) (st : astore E.P 24 (.pointer (some ⟨r, 0, none⟩)) (wide o) m = some m1) :
    ∃ F', acodeN E self nf (.region 2 rwmul_2 true) (lst F 18) m = some (.normal, lst F' 18, m1) /\ F' 4 = .pointer (some ⟨r, 0, none⟩) /\ F' 5 = .bool b := by
  have a2 := ahead_wmul_2a
  simp only [↓dwmul_2, ↓swmul_2, owmul_2, agd_none, acodeN, adrawT, cls, astep, aop, afloat, ev, nth_lst, aput, setAt_lst, upd_at, Nat.reduceLT, Nat.reduceEqDiff, Option.map_some, apure_eqlV, List.map_cons, List.map_nil, bls, if_true, if_false, List.length_map, h4, h6, h7, l1s, l2s, apure24, hb, st, laterOk, sparesB, liveB, loadAt, loadBlk, Nat.reduceAdd, Nat.zero_add, a2, List.filter_cons, List.filter_nil, List.append_nil, List.contains_cons, List.contains_nil, hry]
  exact ⟨_, rfl, by simp only [upd_at, Nat.reduceEqDiff, reduceIte, h4], rfl⟩
theorem two_more {m M : Mem} {n : Nat} (hl : M.length = n) (a b : Nat -> Nat) : ∃ m1 m2 m3 m4, aalloc E.P 24 M = some (.pointer (some ⟨n, 0, none⟩), m1) /\ aalloc E.P 24 m1 = some (.pointer (some ⟨n + 1, 0, none⟩), m2) /\ astore E.P 24 (.pointer (some ⟨n, 0, none⟩)) (wide a) m2 = some m3 /\ astore E.P 24 (.pointer (some ⟨n + 1, 0, none⟩)) (wide b) m3 = some m4 ∧
    m4[n]? = some (.row false 24 (rowOf a)) /\ m4[n + 1]? = some (.row false 24 (rowOf b)) /\ (∀ k, k < n -> m4[k]? = M[k]?) /\ m4.length = n + 2 := by
  have ha := alloc24 M
  have ha2 := alloc24 (M ++ [Blk.row false 24 (rowOf fun _ => 0)])
  rw [List.length_append, List.length_singleton, hl] at ha2
  rw [hl] at ha
  obtain ⟨N, hN⟩ : ∃ N, N = M ++ [Blk.row false 24 (rowOf fun _ => 0)] ++ [Blk.row false 24 (rowOf fun _ => 0)] := ⟨_, rfl⟩
  rw [← hN] at ha2
  have lN : N.length = n + 2 := by rw [hN]; simp [hl]
  have gx : N[n]? = some (.row false 24 (rowOf fun _ => 0)) := by rw [hN, List.getElem?_append_left (by simp [hl]), ← hl, List.getElem?_append_right (Nat.le_refl _)]; simp
  have gy : N[n + 1]? = some (.row false 24 (rowOf fun _ => 0)) := by rw [hN, List.getElem?_append_right (by simp [hl])]; simp [hl]
  have low : ∀ k, k < n -> N[k]? = M[k]? := fun k hk => by rw [hN, List.getElem?_append_left (by simp [hl]; omega), List.getElem?_append_left (by rw [hl]; exact hk)]
  have t1 := store24 (w := a) gx (rowOf_length _)
  have gy2 : (N.set n (.row false 24 (rowOf a)))[n + 1]? = some (.row false 24 (rowOf fun _ => 0)) := by rw [List.getElem?_set_ne (by omega)]; exact gy
  have t2 := store24 (w := b) gy2 (rowOf_length _)
  refine ⟨_, _, _, _, ha, ha2, t1, t2, ?_, ?_, fun k hk => ?_, by rw [List.length_set, List.length_set]; exact lN⟩
  . rw [List.getElem?_set_ne (by omega), List.getElem?_set_self (lt_of_at gx)]
  . rw [List.getElem?_set_self (lt_of_at gy2)]
  . rw [List.getElem?_set_ne (by omega), List.getElem?_set_ne (by omega)]; exact low k hk
theorem three_allocs (m : Mem) (w v : Nat -> Nat) : ∃ m1 m2 M, abox E.P 24 (wide w) m = some (.pointer (some ⟨m.length, 0, none⟩), m1) /\ abox E.P 24 (wide v) m1 = some (.pointer (some ⟨m.length + 1, 0, none⟩), m2) /\ aalloc E.P 24 m2 = some (.pointer (some ⟨m.length + 2, 0, none⟩), M) ∧
    M[m.length]? = some (.row false 24 (rowOf w)) /\ M[m.length + 1]? = some (.row false 24 (rowOf v)) /\ M[m.length + 2]? = some (.row false 24 (rowOf fun _ => 0)) /\ M.length = m.length + 3 := by
  obtain ⟨m1, m2, M, m4, hb, hc, hd, he, h4⟩ := four_allocs m w v
  have e := alloc24 M
  rw [he] at e
  obtain ⟨e1, e2⟩ : m.length + 3 = M.length /\ m4 = M ++ [Blk.row false 24 (rowOf fun _ => 0)] := by simpa using e
  have low : ∀ k, k < M.length -> M[k]? = m4[k]? := fun k hk => by rw [e2, List.getElem?_append_left hk]
  exact ⟨m1, m2, M, hb, hc, hd, (low _ (by omega)).trans h4.p, (low _ (by omega)).trans h4.q, (low _ (by omega)).trans h4.r, e1.symm⟩
theorem wmul_body {b : Bool} (hc9 : ∀ M, ainv E self 42 [wide w, wide v] M = some (.tuple ⟨[wide o, wide l]⟩, M)) (hb9 : ∀ i j, eqlVal E.P 24 i j (wide l) (wide fun _ => 0) = some (.bool b)) : ∃ m', abody E self nf 17 [wide w, wide v] m = some (.tuple ⟨[wide o, .bool b]⟩, m') := by
  rw [abody_eqF (by kernel_rfl) Tryd.func17 bodywmul (by kernel_rfl) (Nat.le_of_ble_eq_true rfl)]
  rw [show Tryd.f17.ntmps = 18 from rfl]
  obtain ⟨m1, m2, M, hb, hc, hd, gp, gq, gr, lM⟩ := three_allocs m w v
  obtain ⟨A, ra, a2, a3, a4⟩ := wmul_0 (self := self) (nf := nf) (F := init [wide w, wide v]) hb hc hd rfl rfl
  obtain ⟨n1, n2, n3, N, ha, ha2, s1, s2, nx, ny, low, lN⟩ := two_more (m := m) lM o l
  obtain ⟨B, rb, b6, b7, bk⟩ := wmul_1 (self := self) (nf := nf) a2 a3 (load24 gp) (load24 gq) hc9 ha ha2 s1 s2
  have nr := (low (m.length + 2) (by omega)).trans gr
  have st := store24 (w := o) nr (rowOf_length _)
  obtain ⟨C, rc, c4, c5⟩ := wmul_2 (self := self) (nf := nf) (ne_beq (show m.length + 2 ≠ m.length + 3 + 1 by omega)) ((bk 4 (by omega)).trans a4) b6 b7 (load24 nx) (load24s nx) (load24 ny) (load24s ny) hb9 st
  have ld2 : aload E.P 24 (.pointer (some ⟨m.length + 2, 0, none⟩)) (N.set (m.length + 2) (.row false 24 (rowOf o))) = some (wide o) := load24 (by rw [List.getElem?_set_self (lt_of_at nr)])
  refine ⟨N.set (m.length + 2) (.row false 24 (rowOf o)), ?_⟩
  generalize N.set (m.length + 2) (.row false 24 (rowOf o)) = M2 at *
  generalize Code.region 0 rwmul_0 false = C0 at *
  generalize Code.region 1 rwmul_1 false = C1 at *
  generalize Code.region 2 rwmul_2 true = C2 at *
  simp only [acodeN, ra, rb, rc, finish, ares, aresL, ares1, Tryd.f17, nth_lst, Nat.reduceLT, if_true, c4, c5, ld2, Option.map_some]
theorem prd_body (hms : CMs self) (hcu : CUs self) (hw : ∀ j, w j < 18446744073709551616) (hv : ∀ j, v j < 18446744073709551616) (hnf : 10 < nf) :
    ∃ R : Nat -> Nat, (∀ j, R j < 18446744073709551616) /\ vN R 16 = vN w 8 * vN v 8 /\ ∃ m', abody E self nf 42 [wide w, wide v] m = some (.tuple ⟨[wide (loW R 8), wide (hiW R 8)]⟩, m') := by
  rw [abody_eqF (by kernel_rfl) Tryd.func42 bodyprd (by kernel_rfl) (Nat.le_of_ble_eq_true rfl)]
  rw [show Tryd.f42.ntmps = 67 from rfl]
  obtain ⟨m1, m2, m3, M4, hb, hc, hd, he, h4⟩ := four_allocs m w v
  obtain ⟨A, ra, a2, a3, a4, a5⟩ := prd_0 (self := self) (nf := nf) (F := init [wide w, wide v]) hb hc hd he rfl rfl
  have ht := alloc16 M4
  rw [h4.len] at ht
  obtain ⟨M, hM⟩ : ∃ M, M = M4 ++ [Blk.row false 88 (rowK .u64 16 fun _ => 0)] := ⟨_, rfl⟩
  rw [← hM] at ht
  have low : ∀ k, k < m.length + 4 -> M[k]? = M4[k]? := fun k hk => by rw [hM, List.getElem?_append_left (by rw [h4.len]; exact hk)]
  have gp := (low _ (by omega)).trans h4.p
  have gq := (low _ (by omega)).trans h4.q
  have gr := (low _ (by omega)).trans h4.r
  have gs := (low _ (by omega)).trans h4.s
  have gt : M[m.length + 4]? = some (.row false 88 (rowK .u64 16 fun _ => 0)) := by rw [hM, ← h4.len, List.getElem?_append_right (Nat.le_refl _)]; simp
  clear hM
  obtain ⟨B, rb, b6, bk⟩ := prd_1 (self := self) (nf := nf) (F := A) ht
  obtain ⟨n, hun, han⟩ := hcu v
  obtain ⟨u, huu, hau⟩ := hcu w
  obtain ⟨C, rc, c7, ck⟩ := prd_2 (self := self) (nf := nf) (m := M) ((bk 3 (by omega)).trans a3) (load24 gq) han
  have kc : ∀ j, j < 6 -> C j = A j := fun j hj => (ck j (by omega)).trans (bk j hj)
  obtain ⟨D, rd, d15, d16, dk⟩ := prd_3 (self := self) (nf := nf) (m := M) ((kc 2 (by omega)).trans a2) (load24 gp) hau
  have kd : ∀ j, j < 6 -> D j = A j := fun j hj => (dk j (by omega)).trans (kc j hj)
  obtain ⟨G, R, m1', rl, hO, hR, hs, hG⟩ := prd_outl (self := self) (nf := nf) (m := M) (w := w) (v := v) hms ((kd 2 (by omega)).trans a2) ((kd 3 (by omega)).trans a3) ((dk 6 (by omega)).trans ((ck 6 (by omega)).trans b6)) ((dk 7 (by omega)).trans c7) d15 d16 huu.1 hun.1 (by omega) (by omega) gp gq gt hw hv hnf
  rw [← huu.num, ← hun.num] at hs
  have g4 := (hG 4 (by omega) (by omega) (by omega) (by omega)).trans ((kd 4 (by omega)).trans a4)
  have g5 := (hG 5 (by omega) (by omega) (by omega) (by omega)).trans ((kd 5 (by omega)).trans a5)
  have g6 := (hG 6 (by omega) (by omega) (by omega) (by omega)).trans ((dk 6 (by omega)).trans ((ck 6 (by omega)).trans b6))
  obtain ⟨H, rh, h50, hk⟩ := prd_14 (self := self) (nf := nf) (m := m1') (F := G)
  obtain ⟨I, m2', ri, ir, is, ik⟩ := prd_cutl (self := self) (nf := nf) (m := m1') ((hk 4 (by omega)).trans g4) ((hk 5 (by omega)).trans g5) ((hk 6 (by omega)).trans g6) h50 (by omega) (by omega) (by omega) ((hO.o _ (by omega)).trans gr) ((hO.o _ (by omega)).trans gs) hO.t hnf
  have s1 := store24 (w := loW R 8) ir (rowOf_length _)
  have g1 : (m2'.set (m.length + 2) (.row false 24 (rowOf (loW R 8))))[m.length + 3]? = some (.row false 24 (rowOf (hiW R 8))) := by rw [List.getElem?_set_ne (by omega)]; exact is
  have s2 := store24 (w := hiW R 8) g1 (rowOf_length _)
  obtain ⟨J, rj, j4, j5⟩ := prd_19 (self := self) (nf := nf) (m := m2') (ne_beq (show m.length + 2 ≠ m.length + 3 by omega)) ((ik 4 (by omega) (by omega)).trans ((hk 4 (by omega)).trans g4)) ((ik 5 (by omega) (by omega)).trans ((hk 5 (by omega)).trans g5)) (load24 ir) (load24s ir) (load24 is) (load24s is) s1 s2
  have l1 : aload E.P 24 (.pointer (some ⟨m.length + 2, 0, none⟩)) ((m2'.set (m.length + 2) (.row false 24 (rowOf (loW R 8)))).set (m.length + 3) (.row false 24 (rowOf (hiW R 8)))) = some (wide (loW R 8)) := load24 (by rw [List.getElem?_set_ne (by omega), List.getElem?_set_self (lt_of_at ir)])
  have l2 : aload E.P 24 (.pointer (some ⟨m.length + 3, 0, none⟩)) ((m2'.set (m.length + 2) (.row false 24 (rowOf (loW R 8)))).set (m.length + 3) (.row false 24 (rowOf (hiW R 8)))) = some (wide (hiW R 8)) := load24 (by rw [List.getElem?_set_self (lt_of_at g1)])
  refine ⟨R, hR, hs, (m2'.set (m.length + 2) (.row false 24 (rowOf (loW R 8)))).set (m.length + 3) (.row false 24 (rowOf (hiW R 8))), ?_⟩
  generalize (m2'.set (m.length + 2) (.row false 24 (rowOf (loW R 8)))).set (m.length + 3) (.row false 24 (rowOf (hiW R 8))) = M9 at *
  generalize loW R 8 = lo at *
  generalize hiW R 8 = hi at *
  clear hs hR hO hG hms hcu hw hv hau han huu hun
  generalize Code.region 0 rprd_0 false = C0 at *
  generalize Code.region 1 rprd_1 false = C1 at *
  generalize Code.region 2 rprd_2 false = C2 at *
  generalize Code.region 3 rprd_3 false = C3 at *
  generalize Code.region 14 rprd_14 false = C14 at *
  generalize Code.region 19 rprd_19 true = C19 at *
  simp only [acodeN, ra, rb, rc, rd, rl, rh, ri, rj, finish, ares, aresL, ares1, Tryd.f42, nth_lst, Nat.reduceLT, if_true, j4, j5, l1, l2, Option.map_some]
end
theorem prd_num {R : Nat -> Nat} {x y : Nat} (hR : ∀ j, R j < 18446744073709551616) (h : vN R 16 = x * y) : wide (loW R 8) = wd (x * y % W8) /\ wide (hiW R 8) = wd (x * y / W8) := by
  have h2 := vN_split R 8 8
  rw [show (8 + 8 : Nat) = 16 from rfl, h] at h2
  have hl := vN_lt hR 8
  change _ < W8 at hl
  change _ = _ + W8 * _ at h2
  have e1 : wide (loW R 8) = wide R := wide_ext fun j hj => by unfold loW; rw [if_pos hj]
  have e2 : wide (hiW R 8) = wide (fun j => R (8 + j)) := wide_ext fun j hj => by unfold hiW; rw [if_pos hj]
  rw [e1, e2, wide_num hR, wide_num (w := fun j => R (8 + j)) fun j => hR _, h2, Nat.add_mul_mod_self_left, Nat.mod_eq_of_lt hl, Nat.add_mul_div_left _ _ W8_pos, Nat.div_eq_of_lt hl, Nat.zero_add]
  exact ⟨rfl, rfl⟩
end Go.Am.Seat
namespace Go.Am
def val : List Nat -> Nat
  | [] => 0
  | x :: l => x + 256 * val l
def dig (n : Nat) : List Nat := if h : n = 0 then [] else (n % 256) :: dig (n / 256)
termination_by n
decreasing_by omega
theorem dig_zero : dig 0 = [] := by rw [dig]; simp
theorem dig_pos {n : Nat} (h : n ≠ 0) : dig n = (n % 256) :: dig (n / 256) := by rw [dig]; simp [h]
theorem val_dig (n : Nat) : val (dig n) = n := by
  induction n using Nat.strongRecOn with
  | ind n ih =>
    by_cases h : n = 0
    . subst h; rw [dig_zero]; rfl
    . rw [dig_pos h, val, ih (n / 256) (by omega)]
      omega
theorem dig_lt (n : Nat) : ∀ x ∈ dig n, x < 256 := by
  induction n using Nat.strongRecOn with
  | ind n ih =>
    by_cases h : n = 0
    . subst h; rw [dig_zero]; simp
    . rw [dig_pos h]
      intro x hx
      rcases List.mem_cons.1 hx with rfl | hx
      . omega
      . exact ih (n / 256) (by omega) x hx
theorem val_append (a b : List Nat) : val (a ++ b) = val a + 256 ^ a.length * val b := by
  induction a with
  | nil => simp [val]
  | cons x a ih => simp only [List.cons_append, val, ih, List.length_cons, Nat.pow_succ]; rw [Nat.mul_add, Nat.mul_comm (256 ^ a.length) 256, Nat.mul_assoc]; omega
theorem val_lt {l : List Nat} (h : ∀ x ∈ l, x < 256) : val l < 256 ^ l.length := by
  induction l with
  | nil => simp [val]
  | cons x l ih =>
    have h1 := h x (by simp)
    have h2 := ih fun y hy => h y (by simp [hy])
    simp only [val, List.length_cons, Nat.pow_succ]
    omega
theorem val_noughts : ∀ {l : List Nat}, (∀ x ∈ l, x = 0) -> val l = 0
  | [], _ => rfl
  | x :: l, h => by
    rw [val, h x (by simp), val_noughts fun y hy => h y (by simp [hy])]
theorem dig_val {l : List Nat} (h : ∀ x ∈ l, x < 256) (hl : l = [] ∨ ∃ x, 0 < x /\ l[l.length - 1]? = some x) : dig (val l) = l := by
  induction l with
  | nil => exact dig_zero
  | cons x l ih =>
    have hx := h x (by simp)
    have hpos : l = [] -> 0 < x := by
      intro hn
      subst hn
      rcases hl with hl | ⟨y, h1, h2⟩
      . cases hl
      . simp at h2; omega
    have ih' := ih (fun y hy => h y (by simp [hy])) (by
      by_cases hn : l = []
      . exact .inl hn
      . right
        rcases hl with hl | ⟨y, h1, h2⟩
        . cases hl
        . refine ⟨y, h1, ?_⟩
          have : 0 < l.length := List.length_pos_iff.2 hn
          rw [List.length_cons, show l.length + 1 - 1 = (l.length - 1) + 1 by omega, List.getElem?_cons_succ] at h2
          exact h2)
    have hv : val l ≠ 0 ∨ l = [] := by
      by_cases hn : l = []
      . exact .inr hn
      . left
        intro h0
        rw [h0, dig_zero] at ih'
        exact hn ih'.symm
    have hne : val (x :: l) ≠ 0 := by
      rw [val]
      rcases hv with hv | hv
      . omega
      . have := hpos hv; omega
    rw [dig_pos hne, val, show (x + 256 * val l) % 256 = x by omega, show (x + 256 * val l) / 256 = val l by omega, ih']
theorem dig_last (n : Nat) : dig n = [] ∨ ∃ x, 0 < x /\ (dig n)[(dig n).length - 1]? = some x := by
  induction n using Nat.strongRecOn with
  | ind n ih =>
    by_cases h : n = 0
    . subst h; left; exact dig_zero
    . right
      rw [dig_pos h]
      rcases ih (n / 256) (by omega) with h1 | ⟨x, h1, h2⟩
      . rw [h1]
        have h0 : n / 256 = 0 := by rw [← val_dig (n / 256), h1]; rfl
        exact ⟨n % 256, by omega, by simp⟩
      . refine ⟨x, h1, ?_⟩
        have : (dig (n / 256)).length ≠ 0 := by
          intro h0
          rw [List.eq_nil_of_length_eq_zero h0] at h2
          simp at h2
        rw [List.length_cons, show (dig (n / 256)).length + 1 - 1 = ((dig (n / 256)).length - 1) + 1 by omega, List.getElem?_cons_succ]
        exact h2
theorem dig_len_le {n k : Nat} (h : n < 256 ^ k) : (dig n).length ≤ k := by
  induction k generalizing n with
  | zero =>
    have : n = 0 := by simpa using h
    subst this
    rw [dig_zero]; simp
  | succ k ih =>
    by_cases h0 : n = 0
    . subst h0; rw [dig_zero]; simp
    . rw [dig_pos h0, List.length_cons]
      have := ih (n := n / 256) (by rw [Nat.pow_succ] at h; omega)
      omega
theorem lt_dig_len (n : Nat) : n < 256 ^ (dig n).length := by
  have := val_lt (dig_lt n)
  rw [val_dig] at this
  exact this
theorem dig_len_ge {n k : Nat} (h : 256 ^ k ≤ n) : k < (dig n).length := by
  have h1 := lt_dig_len n
  have h2 : 256 ^ k < 256 ^ (dig n).length := Nat.lt_of_le_of_lt h h1
  exact (Nat.pow_lt_pow_iff_right (by omega)).1 h2
theorem dig_inj {a b : Nat} (h : dig a = dig b) : a = b := by rw [← val_dig a, ← val_dig b, h]
theorem val_take {l : List Nat} (h : ∀ x ∈ l, x < 256) (k : Nat) : val (l.take k) = val l % 256 ^ k := by
  have h1 : val l = val (l.take k) + 256 ^ (l.take k).length * val (l.drop k) := by
    rw [← val_append, List.take_append_drop]
  have h2 := val_lt (l := l.take k) fun x hx => h x (List.mem_of_mem_take hx)
  by_cases hk : k ≤ l.length
  . rw [List.length_take, Nat.min_eq_left hk] at h1 h2
    rw [h1, Nat.add_mul_mod_self_left, Nat.mod_eq_of_lt h2]
  . rw [List.take_of_length_le (by omega)] at h2 ⊢
    rw [Nat.mod_eq_of_lt]
    exact Nat.lt_of_lt_of_le h2 (Nat.pow_le_pow_right (by omega) (by omega))
theorem val_drop {l : List Nat} (h : ∀ x ∈ l, x < 256) {k : Nat} (hk : k ≤ l.length) : val (l.drop k) = val l / 256 ^ k := by
  have h1 : val l = val (l.take k) + 256 ^ (l.take k).length * val (l.drop k) := by
    rw [← val_append, List.take_append_drop]
  have h2 := val_lt (l := l.take k) fun x hx => h x (List.mem_of_mem_take hx)
  rw [List.length_take, Nat.min_eq_left hk] at h1 h2
  rw [h1, Nat.add_mul_div_left _ _ (Nat.lt_of_le_of_lt (Nat.zero_le _) h2), Nat.div_eq_of_lt h2, Nat.zero_add]
theorem val_step {l : List Nat} {i x : Nat} (h : l[i]? = some x) : val (l.take (i + 1)) = val (l.take i) + 256 ^ i * x := by
  have hi : i < l.length := (List.getElem?_eq_some_iff.1 h).1
  rw [List.take_add_one, h, val_append, List.length_take, Nat.min_eq_left (by omega)]
  simp [val]
theorem val_same {l : List Nat} {i : Nat} (h : l.length ≤ i) : val (l.take (i + 1)) = val (l.take i) := by
  rw [List.take_of_length_le (by omega), List.take_of_length_le h]
theorem same_len : ∀ {a b : List Nat}, (∀ x ∈ a, x < 256) -> (∀ x ∈ b, x < 256) -> a.length = b.length -> val a = val b -> a = b
  | [], [], _, _, _, _ => rfl
  | x :: a, y :: b, ha, hb, hl, hv => by
    have h1 := ha x (by simp)
    have h2 := hb y (by simp)
    simp only [val] at hv
    have h3 : x = y := by omega
    have h4 : val a = val b := by omega
    rw [h3, same_len (fun z hz => ha z (by simp [hz])) (fun z hz => hb z (by simp [hz])) (by simpa using hl) h4]
end Go.Am
namespace Go.Am
noncomputable section
def PPost (D : List Deferred) (P : Program) (ρ : Ren) (m : Mem) (w : World) (pv : Value) (T1 : List Value) (m1 : Mem) (e : Exit) (a1 : Act) (w1 : World) : Prop :=
  ∃ pv' ρ1, e = .panic [{ v := pv', recovered := false }] /\ a1.defers = D /\ TR ρ1 T1 a1.tmps /\ VR ρ1 pv pv' /\ MR P ρ1 m1 w1 /\ Ext ρ m w ρ1 m1 w1
theorem PPost.after {D : List Deferred} {P : Program} {ρ ρ1 : Ren} {m m1 m2 : Mem} {w w1 w2 : World} {pv : Value} {T2 : List Value} {e : Exit} {a2 : Act} (hx : Ext ρ m w ρ1 m1 w1) (h : PPost D P ρ1 m1 w1 pv T2 m2 e a2 w2) : PPost D P ρ m w pv T2 m2 e a2 w2 := by
  obtain ⟨pv', ρ2, h1, h2, h3, h4, h5, h6⟩ := h
  exact ⟨pv', ρ2, h1, h2, h3, h4, h5, hx.trans h6⟩
end
end Go.Am
namespace Go.Am
noncomputable section
inductive PS where
  | none
  | live (pv : Value)
  | done
def PS.ok (ρ : Ren) : PS -> FrameMode -> Prop
  | .none, u => u = .returning
  | .live pv, u => ∃ pv', u = .panicking [{ v := pv', recovered := false }] /\ VR ρ pv pv'
  | .done, u => ∃ pv', u = .panicking [{ v := pv', recovered := true }]
def SPost (D : List Deferred) (c₀ : Frame) (cs : List Frame) (P : Program) (ρ : Ren) (m : Mem) (w : World) (T1 : List Value) (m1 : Mem) (s1 : PS) (a1 : Act) (cs1 : List Frame) (w1 : World) : Prop :=
  a1.defers = D /\ ∃ ρ1 u1, cs1 = { c₀ with mode := u1 } :: cs /\ s1.ok ρ1 u1 /\ TR ρ1 T1 a1.tmps /\ MR P ρ1 m1 w1 /\ Ext ρ m w ρ1 m1 w1
theorem SPost.after {D : List Deferred} {c₀ : Frame} {cs : List Frame} {P : Program} {ρ ρ1 : Ren} {m m1 m2 : Mem} {w w1 w2 : World} {T2 : List Value} {s2 : PS} {a2 : Act} {cs2 : List Frame} (hx : Ext ρ m w ρ1 m1 w1) (h : SPost D c₀ cs P ρ1 m1 w1 T2 m2 s2 a2 cs2 w2) : SPost D c₀ cs P ρ m w T2 m2 s2 a2 cs2 w2 := by
  obtain ⟨h1, ρ2, u2, h2, h3, h4, h5, h6⟩ := h
  exact ⟨h1, ρ2, u2, h2, h3, h4, h5, hx.trans h6⟩
def DefIs (P : Program) (ρ : Ren) (g : FuncId) (dargs : List Value) (d : Deferred) : Prop :=
  ∃ cap : Array Value, d.target = .fn (.func g) cap /\ TR ρ dargs (d.args ++ cap) /\ ∀ w : World, (invoke d.target d.args).run P w = .ok (.enter g (d.args ++ cap)) w
theorem DefIs.mono {P : Program} {ρ ρ' : Ren} (hl : ρ.le ρ') {g : FuncId} {dargs : List Value} {d : Deferred} (h : DefIs P ρ g dargs d) : DefIs P ρ' g dargs d := by
  obtain ⟨cap, h1, h2, h3⟩ := h
  exact ⟨cap, h1, h2.mono hl, h3⟩
end
end Go.Am
