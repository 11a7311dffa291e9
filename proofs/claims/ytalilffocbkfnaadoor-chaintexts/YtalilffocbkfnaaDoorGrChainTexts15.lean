/-
  Texts of my own, put together: BT6, BT7, BT8, CT1, CT2, CT3, CT4.
-/
import Derived.Test.YtalilffocbkfnaaDoorGrChainTexts14
import Derived.Test.YtalilffocbkfnaaDoorGrChainTexts11
/-
  Whole texts behind a door (own work).
-/
set_option linter.unusedSimpArgs false
set_option linter.unusedVariables false
namespace Go.Am.Seat
open Go.Proofs Go.Am
set_option maxRecDepth 100000

def plc9 (p o : Nat) : Value := .pointer (some ⟨p, o, none⟩)
theorem ap_old9 {m : Mem} {L : List Blk} {p : Nat} {x : Blk} (h : m[p]? = some x) : (ap m L)[p]? = some x := by
  unfold ap
  rw [List.getElem?_append_left (List.getElem?_eq_some_iff.1 h).1, h]
theorem aload_at9 {t : TypeId} {d : TypeDesc} (hd : E.P.underlying t = some d) (ha : aggD d = false) {m : Mem} {p o : Nat} {ro : Bool} {e : TypeId} {cs : List Value} (h : m[p]? = some (.row ro e cs)) : aload E.P t (plc9 p o) m = cs[o]? := by
  unfold aload plc9
  simp only [look_row h, hd, ha]

theorem acoll_ptr {M m0 : Mem} {e : TypeId} {s : ByteArray} : acoll M m0.length (adr m0 0 0) (ap m0 [.row false e [.string s]]) = some (.pointer (some ⟨M.length, 0, none⟩), M ++ [.row false e [.string s]]) := by
  have hnb : ¬ m0.length + 0 < m0.length := by omega
  have hm : (ap m0 [.row false e [.string s]])[m0.length + 0]? = some (.row false e [.string s]) := ap_get m0 _ 0
  unfold acoll
  rw [if_neg (by simp [lit2, lit1, lit0, adr])]
  have h1 : idsL m0.length (partsOf (adr m0 0 0)) [] = [m0.length + 0] := by
    show addIds (idOf m0.length (adr m0 0 0)) [] = [m0.length + 0]
    simp [idOf, adr, addIds]
  have h2 : closeIds m0.length (ap m0 [.row false e [.string s]]) 2 [m0.length + 0] = [m0.length + 0] := by
    have hi : ∀ acc, idsL m0.length [Value.string s] acc = acc := fun _ => rfl
    simp only [closeIds, List.foldl_cons, List.foldl_nil, hm, hi]
  simp only [h1, h2]
  rw [if_pos (by simp [nodupB])]
  have h3 : rid m0.length M.length [m0.length + 0] (m0.length + 0) = some M.length := by
    unfold rid
    rw [if_neg hnb]
    simp [List.idxOf?]
  have h5 : ren3 m0.length M.length [m0.length + 0] (adr m0 0 0) = some (.pointer (some ⟨M.length, 0, none⟩)) := by
    show ren1 m0.length M.length [m0.length + 0] (.pointer (some ⟨m0.length + 0, 0, none⟩)) = _
    simp only [ren1, h3]
  simp only [renB, hm, h5]
  rfl

theorem bxR (m : Mem) (L : List Blk) (l : List UInt8) : abox E.P 88 (.agg ⟨[tx l]⟩) (ap m L) = some (adr m L.length 0, ap m (L ++ [rdR l])) := abox_L (by kernel_rfl) rfl m L
theorem buildRd (l : List UInt8) : apB1s E.P 88 88 (tx l) = some (.agg ⟨[tx l]⟩) := by kernel_rfl
theorem ldF_rdR {l : List UInt8} : ldF 0 (some (rdR l)) = some (tx l) := rfl

section
variable {self sp : Self} {nf : Nat} {m M : Mem} {L : List Blk} {k : Nat} {l : List UInt8}
theorem prr_body : abody E self nf 32 [tx l] (ap m []) = some (adr m 0 0, ap m [rdR l]) := by
  rw [abody_eqF (by kernel_rfl) Tryd.func32 bodyprr (by kernel_rfl) (Nat.le_of_ble_eq_true rfl)]
  rw [show Tryd.f32.ntmps = 6 from rfl]
  simp only [eprr_0, eprr_1, lprr_0, lprr_1, agd_none, gdAt, gdV_bool, gdV_undef, Tryd.f32, List.append_eq, List.cons_append, List.nil_append, apure_call1, apure_call2, apure_call3, bft, btf, acodeN, List.getElem?_toArray, List.getElem?_cons_zero, List.getElem?_cons_succ, aopsN, adrawT, cls, astep, aop, afloat, ev, nth_lst, get_lst, aput, setAt_lst, upd_at, init_zero, init_succ, init_nil, Nat.reduceLT, Nat.reduceEqDiff, reduceIte, abuiltin, Option.map_some, Option.map_none, orElse_some, apure_add, List.map_cons, List.map_nil, List.all_cons, List.all_nil, lit2, lit1, lit0, List.isEmpty_nil, Bool.and_self, Bool.and_true, Bool.true_and, Bool.false_and, Bool.and_false, Bool.not_true, Bool.not_false, Bool.or_true, Bool.true_or, Bool.false_or, Bool.or_false, Bool.false_eq_true, if_true, if_false, List.length_map, beq_self_eq_true, und3, und4, und5, und9, eqlV9_int, neqV9_int, eqlV9_bool, neqV9_bool, eqlV9_str, neqV9_str, ↓aop_eqlV9, ↓aop_neqV9, ↓afloat_eqlV9, ↓afloat_neqV9, apure_eqlV9, apure_neqV9, eqlW, neqW, eqlI64, neqI64, aload_sealed, adU, adE, ldI', ldU', ldL', ldS_pol, ldS_bud, ldF_p0, ldF_p1, ldF_p2, ldF_b0, ldF_b1, ldF_b2, stI', stU', stT', stL, polLen, budLen, layP, layB, layB0, layB1, layB2, List.length_nil, List.length_cons, List.length_append, Nat.reduceAdd, Nat.reduceLeDiff, List.set_cons_zero, List.set_cons_succ, and_self, true_and, Nat.le_refl, apure_max, apure_min, maxV, minV, finish, ares, aresL, ares1_tmp, ares1_cell, aresC_adr, aextract, apure_build1s, buildRd, bxR]
theorem rmo_body (hk : L[k]? = some (rdR l)) : abody E self nf 34 [adr m k 0] ((ap m L).map sealed) = some (.bool !(l.length == 0), (ap m L).map sealed) := by
  rw [abody_eqF (by kernel_rfl) Tryd.func34 bodyrmo (by kernel_rfl) (Nat.le_of_ble_eq_true rfl)]
  rw [show Tryd.f34.ntmps = 8 from rfl]
  have h1 : neqV9 E.P 9 (.tmp 6) (.const (.string ⟨#[]⟩)) (tx l) (.string ⟨#[]⟩) = some (.bool !(l.length == 0)) := by
    unfold tx
    rw [neqV9_str, ByteArray.toList_eq, ByteArray.toList_eq]
    cases l <;> rfl
  simp only [ermo_0, ermo_1, lrmo_0, lrmo_1, agd_none, gdAt, gdV_bool, gdV_undef, Tryd.f34, List.append_eq, List.cons_append, List.nil_append, apure_call1, apure_call2, apure_call3, bft, btf, acodeN, List.getElem?_toArray, List.getElem?_cons_zero, List.getElem?_cons_succ, aopsN, adrawT, cls, astep, aop, afloat, ev, nth_lst, get_lst, aput, setAt_lst, upd_at, init_zero, init_succ, init_nil, Nat.reduceLT, Nat.reduceEqDiff, reduceIte, abuiltin, Option.map_some, Option.map_none, orElse_some, apure_add, List.map_cons, List.map_nil, List.all_cons, List.all_nil, lit2, lit1, lit0, List.isEmpty_nil, Bool.and_self, Bool.and_true, Bool.true_and, Bool.false_and, Bool.and_false, Bool.not_true, Bool.not_false, Bool.or_true, Bool.true_or, Bool.false_or, Bool.or_false, Bool.false_eq_true, if_true, if_false, List.length_map, beq_self_eq_true, und3, und4, und5, und9, eqlV9_int, neqV9_int, eqlV9_bool, neqV9_bool, eqlV9_str, neqV9_str, ↓aop_eqlV9, ↓aop_neqV9, ↓afloat_eqlV9, ↓afloat_neqV9, apure_eqlV9, apure_neqV9, eqlW, neqW, eqlI64, neqI64, aload_sealed, adU, adE, ldI', ldU', ldL', ldS_pol, ldS_bud, ldF_p0, ldF_p1, ldF_p2, ldF_b0, ldF_b1, ldF_b2, stI', stU', stT', stL, polLen, budLen, layP, layB, layB0, layB1, layB2, List.length_nil, List.length_cons, List.length_append, Nat.reduceAdd, Nat.reduceLeDiff, List.set_cons_zero, List.set_cons_succ, and_self, true_and, Nat.le_refl, apure_max, apure_min, maxV, minV, finish, ares, aresL, ares1_tmp, ares1_cell, aresC_adr, aextract, ↓astep_nilCheck, ncV_adr, faR, ldT', hk, ldF_rdR, h1]
end
section
variable {N : Nat} {m : Mem} {L : List Blk} {k : Nat} {l : List UInt8}
theorem read_call : ainv E (RQ (N + 1)) 32 [tx l] (ap m L) = some (adr m L.length 0, ap m (L ++ [rdR l])) := by
  have h := runQ_1 (prr_body (self := RQ N) (nf := N + 1) (m := ((ap m L).take E.G).map onlyTab) (l := l))
  rw [← ap_nil] at h
  have h' : RQ (N + 1) 32 [tx l] (((ap m L).take E.G).map onlyTab) = some (adr (((ap m L).take E.G).map onlyTab) 0 0, ap (((ap m L).take E.G).map onlyTab) [rdR l]) := h
  unfold ainv
  rw [if_pos (show [tx l].all lit2 = true from rfl), show E.fast 32 = none from rfl]
  simp only [h']
  have h2 := acoll_ptr (M := ap m L) (m0 := ((ap m L).take E.G).map onlyTab) (e := 88) (s := ⟨l.toArray⟩)
  rw [ap_len, ap_app] at h2
  exact h2
theorem more_call (hk : L[k]? = some (rdR l)) : ainv E (RQ (N + 1)) 34 [adr m k 0] (ap m L) = some (.bool !(l.length == 0), ap m L) := by
  have h : RQ (N + 1) 34 [adr m k 0] ((ap m L).map sealed) = some (.bool !(l.length == 0), (ap m L).map sealed) := runQ_1 (rmo_body hk)
  unfold ainv
  rw [if_neg (show ¬ [adr m k 0].all lit2 = true from Bool.false_ne_true), show E.wr 34 = false by kernel_rfl]
  simp only [Bool.false_eq_true, if_false, h]
  unfold acoll
  exact if_pos rfl
end
end Go.Am.Seat

/-
  Whole texts behind a door: what is done behind it (own work).
-/
set_option linter.unusedSimpArgs false
set_option linter.unusedVariables false
namespace Go.Am.Seat
open Go.Proofs Go.Am
set_option maxRecDepth 100000

theorem cbRead : callableB E.P 32 = true := by kernel_rfl
theorem cbMore : callableB E.P 34 = true := by kernel_rfl
section
variable {N : Nat} {M : Mem} {l r : List UInt8} {p q : Nat} {ro ro' : Bool} {e e' : TypeId} {a b : Nat} {c : Bool}
end
end Go.Am.Seat

/-
  A door, and what is deferred there (own work).
-/
set_option linter.unusedSimpArgs false
set_option linter.unusedVariables false
namespace Go.Am.Seat
open Go.Proofs Go.Am
set_option maxRecDepth 100000

theorem sealed_get {X : Mem} {p : Nat} {ro : Bool} {e : TypeId} {cs : List Value} (h : X[p]? = some (.row ro e cs)) : (X.map sealed)[p]? = some (.row true e cs) := by
  rw [List.getElem?_map, h]
  rfl
theorem ainv_seal {self : Self} {g : FuncId} {args : List Value} {X m' : Mem} {v : Value} (ha : args.all lit2 = false) (hw : E.wr g = false) (hv : lit2 v = true) (h : self g args (X.map sealed) = some (v, m')) : ainv E self g args X = some (v, X) := by
  unfold ainv
  rw [if_neg (by rw [ha]; exact Bool.false_ne_true), hw]
  simp only [Bool.false_eq_true, if_false, h]
  unfold acoll
  rw [if_pos hv]
theorem ainv_sealN {self : Self} {g : FuncId} {args : List Value} {X : Mem} (ha : args.all lit2 = false) (hw : E.wr g = false) (h : self g args (X.map sealed) = none) : ainv E self g args X = none := by
  unfold ainv
  rw [if_neg (by rw [ha]; exact Bool.false_ne_true), hw]
  simp only [Bool.false_eq_true, if_false, h]
theorem ainvP_seal {sp : Self} {g : FuncId} {args : List Value} {X m' : Mem} {v : Value} (ha : args.all lit2 = false) (hw : E.wr g = false) (hv : lit2 v = true) (h : sp g args (X.map sealed) = some (v, m')) : ainvP E sp g args X = some (v, X) := by
  unfold ainvP
  rw [if_neg (by rw [ha]; exact Bool.false_ne_true), hw]
  simp only [Bool.false_eq_true, if_false, h]
  unfold acoll
  rw [if_pos hv]

section
variable {N : Nat} {X : Mem} {l r : List UInt8} {p q : Nat} {ro ro' : Bool} {e e' : TypeId} {a b : Nat} {c : Bool}
end

def erC (e : Int) : List Value := [.int .i64 e]
section
variable (m : Mem) (L : List Blk) (k o : Nat) (e e' : Int)
theorem alE : aalloc E.P 26 (ap m L) = some (adr m L.length 0, ap m (L ++ [.row false 26 (erC 0)])) := aalloc_L (z := .int .i64 0) (by kernel_rfl) rfl rfl m L
theorem alRf : aalloc E.P 86 (ap m L) = some (adr m L.length 0, ap m (L ++ [.row false 86 (erC 0)])) := aalloc_L (z := .agg ⟨[.int .i64 0]⟩) (by kernel_rfl) rfl rfl m L
theorem ldE' : aload E.P 26 (adr m k o) (ap m L) = ldF o L[k]? := aload_F Tryd.underlying26 rfl m L k o
theorem ldF_e {ro : Bool} {t : TypeId} : ldF 0 (some (.row ro t (erC e))) = some (.int .i64 e) := rfl
theorem stE' : astore E.P 26 (adr m k o) (.int .i64 e) (ap m L) = stL 1 m L k o (erC e) := astore_L (by kernel_rfl) rfl m L k o
theorem stRf : astore E.P 86 (adr m k o) (.agg ⟨[.int .i64 e]⟩) (ap m L) = stL 1 m L k o (erC e) := astore_L (by kernel_rfl) rfl m L k o
theorem erLen : (erC e).length = 1 := rfl
theorem layE : lay (erC e) 0 (erC e') = erC e' := rfl
theorem faRf : afieldAddr E.P 86 (adr m k 0) 0 = some (adr m k 0) := by unfold adr; kernel_rfl
end
theorem apure_deferF {P : Program} {T : List Value} {d : Option Tmp} {t : Nat} {ts : Array TypeId} {ty : TypeId} {pos : String} {af : Array Edge} {g : Option (Nat × Bool)} (h : lit2 (nth T t) = false) : apure P T { dst := d, op := .defer { callee := .value (.tmp t), args := #[], argTypes := ts }, type := ty, pos := pos, after := af, guard := g } = none := by
  unfold apure
  rw [if_neg]
  simp [Op.operands, Call.operands, ev, h]
noncomputable def apTA (P : Program) (s t ty : TypeId) (c : Bool) (a : Value) : Option Value := apure P [a] { dst := none, op := .typeAssert (.tmp 0) s t c, type := ty, pos := "", after := #[], guard := none }
theorem apure_ta {P : Program} {T : List Value} {s t ty : TypeId} {c : Bool} {a : Nat} {pos : String} {af : Array Edge} {gu : Option (Nat × Bool)} {dd : Option Tmp} :
    apure P T { dst := dd, op := .typeAssert (.tmp a) s t c, type := ty, pos := pos, after := af, guard := gu } = apTA P s t ty c (nth T a) := by
  unfold apTA apure
  simp [Op.operands, execOp, ev, nth_zero, nth_succ]
theorem taRef (ty : TypeId) (e : Int) : apTA E.P 20 86 ty true (ref9 e) = some (.tuple ⟨[.agg ⟨[.int .i64 e]⟩, .bool true]⟩) := by kernel_rfl
theorem litF1 {f : Fn} {x : Value} : lit2 (.func f ⟨[]⟩ ⟨[x]⟩) = false := rfl

section
variable {self sp : Self} {nf : Nat} {m X : Mem} {B : Blk} {l : List UInt8} {e : Int}
end
end Go.Am.Seat

/-
  The chain's entries as values; their equality (own work).
-/
set_option linter.unusedSimpArgs false
set_option linter.unusedVariables false
namespace Go.Am.Seat
open Go.Proofs Go.Am
set_option maxRecDepth 100000

def entC (a b c : Int) (s t : List UInt8) : List Value := [.int .u64 a, .int .u64 b, .int .i64 c, tx s, tx t]
def entV (a b c : Int) (s t : List UInt8) : Value := .agg ⟨entC a b c s t⟩
section
variable (m : Mem) (L : List Blk) (k o : Nat) (a b c x : Int) (s t u v : List UInt8) (a' b' c' : Int)
theorem bxEn : abox E.P 24 (entV a b c s t) (ap m L) = some (adr m L.length 0, ap m (L ++ [.row false 24 (entC a b c s t)])) := abox_L (by kernel_rfl) rfl m L
theorem alEn : aalloc E.P 24 (ap m L) = some (adr m L.length 0, ap m (L ++ [.row false 24 (entC 0 0 0 [] [])])) := aalloc_L (z := entV 0 0 0 [] []) (by kernel_rfl) rfl rfl m L
theorem ldEn : aload E.P 24 (adr m k 0) (ap m L) = ldS 5 L[k]? := aload_S Tryd.underlying24 rfl (by kernel_rfl) m L k
theorem stEn : astore E.P 24 (adr m k 0) (entV a b c s t) (ap m L) = stL 5 m L k 0 (entC a b c s t) := astore_L (by kernel_rfl) rfl m L k 0
theorem faEn0 : afieldAddr E.P 24 (adr m k 0) 0 = some (adr m k 0) := by unfold adr; kernel_rfl
theorem faEn1 : afieldAddr E.P 24 (adr m k 0) 1 = some (adr m k 1) := by unfold adr; kernel_rfl
theorem faEn2 : afieldAddr E.P 24 (adr m k 0) 2 = some (adr m k 2) := by unfold adr; kernel_rfl
theorem faEn3 : afieldAddr E.P 24 (adr m k 0) 3 = some (adr m k 3) := by unfold adr; kernel_rfl
theorem faEn4 : afieldAddr E.P 24 (adr m k 0) 4 = some (adr m k 4) := by unfold adr; kernel_rfl
theorem bxRn : abox E.P 31 (entV a b c s t) (ap m L) = some (adr m L.length 0, ap m (L ++ [.row false 31 (entC a b c s t)])) := abox_L (by kernel_rfl) rfl m L
theorem alRn : aalloc E.P 31 (ap m L) = some (adr m L.length 0, ap m (L ++ [.row false 31 (entC 0 0 0 [] [])])) := aalloc_L (z := entV 0 0 0 [] []) (by kernel_rfl) rfl rfl m L
theorem ldRn : aload E.P 31 (adr m k 0) (ap m L) = ldS 5 L[k]? := aload_S Tryd.underlying31 rfl (by kernel_rfl) m L k
theorem stRn : astore E.P 31 (adr m k 0) (entV a b c s t) (ap m L) = stL 5 m L k 0 (entC a b c s t) := astore_L (by kernel_rfl) rfl m L k 0
theorem faRn0 : afieldAddr E.P 31 (adr m k 0) 0 = some (adr m k 0) := by unfold adr; kernel_rfl
theorem faRn1 : afieldAddr E.P 31 (adr m k 0) 1 = some (adr m k 1) := by unfold adr; kernel_rfl
theorem faRn2 : afieldAddr E.P 31 (adr m k 0) 2 = some (adr m k 2) := by unfold adr; kernel_rfl
theorem faRn3 : afieldAddr E.P 31 (adr m k 0) 3 = some (adr m k 3) := by unfold adr; kernel_rfl
theorem faRn4 : afieldAddr E.P 31 (adr m k 0) 4 = some (adr m k 4) := by unfold adr; kernel_rfl
theorem ldS_en {ro : Bool} {e : TypeId} : ldS 5 (some (.row ro e (entC a b c s t))) = some (entV a b c s t) := rfl
theorem ldF_n0 {ro : Bool} {e : TypeId} : ldF 0 (some (.row ro e (entC a b c s t))) = some (.int .u64 a) := rfl
theorem ldF_n1 {ro : Bool} {e : TypeId} : ldF 1 (some (.row ro e (entC a b c s t))) = some (.int .u64 b) := rfl
theorem ldF_n2 {ro : Bool} {e : TypeId} : ldF 2 (some (.row ro e (entC a b c s t))) = some (.int .i64 c) := rfl
theorem ldF_n3 {ro : Bool} {e : TypeId} : ldF 3 (some (.row ro e (entC a b c s t))) = some (tx s) := rfl
theorem ldF_n4 {ro : Bool} {e : TypeId} : ldF 4 (some (.row ro e (entC a b c s t))) = some (tx t) := rfl
theorem enLen : (entC a b c s t).length = 5 := rfl
theorem layN : lay (entC a b c s t) 0 (entC a' b' c' u v) = entC a' b' c' u v := rfl
theorem layN0 : lay (entC a b c s t) 0 [.int .u64 x] = entC x b c s t := rfl
theorem layN1 : lay (entC a b c s t) 1 [.int .u64 x] = entC a x c s t := rfl
theorem layN2 : lay (entC a b c s t) 2 [.int .i64 x] = entC a b x s t := rfl
theorem layN3 : lay (entC a b c s t) 3 [tx u] = entC a b c u t := rfl
theorem layN4 : lay (entC a b c s t) 4 [tx u] = entC a b c s u := rfl
theorem stTx : astore E.P 9 (adr m k o) (tx u) (ap m L) = stL 1 m L k o [tx u] := astore_L (by kernel_rfl) rfl m L k o
end

theorem pv_eqStr {d : Nat} {t : TypeId} (h : E.P.underlying t = some .string) (a b : List UInt8) : pv E.P (Op.equalIn (d + 1) t (tx a) (tx b)) = some (decide (a = b)) := by
  unfold Op.equalIn tx
  rw [pv_bind (pv_undB h)]
  simp only
  show some ((⟨a.toArray⟩ : ByteArray) == ⟨b.toArray⟩) = _
  have e1 : ((⟨a.toArray⟩ : ByteArray) == ⟨b.toArray⟩) = (a.toArray == b.toArray) := rfl
  rw [e1]
  congr 1
  rw [Bool.eq_iff_iff, decide_eq_true_eq, beq_iff_eq]
  constructor
  · intro h; have := congrArg Array.toList h; simpa using this
  · rintro rfl; rfl
end Go.Am.Seat

/-
  A part behind its length; an entry's reading (own work).
-/
set_option linter.unusedSimpArgs false
set_option linter.unusedVariables false
namespace Go.Am.Seat
open Go.Proofs Go.Am
set_option maxRecDepth 100000

theorem cbCo : callableB E.P 37 = true := by kernel_rfl
theorem wrCo : E.wr 37 = true := by kernel_rfl
theorem cbCck : callableB E.P 17 = true := by kernel_rfl
theorem cv64i {n : Nat} (h : n < 65536) : aconv E.P 22 3 (.int .u64 ((n : Nat) : Int)) = some (.int .i64 ((n : Nat) : Int)) := by
  have h1 : aconv E.P 22 3 (.int .u64 ((n : Nat) : Int)) = some (.int .i64 (wrapF .i64 ((n : Nat) : Int))) := by kernel_rfl
  rw [h1]
  congr 2
  simp only [wrapF]
  omega
theorem cv8i {n : Nat} (h : n < 256) : aconv E.P 5 3 (.int .u8 ((n : Nat) : Int)) = some (.int .i64 ((n : Nat) : Int)) := by
  have h1 : aconv E.P 5 3 (.int .u8 ((n : Nat) : Int)) = some (.int .i64 (wrapF .i64 ((n : Nat) : Int))) := by kernel_rfl
  rw [h1]
  congr 2
  simp only [wrapF]
  omega

section
variable {self sp : Self} {nf : Nat} {m M1 M2 : Mem} {L : List Blk} {k : Nat} {p q : List UInt8} {e : Int}
theorem cco_ok (hp : p.length = 2) (hT : ainv E self 45 [adr m k 0, .int .i64 2] (ap m L) = some (tx p, M1)) (hN : ∀ M, ainv E self 44 [tx p] M = some (.int .u64 (nb p : Nat), M)) (hT2 : ainv E self 45 [adr m k 0, .int .i64 (nb p : Nat)] M1 = some (tx q, M2)) :
    abody E self nf 37 [adr m k 0] (ap m L) = some (tx q, M2) := by
  rw [abody_eqF (by kernel_rfl) Tryd.func37 bodycco (by kernel_rfl) (Nat.le_of_ble_eq_true rfl)]
  rw [show Tryd.f37.ntmps = 9 from rfl]
  have hc := cv64i (n := nb p) (by have := nb_lt p; rw [hp] at this; omega)
  simp only [ecco_0, ecco_1, lcco_0, lcco_1, agd_none, gdAt, gdV_bool, gdV_undef, Tryd.f37, List.append_eq, List.cons_append, List.nil_append, apure_call1, apure_call2, apure_call3, bft, btf, acodeN, List.getElem?_toArray, List.getElem?_cons_zero, List.getElem?_cons_succ, aopsN, adrawT, cls, astep, aop, afloat, ev, nth_lst, get_lst, aput, setAt_lst, upd_at, init_zero, init_succ, init_nil, Nat.reduceLT, Nat.reduceEqDiff, reduceIte, abuiltin, Option.map_some, Option.map_none, orElse_some, apure_add, List.map_cons, List.map_nil, List.all_cons, List.all_nil, lit2, lit1, lit0, List.isEmpty_nil, Bool.and_self, Bool.and_true, Bool.true_and, Bool.false_and, Bool.and_false, Bool.not_true, Bool.not_false, Bool.or_true, Bool.true_or, Bool.false_or, Bool.or_false, Bool.false_eq_true, if_true, if_false, List.length_map, beq_self_eq_true, und3, und4, und5, und9, eqlV9_int, neqV9_int, eqlV9_bool, neqV9_bool, eqlV9_str, neqV9_str, ↓aop_eqlV9, ↓aop_neqV9, ↓afloat_eqlV9, ↓afloat_neqV9, apure_eqlV9, apure_neqV9, eqlW, neqW, eqlI64, neqI64, aload_sealed, adU, adE, ldI', ldU', ldL', ldS_pol, ldS_bud, ldF_p0, ldF_p1, ldF_p2, ldF_b0, ldF_b1, ldF_b2, stI', stU', stT', stL, polLen, budLen, layP, layB, layB0, layB1, layB2, List.length_nil, List.length_cons, List.length_append, Nat.reduceAdd, Nat.reduceLeDiff, List.set_cons_zero, List.set_cons_succ, and_self, true_and, Nat.le_refl, apure_max, apure_min, maxV, minV, finish, ares, aresL, ares1_tmp, ares1_cell, aresC_adr, aextract, cbTk, cbNu, hT, hN, hc, hT2]
theorem cco_no1 (hT : ainv E self 45 [adr m k 0, .int .i64 2] (ap m L) = none) : abody E self nf 37 [adr m k 0] (ap m L) = none := by
  rw [abody_eqF (by kernel_rfl) Tryd.func37 bodycco (by kernel_rfl) (Nat.le_of_ble_eq_true rfl)]
  rw [show Tryd.f37.ntmps = 9 from rfl]
  simp only [ecco_0, ecco_1, lcco_0, lcco_1, agd_none, gdAt, gdV_bool, gdV_undef, Tryd.f37, List.append_eq, List.cons_append, List.nil_append, apure_call1, apure_call2, apure_call3, bft, btf, acodeN, List.getElem?_toArray, List.getElem?_cons_zero, List.getElem?_cons_succ, aopsN, adrawT, cls, astep, aop, afloat, ev, nth_lst, get_lst, aput, setAt_lst, upd_at, init_zero, init_succ, init_nil, Nat.reduceLT, Nat.reduceEqDiff, reduceIte, abuiltin, Option.map_some, Option.map_none, orElse_some, apure_add, List.map_cons, List.map_nil, List.all_cons, List.all_nil, lit2, lit1, lit0, List.isEmpty_nil, Bool.and_self, Bool.and_true, Bool.true_and, Bool.false_and, Bool.and_false, Bool.not_true, Bool.not_false, Bool.or_true, Bool.true_or, Bool.false_or, Bool.or_false, Bool.false_eq_true, if_true, if_false, List.length_map, beq_self_eq_true, und3, und4, und5, und9, eqlV9_int, neqV9_int, eqlV9_bool, neqV9_bool, eqlV9_str, neqV9_str, ↓aop_eqlV9, ↓aop_neqV9, ↓afloat_eqlV9, ↓afloat_neqV9, apure_eqlV9, apure_neqV9, eqlW, neqW, eqlI64, neqI64, aload_sealed, adU, adE, ldI', ldU', ldL', ldS_pol, ldS_bud, ldF_p0, ldF_p1, ldF_p2, ldF_b0, ldF_b1, ldF_b2, stI', stU', stT', stL, polLen, budLen, layP, layB, layB0, layB1, layB2, List.length_nil, List.length_cons, List.length_append, Nat.reduceAdd, Nat.reduceLeDiff, List.set_cons_zero, List.set_cons_succ, and_self, true_and, Nat.le_refl, apure_max, apure_min, maxV, minV, finish, ares, aresL, ares1_tmp, ares1_cell, aresC_adr, aextract, cbTk, hT]
theorem cco_pan1 (hT : ainv E self 45 [adr m k 0, .int .i64 2] (ap m L) = none) (hP : ainvP E sp 45 [adr m k 0, .int .i64 2] (ap m L) = some (ref9 e, M1)) : abodyP E self sp nf 37 [adr m k 0] (ap m L) = some (ref9 e, M1) := by
  rw [abodyP_eqF (by kernel_rfl) Tryd.func37 bodycco (by kernel_rfl) (Nat.le_of_ble_eq_true rfl)]
  rw [show Tryd.f37.ntmps = 9 from rfl]
  simp only [ecco_0, ecco_1, lcco_0, lcco_1, agd_none, gdAt, gdV_bool, gdV_undef, Tryd.f37, List.append_eq, List.cons_append, List.nil_append, apure_call1, apure_call2, apure_call3, bft, btf, acodeN, List.getElem?_toArray, List.getElem?_cons_zero, List.getElem?_cons_succ, aopsN, adrawT, cls, astep, aop, afloat, ev, nth_lst, get_lst, aput, setAt_lst, upd_at, init_zero, init_succ, init_nil, Nat.reduceLT, Nat.reduceEqDiff, reduceIte, abuiltin, Option.map_some, Option.map_none, orElse_some, apure_add, List.map_cons, List.map_nil, List.all_cons, List.all_nil, lit2, lit1, lit0, List.isEmpty_nil, Bool.and_self, Bool.and_true, Bool.true_and, Bool.false_and, Bool.and_false, Bool.not_true, Bool.not_false, Bool.or_true, Bool.true_or, Bool.false_or, Bool.or_false, Bool.false_eq_true, if_true, if_false, List.length_map, beq_self_eq_true, und3, und4, und5, und9, eqlV9_int, neqV9_int, eqlV9_bool, neqV9_bool, eqlV9_str, neqV9_str, ↓aop_eqlV9, ↓aop_neqV9, ↓afloat_eqlV9, ↓afloat_neqV9, apure_eqlV9, apure_neqV9, eqlW, neqW, eqlI64, neqI64, aload_sealed, adU, adE, ldI', ldU', ldL', ldS_pol, ldS_bud, ldF_p0, ldF_p1, ldF_p2, ldF_b0, ldF_b1, ldF_b2, stI', stU', stT', stL, polLen, budLen, layP, layB, layB0, layB1, layB2, List.length_nil, List.length_cons, List.length_append, Nat.reduceAdd, Nat.reduceLeDiff, List.set_cons_zero, List.set_cons_succ, and_self, true_and, Nat.le_refl, apure_max, apure_min, maxV, minV, finish, ares, aresL, ares1_tmp, ares1_cell, aresC_adr, aextract, cbTk, hT, acodePN, aopsPN, apan, hP, finishP]
theorem cco_no2 (hp : p.length = 2) (hT : ainv E self 45 [adr m k 0, .int .i64 2] (ap m L) = some (tx p, M1)) (hN : ∀ M, ainv E self 44 [tx p] M = some (.int .u64 (nb p : Nat), M)) (hT2 : ainv E self 45 [adr m k 0, .int .i64 (nb p : Nat)] M1 = none) :
    abody E self nf 37 [adr m k 0] (ap m L) = none := by
  rw [abody_eqF (by kernel_rfl) Tryd.func37 bodycco (by kernel_rfl) (Nat.le_of_ble_eq_true rfl)]
  rw [show Tryd.f37.ntmps = 9 from rfl]
  have hc := cv64i (n := nb p) (by have := nb_lt p; rw [hp] at this; omega)
  simp only [ecco_0, ecco_1, lcco_0, lcco_1, agd_none, gdAt, gdV_bool, gdV_undef, Tryd.f37, List.append_eq, List.cons_append, List.nil_append, apure_call1, apure_call2, apure_call3, bft, btf, acodeN, List.getElem?_toArray, List.getElem?_cons_zero, List.getElem?_cons_succ, aopsN, adrawT, cls, astep, aop, afloat, ev, nth_lst, get_lst, aput, setAt_lst, upd_at, init_zero, init_succ, init_nil, Nat.reduceLT, Nat.reduceEqDiff, reduceIte, abuiltin, Option.map_some, Option.map_none, orElse_some, apure_add, List.map_cons, List.map_nil, List.all_cons, List.all_nil, lit2, lit1, lit0, List.isEmpty_nil, Bool.and_self, Bool.and_true, Bool.true_and, Bool.false_and, Bool.and_false, Bool.not_true, Bool.not_false, Bool.or_true, Bool.true_or, Bool.false_or, Bool.or_false, Bool.false_eq_true, if_true, if_false, List.length_map, beq_self_eq_true, und3, und4, und5, und9, eqlV9_int, neqV9_int, eqlV9_bool, neqV9_bool, eqlV9_str, neqV9_str, ↓aop_eqlV9, ↓aop_neqV9, ↓afloat_eqlV9, ↓afloat_neqV9, apure_eqlV9, apure_neqV9, eqlW, neqW, eqlI64, neqI64, aload_sealed, adU, adE, ldI', ldU', ldL', ldS_pol, ldS_bud, ldF_p0, ldF_p1, ldF_p2, ldF_b0, ldF_b1, ldF_b2, stI', stU', stT', stL, polLen, budLen, layP, layB, layB0, layB1, layB2, List.length_nil, List.length_cons, List.length_append, Nat.reduceAdd, Nat.reduceLeDiff, List.set_cons_zero, List.set_cons_succ, and_self, true_and, Nat.le_refl, apure_max, apure_min, maxV, minV, finish, ares, aresL, ares1_tmp, ares1_cell, aresC_adr, aextract, cbTk, cbNu, hT, hN, hc, hT2]
theorem cco_pan2 (hp : p.length = 2) (hT : ainv E self 45 [adr m k 0, .int .i64 2] (ap m L) = some (tx p, M1)) (hN : ∀ M, ainv E self 44 [tx p] M = some (.int .u64 (nb p : Nat), M)) (hT2 : ainv E self 45 [adr m k 0, .int .i64 (nb p : Nat)] M1 = none) (hP : ainvP E sp 45 [adr m k 0, .int .i64 (nb p : Nat)] M1 = some (ref9 e, M2)) :
    abodyP E self sp nf 37 [adr m k 0] (ap m L) = some (ref9 e, M2) := by
  rw [abodyP_eqF (by kernel_rfl) Tryd.func37 bodycco (by kernel_rfl) (Nat.le_of_ble_eq_true rfl)]
  rw [show Tryd.f37.ntmps = 9 from rfl]
  have hc := cv64i (n := nb p) (by have := nb_lt p; rw [hp] at this; omega)
  simp only [ecco_0, ecco_1, lcco_0, lcco_1, agd_none, gdAt, gdV_bool, gdV_undef, Tryd.f37, List.append_eq, List.cons_append, List.nil_append, apure_call1, apure_call2, apure_call3, bft, btf, acodeN, List.getElem?_toArray, List.getElem?_cons_zero, List.getElem?_cons_succ, aopsN, adrawT, cls, astep, aop, afloat, ev, nth_lst, get_lst, aput, setAt_lst, upd_at, init_zero, init_succ, init_nil, Nat.reduceLT, Nat.reduceEqDiff, reduceIte, abuiltin, Option.map_some, Option.map_none, orElse_some, apure_add, List.map_cons, List.map_nil, List.all_cons, List.all_nil, lit2, lit1, lit0, List.isEmpty_nil, Bool.and_self, Bool.and_true, Bool.true_and, Bool.false_and, Bool.and_false, Bool.not_true, Bool.not_false, Bool.or_true, Bool.true_or, Bool.false_or, Bool.or_false, Bool.false_eq_true, if_true, if_false, List.length_map, beq_self_eq_true, und3, und4, und5, und9, eqlV9_int, neqV9_int, eqlV9_bool, neqV9_bool, eqlV9_str, neqV9_str, ↓aop_eqlV9, ↓aop_neqV9, ↓afloat_eqlV9, ↓afloat_neqV9, apure_eqlV9, apure_neqV9, eqlW, neqW, eqlI64, neqI64, aload_sealed, adU, adE, ldI', ldU', ldL', ldS_pol, ldS_bud, ldF_p0, ldF_p1, ldF_p2, ldF_b0, ldF_b1, ldF_b2, stI', stU', stT', stL, polLen, budLen, layP, layB, layB0, layB1, layB2, List.length_nil, List.length_cons, List.length_append, Nat.reduceAdd, Nat.reduceLeDiff, List.set_cons_zero, List.set_cons_succ, and_self, true_and, Nat.le_refl, apure_max, apure_min, maxV, minV, finish, ares, aresL, ares1_tmp, ares1_cell, aresC_adr, aextract, cbTk, cbNu, hT, hN, hc, hT2, acodePN, aopsPN, apan, hP, finishP]
end

/-- A part behind its length, and what stands behind that. -/
def cnt9 (l : List UInt8) : Option (List UInt8 × List UInt8) :=
  if 2 ≤ l.length ∧ nb (l.take 2) ≤ l.length - 2 then some ((l.drop 2).take (nb (l.take 2)), (l.drop 2).drop (nb (l.take 2))) else none

section
variable {N : Nat} {m : Mem} {L : List Blk} {k : Nat} {l p r : List UInt8}
theorem co_ok (hN : 8 ≤ N) (hk : L[k]? = some (rdR l)) (h : cnt9 l = some (p, r)) : ainv E (RQ (N + 3)) 37 [adr m k 0] (ap m L) = some (tx p, ap m (L.set k (rdR r))) := by
  unfold cnt9 at h
  split at h
  · rename_i hc
    cases h
    have hlt := (List.getElem?_eq_some_iff.1 hk).1
    rw [ainv_w rfl wrCo]
    have h1 := tk_ok (N := N) (m := m) (n := 2) hk hc.1
    have h2 := tk_ok (N := N) (m := m) (L := L.set k (rdR (l.drop 2))) (k := k) (l := l.drop 2) (n := nb (l.take 2)) (List.getElem?_set_self hlt) (by rw [List.length_drop]; exact hc.2)
    rw [List.set_set] at h2
    have hp : (l.take 2).length = 2 := by rw [List.length_take]; omega
    exact runQ_1 (cco_ok hp h1 (fun M => num_call (by omega) (by omega) M) h2)
  · cases h
theorem co_no (hN : 8 ≤ N) (hk : L[k]? = some (rdR l)) (h : cnt9 l = none) : ainv E (RQ (N + 3)) 37 [adr m k 0] (ap m L) = none ∧ ∃ M', ainvP E (RP (N + 3)) 37 [adr m k 0] (ap m L) = some (ref9 4, M') := by
  have hlt := (List.getElem?_eq_some_iff.1 hk).1
  rw [ainv_w rfl wrCo, ainvP_w rfl wrCo]
  by_cases h2 : 2 ≤ l.length
  · have hc : ¬ nb (l.take 2) ≤ l.length - 2 := fun hc => by unfold cnt9 at h; rw [if_pos ⟨h2, hc⟩] at h; cases h
    have hp : (l.take 2).length = 2 := by rw [List.length_take]; omega
    have h1 := tk_ok (N := N) (m := m) (n := 2) hk h2
    have h3 := tk_no (N := N) (m := m) (L := L.set k (rdR (l.drop 2))) (k := k) (l := l.drop 2) (n := nb (l.take 2)) (List.getElem?_set_self hlt) (by rw [List.length_drop]; omega)
    have h4 := tk_pan (N := N) (m := m) (L := L.set k (rdR (l.drop 2))) (k := k) (l := l.drop 2) (n := nb (l.take 2)) (List.getElem?_set_self hlt) (by rw [List.length_drop]; omega)
    exact ⟨runQ_no (cco_no2 hp h1 (fun M => num_call (by omega) (by omega) M) h3) (abodyD_none Tryd.func37 bodycco (by kernel_rfl)), _, runQ_2 (cco_pan2 hp h1 (fun M => num_call (by omega) (by omega) M) h3 h4)⟩
  · have h3 := tk_no (N := N) (m := m) (n := 2) hk (by omega)
    have h4 := tk_pan (N := N) (m := m) (n := 2) hk (by omega)
    exact ⟨runQ_no (cco_no1 h3) (abodyD_none Tryd.func37 bodycco (by kernel_rfl)), _, runQ_2 (cco_pan1 h3 h4)⟩
end
end Go.Am.Seat

/-
  An entry's reading: whether it may be, and where it ends too soon (own work).
-/
set_option linter.unusedSimpArgs false
set_option linter.unusedVariables false
namespace Go.Am.Seat
open Go.Proofs Go.Am
set_option maxRecDepth 100000

/-- May an entry be? -/
def ckE (c : Int) (s t : List UInt8) : Int := if decide (c < 1) || decide (c > 11) then 11 else if decide (((s.length : Nat) : Int) > 64) || decide (((t.length : Nat) : Int) > 255) then 5 else 0
noncomputable def apB5s (P : Program) (t ty : TypeId) (a b c d e : Value) : Option Value := apure P [a, b, c, d, e] { dst := none, op := .build t #[(0, .tmp 0), (1, .tmp 1), (2, .tmp 2), (3, .tmp 3), (4, .tmp 4)], type := ty, pos := "", after := #[], guard := none }
theorem apure_build5s {P : Program} {T : List Value} {t ty : TypeId} {a b c d e : Nat} {pos : String} {af : Array Edge} {gu : Option (Nat × Bool)} {dd : Option Tmp} :
    apure P T { dst := dd, op := .build t #[(0, .tmp a), (1, .tmp b), (2, .tmp c), (3, .tmp d), (4, .tmp e)], type := ty, pos := pos, after := af, guard := gu } = apB5s P t ty (nth T a) (nth T b) (nth T c) (nth T d) (nth T e) := by
  unfold apB5s apure
  simp [Op.operands, execOp, ev, nth_zero, nth_succ]
theorem buildEn (a b c : Int) (s t : List UInt8) : apB5s E.P 24 24 (.int .u64 a) (.int .u64 b) (.int .i64 c) (tx s) (tx t) = some (entV a b c s t) := by kernel_rfl

section
variable {self : Self} {nf : Nat} {m : Mem} {a b c : Int} {s t : List UInt8}
theorem cck_body : ∃ m', abody E self nf 17 [entV a b c s t] (ap m []) = some (.int .i64 (ckE c s t), m') := by
  rw [abody_eqF (by kernel_rfl) Tryd.func17 bodycck (by kernel_rfl) (Nat.le_of_ble_eq_true rfl)]
  rw [show Tryd.f17.ntmps = 21 from rfl]
  unfold ckE
  generalize h1 : decide (c < 1) = d1
  generalize h2 : decide (c > 11) = d2
  generalize h3 : decide (((s.length : Nat) : Int) > 64) = d3
  generalize h4 : decide (((t.length : Nat) : Int) > 255) = d4
  cases d1 with
  | true => simp only [ecck_0, ecck_1, ecck_2, ecck_3, ecck_4, ecck_5, lcck_0, lcck_1, lcck_2, lcck_3, lcck_4, lcck_5, gcck_1_3, gcck_3_4, agd_none, gdAt, gdV_bool, gdV_undef, Tryd.f17, List.append_eq, List.cons_append, List.nil_append, apure_call1, apure_call2, apure_call3, bft, btf, acodeN, List.getElem?_toArray, List.getElem?_cons_zero, List.getElem?_cons_succ, aopsN, adrawT, cls, astep, aop, afloat, ev, nth_lst, get_lst, aput, setAt_lst, upd_at, init_zero, init_succ, init_nil, Nat.reduceLT, Nat.reduceEqDiff, reduceIte, abuiltin, Option.map_some, Option.map_none, orElse_some, apure_add, List.map_cons, List.map_nil, List.all_cons, List.all_nil, lit2, lit1, lit0, List.isEmpty_nil, Bool.and_self, Bool.and_true, Bool.true_and, Bool.false_and, Bool.and_false, Bool.not_true, Bool.not_false, Bool.or_true, Bool.true_or, Bool.false_or, Bool.or_false, Bool.false_eq_true, if_true, if_false, List.length_map, beq_self_eq_true, und3, und4, und5, und9, eqlV9_int, neqV9_int, eqlV9_bool, neqV9_bool, eqlV9_str, neqV9_str, ↓aop_eqlV9, ↓aop_neqV9, ↓afloat_eqlV9, ↓afloat_neqV9, apure_eqlV9, apure_neqV9, eqlW, neqW, eqlI64, neqI64, aload_sealed, adU, adE, ldI', ldU', ldL', ldS_pol, ldS_bud, ldF_p0, ldF_p1, ldF_p2, ldF_b0, ldF_b1, ldF_b2, stI', stU', stT', stL, polLen, budLen, layP, layB, layB0, layB1, layB2, List.length_nil, List.length_cons, List.length_append, Nat.reduceAdd, Nat.reduceLeDiff, List.set_cons_zero, List.set_cons_succ, and_self, true_and, Nat.le_refl, apure_max, apure_min, maxV, minV, finish, ares, aresL, ares1_tmp, ares1_cell, aresC_adr, aextract, bxEn, alEn, ldEn, stEn, faEn0, faEn1, faEn2, faEn3, faEn4, bxRn, alRn, ldRn, stRn, faRn0, faRn1, faRn2, faRn3, faRn4, ldS_en, ldF_n0, ldF_n1, ldF_n2, ldF_n3, ldF_n4, enLen, layN, layN0, layN1, layN2, layN3, layN4, stTx, ldT', alenT, lssI, gtrI, h1, h2, h3, h4]; exact ⟨_, rfl⟩
  | false =>
    cases d2 with
    | true => simp only [ecck_0, ecck_1, ecck_2, ecck_3, ecck_4, ecck_5, lcck_0, lcck_1, lcck_2, lcck_3, lcck_4, lcck_5, gcck_1_3, gcck_3_4, agd_none, gdAt, gdV_bool, gdV_undef, Tryd.f17, List.append_eq, List.cons_append, List.nil_append, apure_call1, apure_call2, apure_call3, bft, btf, acodeN, List.getElem?_toArray, List.getElem?_cons_zero, List.getElem?_cons_succ, aopsN, adrawT, cls, astep, aop, afloat, ev, nth_lst, get_lst, aput, setAt_lst, upd_at, init_zero, init_succ, init_nil, Nat.reduceLT, Nat.reduceEqDiff, reduceIte, abuiltin, Option.map_some, Option.map_none, orElse_some, apure_add, List.map_cons, List.map_nil, List.all_cons, List.all_nil, lit2, lit1, lit0, List.isEmpty_nil, Bool.and_self, Bool.and_true, Bool.true_and, Bool.false_and, Bool.and_false, Bool.not_true, Bool.not_false, Bool.or_true, Bool.true_or, Bool.false_or, Bool.or_false, Bool.false_eq_true, if_true, if_false, List.length_map, beq_self_eq_true, und3, und4, und5, und9, eqlV9_int, neqV9_int, eqlV9_bool, neqV9_bool, eqlV9_str, neqV9_str, ↓aop_eqlV9, ↓aop_neqV9, ↓afloat_eqlV9, ↓afloat_neqV9, apure_eqlV9, apure_neqV9, eqlW, neqW, eqlI64, neqI64, aload_sealed, adU, adE, ldI', ldU', ldL', ldS_pol, ldS_bud, ldF_p0, ldF_p1, ldF_p2, ldF_b0, ldF_b1, ldF_b2, stI', stU', stT', stL, polLen, budLen, layP, layB, layB0, layB1, layB2, List.length_nil, List.length_cons, List.length_append, Nat.reduceAdd, Nat.reduceLeDiff, List.set_cons_zero, List.set_cons_succ, and_self, true_and, Nat.le_refl, apure_max, apure_min, maxV, minV, finish, ares, aresL, ares1_tmp, ares1_cell, aresC_adr, aextract, bxEn, alEn, ldEn, stEn, faEn0, faEn1, faEn2, faEn3, faEn4, bxRn, alRn, ldRn, stRn, faRn0, faRn1, faRn2, faRn3, faRn4, ldS_en, ldF_n0, ldF_n1, ldF_n2, ldF_n3, ldF_n4, enLen, layN, layN0, layN1, layN2, layN3, layN4, stTx, ldT', alenT, lssI, gtrI, h1, h2, h3, h4]; exact ⟨_, rfl⟩
    | false =>
      cases d3 with
      | true => simp only [ecck_0, ecck_1, ecck_2, ecck_3, ecck_4, ecck_5, lcck_0, lcck_1, lcck_2, lcck_3, lcck_4, lcck_5, gcck_1_3, gcck_3_4, agd_none, gdAt, gdV_bool, gdV_undef, Tryd.f17, List.append_eq, List.cons_append, List.nil_append, apure_call1, apure_call2, apure_call3, bft, btf, acodeN, List.getElem?_toArray, List.getElem?_cons_zero, List.getElem?_cons_succ, aopsN, adrawT, cls, astep, aop, afloat, ev, nth_lst, get_lst, aput, setAt_lst, upd_at, init_zero, init_succ, init_nil, Nat.reduceLT, Nat.reduceEqDiff, reduceIte, abuiltin, Option.map_some, Option.map_none, orElse_some, apure_add, List.map_cons, List.map_nil, List.all_cons, List.all_nil, lit2, lit1, lit0, List.isEmpty_nil, Bool.and_self, Bool.and_true, Bool.true_and, Bool.false_and, Bool.and_false, Bool.not_true, Bool.not_false, Bool.or_true, Bool.true_or, Bool.false_or, Bool.or_false, Bool.false_eq_true, if_true, if_false, List.length_map, beq_self_eq_true, und3, und4, und5, und9, eqlV9_int, neqV9_int, eqlV9_bool, neqV9_bool, eqlV9_str, neqV9_str, ↓aop_eqlV9, ↓aop_neqV9, ↓afloat_eqlV9, ↓afloat_neqV9, apure_eqlV9, apure_neqV9, eqlW, neqW, eqlI64, neqI64, aload_sealed, adU, adE, ldI', ldU', ldL', ldS_pol, ldS_bud, ldF_p0, ldF_p1, ldF_p2, ldF_b0, ldF_b1, ldF_b2, stI', stU', stT', stL, polLen, budLen, layP, layB, layB0, layB1, layB2, List.length_nil, List.length_cons, List.length_append, Nat.reduceAdd, Nat.reduceLeDiff, List.set_cons_zero, List.set_cons_succ, and_self, true_and, Nat.le_refl, apure_max, apure_min, maxV, minV, finish, ares, aresL, ares1_tmp, ares1_cell, aresC_adr, aextract, bxEn, alEn, ldEn, stEn, faEn0, faEn1, faEn2, faEn3, faEn4, bxRn, alRn, ldRn, stRn, faRn0, faRn1, faRn2, faRn3, faRn4, ldS_en, ldF_n0, ldF_n1, ldF_n2, ldF_n3, ldF_n4, enLen, layN, layN0, layN1, layN2, layN3, layN4, stTx, ldT', alenT, lssI, gtrI, h1, h2, h3, h4]; exact ⟨_, rfl⟩
      | false => cases d4 <;> (simp only [ecck_0, ecck_1, ecck_2, ecck_3, ecck_4, ecck_5, lcck_0, lcck_1, lcck_2, lcck_3, lcck_4, lcck_5, gcck_1_3, gcck_3_4, agd_none, gdAt, gdV_bool, gdV_undef, Tryd.f17, List.append_eq, List.cons_append, List.nil_append, apure_call1, apure_call2, apure_call3, bft, btf, acodeN, List.getElem?_toArray, List.getElem?_cons_zero, List.getElem?_cons_succ, aopsN, adrawT, cls, astep, aop, afloat, ev, nth_lst, get_lst, aput, setAt_lst, upd_at, init_zero, init_succ, init_nil, Nat.reduceLT, Nat.reduceEqDiff, reduceIte, abuiltin, Option.map_some, Option.map_none, orElse_some, apure_add, List.map_cons, List.map_nil, List.all_cons, List.all_nil, lit2, lit1, lit0, List.isEmpty_nil, Bool.and_self, Bool.and_true, Bool.true_and, Bool.false_and, Bool.and_false, Bool.not_true, Bool.not_false, Bool.or_true, Bool.true_or, Bool.false_or, Bool.or_false, Bool.false_eq_true, if_true, if_false, List.length_map, beq_self_eq_true, und3, und4, und5, und9, eqlV9_int, neqV9_int, eqlV9_bool, neqV9_bool, eqlV9_str, neqV9_str, ↓aop_eqlV9, ↓aop_neqV9, ↓afloat_eqlV9, ↓afloat_neqV9, apure_eqlV9, apure_neqV9, eqlW, neqW, eqlI64, neqI64, aload_sealed, adU, adE, ldI', ldU', ldL', ldS_pol, ldS_bud, ldF_p0, ldF_p1, ldF_p2, ldF_b0, ldF_b1, ldF_b2, stI', stU', stT', stL, polLen, budLen, layP, layB, layB0, layB1, layB2, List.length_nil, List.length_cons, List.length_append, Nat.reduceAdd, Nat.reduceLeDiff, List.set_cons_zero, List.set_cons_succ, and_self, true_and, Nat.le_refl, apure_max, apure_min, maxV, minV, finish, ares, aresL, ares1_tmp, ares1_cell, aresC_adr, aextract, bxEn, alEn, ldEn, stEn, faEn0, faEn1, faEn2, faEn3, faEn4, bxRn, alRn, ldRn, stRn, faRn0, faRn1, faRn2, faRn3, faRn4, ldS_en, ldF_n0, ldF_n1, ldF_n2, ldF_n3, ldF_n4, enLen, layN, layN0, layN1, layN2, layN3, layN4, stTx, ldT', alenT, lssI, gtrI, h1, h2, h3, h4]; exact ⟨_, rfl⟩)
end
theorem ck_call {N : Nat} {a b c : Int} {s t : List UInt8} : AnsB (RQ (N + 1)) 17 [entV a b c s t] (.int .i64 (ckE c s t)) := ans9 rfl rfl rfl fun m => cck_body

section
variable {N : Nat} {m : Mem} {b0 : Blk} {l l3 l4 p q r s t : List UInt8} {x : UInt8}
theorem crd_a_no (hN : 8 ≤ N) (hl : l.length < 8) : abody E (RQ (N + 5)) (N + 6) 23 [adr m 1 0] (ap m [b0, rdR l]) = none := by
  rw [abody_eqF (by kernel_rfl) Tryd.func23 bodycrd (by kernel_rfl) (Nat.le_of_ble_eq_true rfl)]
  rw [show Tryd.f23.ntmps = 21 from rfl]
  obtain ⟨h1, h1p⟩ := ei_no (N := N + 2) (m := m) (L := [b0, rdR l, .row false 24 (entC 0 0 0 [] [])]) (k := 1) hl rfl
  generalize RQ (N + 5) = slf at *
  generalize RP (N + 5) = slp at *
  try simp only [List.set_cons_succ, List.set_cons_zero] at *
  simp only [ecrd_0, ecrd_1, ecrd_2, ecrd_3, lcrd_0, lcrd_1, lcrd_2, lcrd_3, agd_none, gdAt, gdV_bool, gdV_undef, Tryd.f23, List.append_eq, List.cons_append, List.nil_append, apure_call1, apure_call2, apure_call3, bft, btf, acodeN, List.getElem?_toArray, List.getElem?_cons_zero, List.getElem?_cons_succ, aopsN, adrawT, cls, astep, aop, afloat, ev, nth_lst, get_lst, aput, setAt_lst, upd_at, init_zero, init_succ, init_nil, Nat.reduceLT, Nat.reduceEqDiff, reduceIte, abuiltin, Option.map_some, Option.map_none, orElse_some, apure_add, List.map_cons, List.map_nil, List.all_cons, List.all_nil, lit2, lit1, lit0, List.isEmpty_nil, Bool.and_self, Bool.and_true, Bool.true_and, Bool.false_and, Bool.and_false, Bool.not_true, Bool.not_false, Bool.or_true, Bool.true_or, Bool.false_or, Bool.or_false, Bool.false_eq_true, if_true, if_false, List.length_map, beq_self_eq_true, und3, und4, und5, und9, eqlV9_int, neqV9_int, eqlV9_bool, neqV9_bool, eqlV9_str, neqV9_str, ↓aop_eqlV9, ↓aop_neqV9, ↓afloat_eqlV9, ↓afloat_neqV9, apure_eqlV9, apure_neqV9, eqlW, neqW, eqlI64, neqI64, aload_sealed, adU, adE, ldI', ldU', ldL', ldS_pol, ldS_bud, ldF_p0, ldF_p1, ldF_p2, ldF_b0, ldF_b1, ldF_b2, stI', stU', stT', stL, polLen, budLen, layP, layB, layB0, layB1, layB2, List.length_nil, List.length_cons, List.length_append, Nat.reduceAdd, Nat.reduceLeDiff, List.set_cons_zero, List.set_cons_succ, and_self, true_and, Nat.le_refl, apure_max, apure_min, maxV, minV, finish, ares, aresL, ares1_tmp, ares1_cell, aresC_adr, aextract, bxEn, alEn, ldEn, stEn, faEn0, faEn1, faEn2, faEn3, faEn4, bxRn, alRn, ldRn, stRn, faRn0, faRn1, faRn2, faRn3, faRn4, ldS_en, ldF_n0, ldF_n1, ldF_n2, ldF_n3, ldF_n4, enLen, layN, layN0, layN1, layN2, layN3, layN4, stTx, ldT', cbEi, cbBy, cbCo, cbCck, cbHld, apure_build5s, buildEn, h1, h1p]
theorem crd_a_pan (hN : 8 ≤ N) (hl : l.length < 8) : ∃ m', abodyP E (RQ (N + 5)) (RP (N + 5)) (N + 6) 23 [adr m 1 0] (ap m [b0, rdR l]) = some (ref9 4, m') := by
  rw [abodyP_eqF (by kernel_rfl) Tryd.func23 bodycrd (by kernel_rfl) (Nat.le_of_ble_eq_true rfl)]
  rw [show Tryd.f23.ntmps = 21 from rfl]
  obtain ⟨h1, h1p⟩ := ei_no (N := N + 2) (m := m) (L := [b0, rdR l, .row false 24 (entC 0 0 0 [] [])]) (k := 1) hl rfl
  generalize RQ (N + 5) = slf at *
  generalize RP (N + 5) = slp at *
  try simp only [List.set_cons_succ, List.set_cons_zero] at *
  simp only [ecrd_0, ecrd_1, ecrd_2, ecrd_3, lcrd_0, lcrd_1, lcrd_2, lcrd_3, agd_none, gdAt, gdV_bool, gdV_undef, Tryd.f23, List.append_eq, List.cons_append, List.nil_append, apure_call1, apure_call2, apure_call3, bft, btf, acodeN, List.getElem?_toArray, List.getElem?_cons_zero, List.getElem?_cons_succ, aopsN, adrawT, cls, astep, aop, afloat, ev, nth_lst, get_lst, aput, setAt_lst, upd_at, init_zero, init_succ, init_nil, Nat.reduceLT, Nat.reduceEqDiff, reduceIte, abuiltin, Option.map_some, Option.map_none, orElse_some, apure_add, List.map_cons, List.map_nil, List.all_cons, List.all_nil, lit2, lit1, lit0, List.isEmpty_nil, Bool.and_self, Bool.and_true, Bool.true_and, Bool.false_and, Bool.and_false, Bool.not_true, Bool.not_false, Bool.or_true, Bool.true_or, Bool.false_or, Bool.or_false, Bool.false_eq_true, if_true, if_false, List.length_map, beq_self_eq_true, und3, und4, und5, und9, eqlV9_int, neqV9_int, eqlV9_bool, neqV9_bool, eqlV9_str, neqV9_str, ↓aop_eqlV9, ↓aop_neqV9, ↓afloat_eqlV9, ↓afloat_neqV9, apure_eqlV9, apure_neqV9, eqlW, neqW, eqlI64, neqI64, aload_sealed, adU, adE, ldI', ldU', ldL', ldS_pol, ldS_bud, ldF_p0, ldF_p1, ldF_p2, ldF_b0, ldF_b1, ldF_b2, stI', stU', stT', stL, polLen, budLen, layP, layB, layB0, layB1, layB2, List.length_nil, List.length_cons, List.length_append, Nat.reduceAdd, Nat.reduceLeDiff, List.set_cons_zero, List.set_cons_succ, and_self, true_and, Nat.le_refl, apure_max, apure_min, maxV, minV, finish, ares, aresL, ares1_tmp, ares1_cell, aresC_adr, aextract, bxEn, alEn, ldEn, stEn, faEn0, faEn1, faEn2, faEn3, faEn4, bxRn, alRn, ldRn, stRn, faRn0, faRn1, faRn2, faRn3, faRn4, ldS_en, ldF_n0, ldF_n1, ldF_n2, ldF_n3, ldF_n4, enLen, layN, layN0, layN1, layN2, layN3, layN4, stTx, ldT', cbEi, cbBy, cbCo, cbCck, cbHld, apure_build5s, buildEn, h1, h1p, acodePN, aopsPN, apan, finishP]
  exact ⟨_, rfl⟩
theorem crd_b_no (hN : 8 ≤ N) (hp : p.length = 8) (hl : l.length < 8) : abody E (RQ (N + 5)) (N + 6) 23 [adr m 1 0] (ap m [b0, rdR (p ++ l)]) = none := by
  rw [abody_eqF (by kernel_rfl) Tryd.func23 bodycrd (by kernel_rfl) (Nat.le_of_ble_eq_true rfl)]
  rw [show Tryd.f23.ntmps = 21 from rfl]
  have h1 := ei_ok (N := N + 2) (m := m) (L := [b0, rdR (p ++ l), .row false 24 (entC 0 0 0 [] [])]) (k := 1) hp rfl (by omega)
  obtain ⟨h2, h2p⟩ := ei_no (N := N + 2) (m := m) (L := [b0, rdR l, .row false 24 (entC 0 0 0 [] [])]) (k := 1) hl rfl
  generalize RQ (N + 5) = slf at *
  generalize RP (N + 5) = slp at *
  try simp only [List.set_cons_succ, List.set_cons_zero] at *
  simp only [ecrd_0, ecrd_1, ecrd_2, ecrd_3, lcrd_0, lcrd_1, lcrd_2, lcrd_3, agd_none, gdAt, gdV_bool, gdV_undef, Tryd.f23, List.append_eq, List.cons_append, List.nil_append, apure_call1, apure_call2, apure_call3, bft, btf, acodeN, List.getElem?_toArray, List.getElem?_cons_zero, List.getElem?_cons_succ, aopsN, adrawT, cls, astep, aop, afloat, ev, nth_lst, get_lst, aput, setAt_lst, upd_at, init_zero, init_succ, init_nil, Nat.reduceLT, Nat.reduceEqDiff, reduceIte, abuiltin, Option.map_some, Option.map_none, orElse_some, apure_add, List.map_cons, List.map_nil, List.all_cons, List.all_nil, lit2, lit1, lit0, List.isEmpty_nil, Bool.and_self, Bool.and_true, Bool.true_and, Bool.false_and, Bool.and_false, Bool.not_true, Bool.not_false, Bool.or_true, Bool.true_or, Bool.false_or, Bool.or_false, Bool.false_eq_true, if_true, if_false, List.length_map, beq_self_eq_true, und3, und4, und5, und9, eqlV9_int, neqV9_int, eqlV9_bool, neqV9_bool, eqlV9_str, neqV9_str, ↓aop_eqlV9, ↓aop_neqV9, ↓afloat_eqlV9, ↓afloat_neqV9, apure_eqlV9, apure_neqV9, eqlW, neqW, eqlI64, neqI64, aload_sealed, adU, adE, ldI', ldU', ldL', ldS_pol, ldS_bud, ldF_p0, ldF_p1, ldF_p2, ldF_b0, ldF_b1, ldF_b2, stI', stU', stT', stL, polLen, budLen, layP, layB, layB0, layB1, layB2, List.length_nil, List.length_cons, List.length_append, Nat.reduceAdd, Nat.reduceLeDiff, List.set_cons_zero, List.set_cons_succ, and_self, true_and, Nat.le_refl, apure_max, apure_min, maxV, minV, finish, ares, aresL, ares1_tmp, ares1_cell, aresC_adr, aextract, bxEn, alEn, ldEn, stEn, faEn0, faEn1, faEn2, faEn3, faEn4, bxRn, alRn, ldRn, stRn, faRn0, faRn1, faRn2, faRn3, faRn4, ldS_en, ldF_n0, ldF_n1, ldF_n2, ldF_n3, ldF_n4, enLen, layN, layN0, layN1, layN2, layN3, layN4, stTx, ldT', cbEi, cbBy, cbCo, cbCck, cbHld, apure_build5s, buildEn, h1, h2, h2p]
theorem crd_b_pan (hN : 8 ≤ N) (hp : p.length = 8) (hl : l.length < 8) : ∃ m', abodyP E (RQ (N + 5)) (RP (N + 5)) (N + 6) 23 [adr m 1 0] (ap m [b0, rdR (p ++ l)]) = some (ref9 4, m') := by
  rw [abodyP_eqF (by kernel_rfl) Tryd.func23 bodycrd (by kernel_rfl) (Nat.le_of_ble_eq_true rfl)]
  rw [show Tryd.f23.ntmps = 21 from rfl]
  have h1 := ei_ok (N := N + 2) (m := m) (L := [b0, rdR (p ++ l), .row false 24 (entC 0 0 0 [] [])]) (k := 1) hp rfl (by omega)
  obtain ⟨h2, h2p⟩ := ei_no (N := N + 2) (m := m) (L := [b0, rdR l, .row false 24 (entC 0 0 0 [] [])]) (k := 1) hl rfl
  generalize RQ (N + 5) = slf at *
  generalize RP (N + 5) = slp at *
  try simp only [List.set_cons_succ, List.set_cons_zero] at *
  simp only [ecrd_0, ecrd_1, ecrd_2, ecrd_3, lcrd_0, lcrd_1, lcrd_2, lcrd_3, agd_none, gdAt, gdV_bool, gdV_undef, Tryd.f23, List.append_eq, List.cons_append, List.nil_append, apure_call1, apure_call2, apure_call3, bft, btf, acodeN, List.getElem?_toArray, List.getElem?_cons_zero, List.getElem?_cons_succ, aopsN, adrawT, cls, astep, aop, afloat, ev, nth_lst, get_lst, aput, setAt_lst, upd_at, init_zero, init_succ, init_nil, Nat.reduceLT, Nat.reduceEqDiff, reduceIte, abuiltin, Option.map_some, Option.map_none, orElse_some, apure_add, List.map_cons, List.map_nil, List.all_cons, List.all_nil, lit2, lit1, lit0, List.isEmpty_nil, Bool.and_self, Bool.and_true, Bool.true_and, Bool.false_and, Bool.and_false, Bool.not_true, Bool.not_false, Bool.or_true, Bool.true_or, Bool.false_or, Bool.or_false, Bool.false_eq_true, if_true, if_false, List.length_map, beq_self_eq_true, und3, und4, und5, und9, eqlV9_int, neqV9_int, eqlV9_bool, neqV9_bool, eqlV9_str, neqV9_str, ↓aop_eqlV9, ↓aop_neqV9, ↓afloat_eqlV9, ↓afloat_neqV9, apure_eqlV9, apure_neqV9, eqlW, neqW, eqlI64, neqI64, aload_sealed, adU, adE, ldI', ldU', ldL', ldS_pol, ldS_bud, ldF_p0, ldF_p1, ldF_p2, ldF_b0, ldF_b1, ldF_b2, stI', stU', stT', stL, polLen, budLen, layP, layB, layB0, layB1, layB2, List.length_nil, List.length_cons, List.length_append, Nat.reduceAdd, Nat.reduceLeDiff, List.set_cons_zero, List.set_cons_succ, and_self, true_and, Nat.le_refl, apure_max, apure_min, maxV, minV, finish, ares, aresL, ares1_tmp, ares1_cell, aresC_adr, aextract, bxEn, alEn, ldEn, stEn, faEn0, faEn1, faEn2, faEn3, faEn4, bxRn, alRn, ldRn, stRn, faRn0, faRn1, faRn2, faRn3, faRn4, ldS_en, ldF_n0, ldF_n1, ldF_n2, ldF_n3, ldF_n4, enLen, layN, layN0, layN1, layN2, layN3, layN4, stTx, ldT', cbEi, cbBy, cbCo, cbCck, cbHld, apure_build5s, buildEn, h1, h2, h2p, acodePN, aopsPN, apan, finishP]
  exact ⟨_, rfl⟩
theorem crd_c_no (hN : 8 ≤ N) (hp : p.length = 8) (hq : q.length = 8) : abody E (RQ (N + 5)) (N + 6) 23 [adr m 1 0] (ap m [b0, rdR (p ++ (q ++ []))]) = none := by
  rw [abody_eqF (by kernel_rfl) Tryd.func23 bodycrd (by kernel_rfl) (Nat.le_of_ble_eq_true rfl)]
  rw [show Tryd.f23.ntmps = 21 from rfl]
  have h1 := ei_ok (N := N + 2) (m := m) (L := [b0, rdR (p ++ (q ++ [])), .row false 24 (entC 0 0 0 [] [])]) (k := 1) hp rfl (by omega)
  have h2 := ei_ok (N := N + 2) (m := m) (L := [b0, rdR (q ++ []), .row false 24 (entC 0 0 0 [] [])]) (k := 1) hq rfl (by omega)
  obtain ⟨h3, h3p⟩ := by_no (N := N + 2) (m := m) (L := [b0, rdR [], .row false 24 (entC 0 0 0 [] [])]) (k := 1) rfl
  generalize RQ (N + 5) = slf at *
  generalize RP (N + 5) = slp at *
  try simp only [List.set_cons_succ, List.set_cons_zero] at *
  simp only [ecrd_0, ecrd_1, ecrd_2, ecrd_3, lcrd_0, lcrd_1, lcrd_2, lcrd_3, agd_none, gdAt, gdV_bool, gdV_undef, Tryd.f23, List.append_eq, List.cons_append, List.nil_append, apure_call1, apure_call2, apure_call3, bft, btf, acodeN, List.getElem?_toArray, List.getElem?_cons_zero, List.getElem?_cons_succ, aopsN, adrawT, cls, astep, aop, afloat, ev, nth_lst, get_lst, aput, setAt_lst, upd_at, init_zero, init_succ, init_nil, Nat.reduceLT, Nat.reduceEqDiff, reduceIte, abuiltin, Option.map_some, Option.map_none, orElse_some, apure_add, List.map_cons, List.map_nil, List.all_cons, List.all_nil, lit2, lit1, lit0, List.isEmpty_nil, Bool.and_self, Bool.and_true, Bool.true_and, Bool.false_and, Bool.and_false, Bool.not_true, Bool.not_false, Bool.or_true, Bool.true_or, Bool.false_or, Bool.or_false, Bool.false_eq_true, if_true, if_false, List.length_map, beq_self_eq_true, und3, und4, und5, und9, eqlV9_int, neqV9_int, eqlV9_bool, neqV9_bool, eqlV9_str, neqV9_str, ↓aop_eqlV9, ↓aop_neqV9, ↓afloat_eqlV9, ↓afloat_neqV9, apure_eqlV9, apure_neqV9, eqlW, neqW, eqlI64, neqI64, aload_sealed, adU, adE, ldI', ldU', ldL', ldS_pol, ldS_bud, ldF_p0, ldF_p1, ldF_p2, ldF_b0, ldF_b1, ldF_b2, stI', stU', stT', stL, polLen, budLen, layP, layB, layB0, layB1, layB2, List.length_nil, List.length_cons, List.length_append, Nat.reduceAdd, Nat.reduceLeDiff, List.set_cons_zero, List.set_cons_succ, and_self, true_and, Nat.le_refl, apure_max, apure_min, maxV, minV, finish, ares, aresL, ares1_tmp, ares1_cell, aresC_adr, aextract, bxEn, alEn, ldEn, stEn, faEn0, faEn1, faEn2, faEn3, faEn4, bxRn, alRn, ldRn, stRn, faRn0, faRn1, faRn2, faRn3, faRn4, ldS_en, ldF_n0, ldF_n1, ldF_n2, ldF_n3, ldF_n4, enLen, layN, layN0, layN1, layN2, layN3, layN4, stTx, ldT', cbEi, cbBy, cbCo, cbCck, cbHld, apure_build5s, buildEn, h1, h2, h3, h3p]
theorem crd_c_pan (hN : 8 ≤ N) (hp : p.length = 8) (hq : q.length = 8) : ∃ m', abodyP E (RQ (N + 5)) (RP (N + 5)) (N + 6) 23 [adr m 1 0] (ap m [b0, rdR (p ++ (q ++ []))]) = some (ref9 4, m') := by
  rw [abodyP_eqF (by kernel_rfl) Tryd.func23 bodycrd (by kernel_rfl) (Nat.le_of_ble_eq_true rfl)]
  rw [show Tryd.f23.ntmps = 21 from rfl]
  have h1 := ei_ok (N := N + 2) (m := m) (L := [b0, rdR (p ++ (q ++ [])), .row false 24 (entC 0 0 0 [] [])]) (k := 1) hp rfl (by omega)
  have h2 := ei_ok (N := N + 2) (m := m) (L := [b0, rdR (q ++ []), .row false 24 (entC 0 0 0 [] [])]) (k := 1) hq rfl (by omega)
  obtain ⟨h3, h3p⟩ := by_no (N := N + 2) (m := m) (L := [b0, rdR [], .row false 24 (entC 0 0 0 [] [])]) (k := 1) rfl
  generalize RQ (N + 5) = slf at *
  generalize RP (N + 5) = slp at *
  try simp only [List.set_cons_succ, List.set_cons_zero] at *
  simp only [ecrd_0, ecrd_1, ecrd_2, ecrd_3, lcrd_0, lcrd_1, lcrd_2, lcrd_3, agd_none, gdAt, gdV_bool, gdV_undef, Tryd.f23, List.append_eq, List.cons_append, List.nil_append, apure_call1, apure_call2, apure_call3, bft, btf, acodeN, List.getElem?_toArray, List.getElem?_cons_zero, List.getElem?_cons_succ, aopsN, adrawT, cls, astep, aop, afloat, ev, nth_lst, get_lst, aput, setAt_lst, upd_at, init_zero, init_succ, init_nil, Nat.reduceLT, Nat.reduceEqDiff, reduceIte, abuiltin, Option.map_some, Option.map_none, orElse_some, apure_add, List.map_cons, List.map_nil, List.all_cons, List.all_nil, lit2, lit1, lit0, List.isEmpty_nil, Bool.and_self, Bool.and_true, Bool.true_and, Bool.false_and, Bool.and_false, Bool.not_true, Bool.not_false, Bool.or_true, Bool.true_or, Bool.false_or, Bool.or_false, Bool.false_eq_true, if_true, if_false, List.length_map, beq_self_eq_true, und3, und4, und5, und9, eqlV9_int, neqV9_int, eqlV9_bool, neqV9_bool, eqlV9_str, neqV9_str, ↓aop_eqlV9, ↓aop_neqV9, ↓afloat_eqlV9, ↓afloat_neqV9, apure_eqlV9, apure_neqV9, eqlW, neqW, eqlI64, neqI64, aload_sealed, adU, adE, ldI', ldU', ldL', ldS_pol, ldS_bud, ldF_p0, ldF_p1, ldF_p2, ldF_b0, ldF_b1, ldF_b2, stI', stU', stT', stL, polLen, budLen, layP, layB, layB0, layB1, layB2, List.length_nil, List.length_cons, List.length_append, Nat.reduceAdd, Nat.reduceLeDiff, List.set_cons_zero, List.set_cons_succ, and_self, true_and, Nat.le_refl, apure_max, apure_min, maxV, minV, finish, ares, aresL, ares1_tmp, ares1_cell, aresC_adr, aextract, bxEn, alEn, ldEn, stEn, faEn0, faEn1, faEn2, faEn3, faEn4, bxRn, alRn, ldRn, stRn, faRn0, faRn1, faRn2, faRn3, faRn4, ldS_en, ldF_n0, ldF_n1, ldF_n2, ldF_n3, ldF_n4, enLen, layN, layN0, layN1, layN2, layN3, layN4, stTx, ldT', cbEi, cbBy, cbCo, cbCck, cbHld, apure_build5s, buildEn, h1, h2, h3, h3p, acodePN, aopsPN, apan, finishP]
  exact ⟨_, rfl⟩
theorem crd_d_no (hN : 8 ≤ N) (hp : p.length = 8) (hq : q.length = 8) (h4 : cnt9 l3 = none) : abody E (RQ (N + 5)) (N + 6) 23 [adr m 1 0] (ap m [b0, rdR (p ++ (q ++ x :: l3))]) = none := by
  rw [abody_eqF (by kernel_rfl) Tryd.func23 bodycrd (by kernel_rfl) (Nat.le_of_ble_eq_true rfl)]
  rw [show Tryd.f23.ntmps = 21 from rfl]
  have h1 := ei_ok (N := N + 2) (m := m) (L := [b0, rdR (p ++ (q ++ x :: l3)), .row false 24 (entC 0 0 0 [] [])]) (k := 1) hp rfl (by omega)
  have h2 := ei_ok (N := N + 2) (m := m) (L := [b0, rdR (q ++ x :: l3), .row false 24 (entC 0 0 0 [] [])]) (k := 1) hq rfl (by omega)
  have h3 := by_ok (N := N + 2) (m := m) (L := [b0, rdR (x :: l3), .row false 24 (entC 0 0 0 [] [])]) (k := 1) rfl
  have hc := cv8i (n := x.toNat) x.toNat_lt
  obtain ⟨h5, M', h5p⟩ := co_no (N := N + 2) (m := m) (L := [b0, rdR l3, .row false 24 (entC 0 0 0 [] [])]) (k := 1) (by omega) rfl h4
  generalize RQ (N + 5) = slf at *
  generalize RP (N + 5) = slp at *
  try simp only [List.set_cons_succ, List.set_cons_zero] at *
  simp only [ecrd_0, ecrd_1, ecrd_2, ecrd_3, lcrd_0, lcrd_1, lcrd_2, lcrd_3, agd_none, gdAt, gdV_bool, gdV_undef, Tryd.f23, List.append_eq, List.cons_append, List.nil_append, apure_call1, apure_call2, apure_call3, bft, btf, acodeN, List.getElem?_toArray, List.getElem?_cons_zero, List.getElem?_cons_succ, aopsN, adrawT, cls, astep, aop, afloat, ev, nth_lst, get_lst, aput, setAt_lst, upd_at, init_zero, init_succ, init_nil, Nat.reduceLT, Nat.reduceEqDiff, reduceIte, abuiltin, Option.map_some, Option.map_none, orElse_some, apure_add, List.map_cons, List.map_nil, List.all_cons, List.all_nil, lit2, lit1, lit0, List.isEmpty_nil, Bool.and_self, Bool.and_true, Bool.true_and, Bool.false_and, Bool.and_false, Bool.not_true, Bool.not_false, Bool.or_true, Bool.true_or, Bool.false_or, Bool.or_false, Bool.false_eq_true, if_true, if_false, List.length_map, beq_self_eq_true, und3, und4, und5, und9, eqlV9_int, neqV9_int, eqlV9_bool, neqV9_bool, eqlV9_str, neqV9_str, ↓aop_eqlV9, ↓aop_neqV9, ↓afloat_eqlV9, ↓afloat_neqV9, apure_eqlV9, apure_neqV9, eqlW, neqW, eqlI64, neqI64, aload_sealed, adU, adE, ldI', ldU', ldL', ldS_pol, ldS_bud, ldF_p0, ldF_p1, ldF_p2, ldF_b0, ldF_b1, ldF_b2, stI', stU', stT', stL, polLen, budLen, layP, layB, layB0, layB1, layB2, List.length_nil, List.length_cons, List.length_append, Nat.reduceAdd, Nat.reduceLeDiff, List.set_cons_zero, List.set_cons_succ, and_self, true_and, Nat.le_refl, apure_max, apure_min, maxV, minV, finish, ares, aresL, ares1_tmp, ares1_cell, aresC_adr, aextract, bxEn, alEn, ldEn, stEn, faEn0, faEn1, faEn2, faEn3, faEn4, bxRn, alRn, ldRn, stRn, faRn0, faRn1, faRn2, faRn3, faRn4, ldS_en, ldF_n0, ldF_n1, ldF_n2, ldF_n3, ldF_n4, enLen, layN, layN0, layN1, layN2, layN3, layN4, stTx, ldT', cbEi, cbBy, cbCo, cbCck, cbHld, apure_build5s, buildEn, h1, h2, h3, hc, h5, h5p]
theorem crd_d_pan (hN : 8 ≤ N) (hp : p.length = 8) (hq : q.length = 8) (h4 : cnt9 l3 = none) : ∃ m', abodyP E (RQ (N + 5)) (RP (N + 5)) (N + 6) 23 [adr m 1 0] (ap m [b0, rdR (p ++ (q ++ x :: l3))]) = some (ref9 4, m') := by
  rw [abodyP_eqF (by kernel_rfl) Tryd.func23 bodycrd (by kernel_rfl) (Nat.le_of_ble_eq_true rfl)]
  rw [show Tryd.f23.ntmps = 21 from rfl]
  have h1 := ei_ok (N := N + 2) (m := m) (L := [b0, rdR (p ++ (q ++ x :: l3)), .row false 24 (entC 0 0 0 [] [])]) (k := 1) hp rfl (by omega)
  have h2 := ei_ok (N := N + 2) (m := m) (L := [b0, rdR (q ++ x :: l3), .row false 24 (entC 0 0 0 [] [])]) (k := 1) hq rfl (by omega)
  have h3 := by_ok (N := N + 2) (m := m) (L := [b0, rdR (x :: l3), .row false 24 (entC 0 0 0 [] [])]) (k := 1) rfl
  have hc := cv8i (n := x.toNat) x.toNat_lt
  obtain ⟨h5, M', h5p⟩ := co_no (N := N + 2) (m := m) (L := [b0, rdR l3, .row false 24 (entC 0 0 0 [] [])]) (k := 1) (by omega) rfl h4
  generalize RQ (N + 5) = slf at *
  generalize RP (N + 5) = slp at *
  try simp only [List.set_cons_succ, List.set_cons_zero] at *
  simp only [ecrd_0, ecrd_1, ecrd_2, ecrd_3, lcrd_0, lcrd_1, lcrd_2, lcrd_3, agd_none, gdAt, gdV_bool, gdV_undef, Tryd.f23, List.append_eq, List.cons_append, List.nil_append, apure_call1, apure_call2, apure_call3, bft, btf, acodeN, List.getElem?_toArray, List.getElem?_cons_zero, List.getElem?_cons_succ, aopsN, adrawT, cls, astep, aop, afloat, ev, nth_lst, get_lst, aput, setAt_lst, upd_at, init_zero, init_succ, init_nil, Nat.reduceLT, Nat.reduceEqDiff, reduceIte, abuiltin, Option.map_some, Option.map_none, orElse_some, apure_add, List.map_cons, List.map_nil, List.all_cons, List.all_nil, lit2, lit1, lit0, List.isEmpty_nil, Bool.and_self, Bool.and_true, Bool.true_and, Bool.false_and, Bool.and_false, Bool.not_true, Bool.not_false, Bool.or_true, Bool.true_or, Bool.false_or, Bool.or_false, Bool.false_eq_true, if_true, if_false, List.length_map, beq_self_eq_true, und3, und4, und5, und9, eqlV9_int, neqV9_int, eqlV9_bool, neqV9_bool, eqlV9_str, neqV9_str, ↓aop_eqlV9, ↓aop_neqV9, ↓afloat_eqlV9, ↓afloat_neqV9, apure_eqlV9, apure_neqV9, eqlW, neqW, eqlI64, neqI64, aload_sealed, adU, adE, ldI', ldU', ldL', ldS_pol, ldS_bud, ldF_p0, ldF_p1, ldF_p2, ldF_b0, ldF_b1, ldF_b2, stI', stU', stT', stL, polLen, budLen, layP, layB, layB0, layB1, layB2, List.length_nil, List.length_cons, List.length_append, Nat.reduceAdd, Nat.reduceLeDiff, List.set_cons_zero, List.set_cons_succ, and_self, true_and, Nat.le_refl, apure_max, apure_min, maxV, minV, finish, ares, aresL, ares1_tmp, ares1_cell, aresC_adr, aextract, bxEn, alEn, ldEn, stEn, faEn0, faEn1, faEn2, faEn3, faEn4, bxRn, alRn, ldRn, stRn, faRn0, faRn1, faRn2, faRn3, faRn4, ldS_en, ldF_n0, ldF_n1, ldF_n2, ldF_n3, ldF_n4, enLen, layN, layN0, layN1, layN2, layN3, layN4, stTx, ldT', cbEi, cbBy, cbCo, cbCck, cbHld, apure_build5s, buildEn, h1, h2, h3, hc, h5, h5p, acodePN, aopsPN, apan, finishP]
  exact ⟨_, rfl⟩
theorem crd_e_no (hN : 8 ≤ N) (hp : p.length = 8) (hq : q.length = 8) (h4 : cnt9 l3 = some (s, l4)) (h6 : cnt9 l4 = none) : abody E (RQ (N + 5)) (N + 6) 23 [adr m 1 0] (ap m [b0, rdR (p ++ (q ++ x :: l3))]) = none := by
  rw [abody_eqF (by kernel_rfl) Tryd.func23 bodycrd (by kernel_rfl) (Nat.le_of_ble_eq_true rfl)]
  rw [show Tryd.f23.ntmps = 21 from rfl]
  have h1 := ei_ok (N := N + 2) (m := m) (L := [b0, rdR (p ++ (q ++ x :: l3)), .row false 24 (entC 0 0 0 [] [])]) (k := 1) hp rfl (by omega)
  have h2 := ei_ok (N := N + 2) (m := m) (L := [b0, rdR (q ++ x :: l3), .row false 24 (entC 0 0 0 [] [])]) (k := 1) hq rfl (by omega)
  have h3 := by_ok (N := N + 2) (m := m) (L := [b0, rdR (x :: l3), .row false 24 (entC 0 0 0 [] [])]) (k := 1) rfl
  have hc := cv8i (n := x.toNat) x.toNat_lt
  have h5 := co_ok (N := N + 2) (m := m) (L := [b0, rdR l3, .row false 24 (entC 0 0 0 [] [])]) (k := 1) (by omega) rfl h4
  obtain ⟨h7, M', h7p⟩ := co_no (N := N + 2) (m := m) (L := [b0, rdR l4, .row false 24 (entC 0 0 0 [] [])]) (k := 1) (by omega) rfl h6
  generalize RQ (N + 5) = slf at *
  generalize RP (N + 5) = slp at *
  try simp only [List.set_cons_succ, List.set_cons_zero] at *
  simp only [ecrd_0, ecrd_1, ecrd_2, ecrd_3, lcrd_0, lcrd_1, lcrd_2, lcrd_3, agd_none, gdAt, gdV_bool, gdV_undef, Tryd.f23, List.append_eq, List.cons_append, List.nil_append, apure_call1, apure_call2, apure_call3, bft, btf, acodeN, List.getElem?_toArray, List.getElem?_cons_zero, List.getElem?_cons_succ, aopsN, adrawT, cls, astep, aop, afloat, ev, nth_lst, get_lst, aput, setAt_lst, upd_at, init_zero, init_succ, init_nil, Nat.reduceLT, Nat.reduceEqDiff, reduceIte, abuiltin, Option.map_some, Option.map_none, orElse_some, apure_add, List.map_cons, List.map_nil, List.all_cons, List.all_nil, lit2, lit1, lit0, List.isEmpty_nil, Bool.and_self, Bool.and_true, Bool.true_and, Bool.false_and, Bool.and_false, Bool.not_true, Bool.not_false, Bool.or_true, Bool.true_or, Bool.false_or, Bool.or_false, Bool.false_eq_true, if_true, if_false, List.length_map, beq_self_eq_true, und3, und4, und5, und9, eqlV9_int, neqV9_int, eqlV9_bool, neqV9_bool, eqlV9_str, neqV9_str, ↓aop_eqlV9, ↓aop_neqV9, ↓afloat_eqlV9, ↓afloat_neqV9, apure_eqlV9, apure_neqV9, eqlW, neqW, eqlI64, neqI64, aload_sealed, adU, adE, ldI', ldU', ldL', ldS_pol, ldS_bud, ldF_p0, ldF_p1, ldF_p2, ldF_b0, ldF_b1, ldF_b2, stI', stU', stT', stL, polLen, budLen, layP, layB, layB0, layB1, layB2, List.length_nil, List.length_cons, List.length_append, Nat.reduceAdd, Nat.reduceLeDiff, List.set_cons_zero, List.set_cons_succ, and_self, true_and, Nat.le_refl, apure_max, apure_min, maxV, minV, finish, ares, aresL, ares1_tmp, ares1_cell, aresC_adr, aextract, bxEn, alEn, ldEn, stEn, faEn0, faEn1, faEn2, faEn3, faEn4, bxRn, alRn, ldRn, stRn, faRn0, faRn1, faRn2, faRn3, faRn4, ldS_en, ldF_n0, ldF_n1, ldF_n2, ldF_n3, ldF_n4, enLen, layN, layN0, layN1, layN2, layN3, layN4, stTx, ldT', cbEi, cbBy, cbCo, cbCck, cbHld, apure_build5s, buildEn, h1, h2, h3, hc, h5, h7, h7p]
theorem crd_e_pan (hN : 8 ≤ N) (hp : p.length = 8) (hq : q.length = 8) (h4 : cnt9 l3 = some (s, l4)) (h6 : cnt9 l4 = none) : ∃ m', abodyP E (RQ (N + 5)) (RP (N + 5)) (N + 6) 23 [adr m 1 0] (ap m [b0, rdR (p ++ (q ++ x :: l3))]) = some (ref9 4, m') := by
  rw [abodyP_eqF (by kernel_rfl) Tryd.func23 bodycrd (by kernel_rfl) (Nat.le_of_ble_eq_true rfl)]
  rw [show Tryd.f23.ntmps = 21 from rfl]
  have h1 := ei_ok (N := N + 2) (m := m) (L := [b0, rdR (p ++ (q ++ x :: l3)), .row false 24 (entC 0 0 0 [] [])]) (k := 1) hp rfl (by omega)
  have h2 := ei_ok (N := N + 2) (m := m) (L := [b0, rdR (q ++ x :: l3), .row false 24 (entC 0 0 0 [] [])]) (k := 1) hq rfl (by omega)
  have h3 := by_ok (N := N + 2) (m := m) (L := [b0, rdR (x :: l3), .row false 24 (entC 0 0 0 [] [])]) (k := 1) rfl
  have hc := cv8i (n := x.toNat) x.toNat_lt
  have h5 := co_ok (N := N + 2) (m := m) (L := [b0, rdR l3, .row false 24 (entC 0 0 0 [] [])]) (k := 1) (by omega) rfl h4
  obtain ⟨h7, M', h7p⟩ := co_no (N := N + 2) (m := m) (L := [b0, rdR l4, .row false 24 (entC 0 0 0 [] [])]) (k := 1) (by omega) rfl h6
  generalize RQ (N + 5) = slf at *
  generalize RP (N + 5) = slp at *
  try simp only [List.set_cons_succ, List.set_cons_zero] at *
  simp only [ecrd_0, ecrd_1, ecrd_2, ecrd_3, lcrd_0, lcrd_1, lcrd_2, lcrd_3, agd_none, gdAt, gdV_bool, gdV_undef, Tryd.f23, List.append_eq, List.cons_append, List.nil_append, apure_call1, apure_call2, apure_call3, bft, btf, acodeN, List.getElem?_toArray, List.getElem?_cons_zero, List.getElem?_cons_succ, aopsN, adrawT, cls, astep, aop, afloat, ev, nth_lst, get_lst, aput, setAt_lst, upd_at, init_zero, init_succ, init_nil, Nat.reduceLT, Nat.reduceEqDiff, reduceIte, abuiltin, Option.map_some, Option.map_none, orElse_some, apure_add, List.map_cons, List.map_nil, List.all_cons, List.all_nil, lit2, lit1, lit0, List.isEmpty_nil, Bool.and_self, Bool.and_true, Bool.true_and, Bool.false_and, Bool.and_false, Bool.not_true, Bool.not_false, Bool.or_true, Bool.true_or, Bool.false_or, Bool.or_false, Bool.false_eq_true, if_true, if_false, List.length_map, beq_self_eq_true, und3, und4, und5, und9, eqlV9_int, neqV9_int, eqlV9_bool, neqV9_bool, eqlV9_str, neqV9_str, ↓aop_eqlV9, ↓aop_neqV9, ↓afloat_eqlV9, ↓afloat_neqV9, apure_eqlV9, apure_neqV9, eqlW, neqW, eqlI64, neqI64, aload_sealed, adU, adE, ldI', ldU', ldL', ldS_pol, ldS_bud, ldF_p0, ldF_p1, ldF_p2, ldF_b0, ldF_b1, ldF_b2, stI', stU', stT', stL, polLen, budLen, layP, layB, layB0, layB1, layB2, List.length_nil, List.length_cons, List.length_append, Nat.reduceAdd, Nat.reduceLeDiff, List.set_cons_zero, List.set_cons_succ, and_self, true_and, Nat.le_refl, apure_max, apure_min, maxV, minV, finish, ares, aresL, ares1_tmp, ares1_cell, aresC_adr, aextract, bxEn, alEn, ldEn, stEn, faEn0, faEn1, faEn2, faEn3, faEn4, bxRn, alRn, ldRn, stRn, faRn0, faRn1, faRn2, faRn3, faRn4, ldS_en, ldF_n0, ldF_n1, ldF_n2, ldF_n3, ldF_n4, enLen, layN, layN0, layN1, layN2, layN3, layN4, stTx, ldT', cbEi, cbBy, cbCo, cbCck, cbHld, apure_build5s, buildEn, h1, h2, h3, hc, h5, h7, h7p, acodePN, aopsPN, apan, finishP]
  exact ⟨_, rfl⟩
theorem crd_f_no (hN : 8 ≤ N) (hp : p.length = 8) (hq : q.length = 8) (h4 : cnt9 l3 = some (s, l4)) (h6 : cnt9 l4 = some (t, r)) (hk : (ckE ((x.toNat : Nat) : Int) s t == 0) = false) : abody E (RQ (N + 5)) (N + 6) 23 [adr m 1 0] (ap m [b0, rdR (p ++ (q ++ x :: l3))]) = none := by
  rw [abody_eqF (by kernel_rfl) Tryd.func23 bodycrd (by kernel_rfl) (Nat.le_of_ble_eq_true rfl)]
  rw [show Tryd.f23.ntmps = 21 from rfl]
  have h1 := ei_ok (N := N + 2) (m := m) (L := [b0, rdR (p ++ (q ++ x :: l3)), .row false 24 (entC 0 0 0 [] [])]) (k := 1) hp rfl (by omega)
  have h2 := ei_ok (N := N + 2) (m := m) (L := [b0, rdR (q ++ x :: l3), .row false 24 (entC 0 0 0 [] [])]) (k := 1) hq rfl (by omega)
  have h3 := by_ok (N := N + 2) (m := m) (L := [b0, rdR (x :: l3), .row false 24 (entC 0 0 0 [] [])]) (k := 1) rfl
  have hc := cv8i (n := x.toNat) x.toNat_lt
  have h5 := co_ok (N := N + 2) (m := m) (L := [b0, rdR l3, .row false 24 (entC 0 0 0 [] [])]) (k := 1) (by omega) rfl h4
  have h7 := co_ok (N := N + 2) (m := m) (L := [b0, rdR l4, .row false 24 (entC 0 0 0 [] [])]) (k := 1) (by omega) rfl h6
  have h8 := fun M => ck_call (N := N + 4) (a := (nb p : Nat)) (b := (nb q : Nat)) (c := (x.toNat : Nat)) (s := s) (t := t) M
  have h9 := fun e M => hold_N (N := N + 4) (e := e) M
  have h9p := fun e M => hold_P (N := N + 4) (e := e) M
  generalize RQ (N + 5) = slf at *
  generalize RP (N + 5) = slp at *
  try simp only [List.set_cons_succ, List.set_cons_zero] at *
  simp only [ecrd_0, ecrd_1, ecrd_2, ecrd_3, lcrd_0, lcrd_1, lcrd_2, lcrd_3, agd_none, gdAt, gdV_bool, gdV_undef, Tryd.f23, List.append_eq, List.cons_append, List.nil_append, apure_call1, apure_call2, apure_call3, bft, btf, acodeN, List.getElem?_toArray, List.getElem?_cons_zero, List.getElem?_cons_succ, aopsN, adrawT, cls, astep, aop, afloat, ev, nth_lst, get_lst, aput, setAt_lst, upd_at, init_zero, init_succ, init_nil, Nat.reduceLT, Nat.reduceEqDiff, reduceIte, abuiltin, Option.map_some, Option.map_none, orElse_some, apure_add, List.map_cons, List.map_nil, List.all_cons, List.all_nil, lit2, lit1, lit0, List.isEmpty_nil, Bool.and_self, Bool.and_true, Bool.true_and, Bool.false_and, Bool.and_false, Bool.not_true, Bool.not_false, Bool.or_true, Bool.true_or, Bool.false_or, Bool.or_false, Bool.false_eq_true, if_true, if_false, List.length_map, beq_self_eq_true, und3, und4, und5, und9, eqlV9_int, neqV9_int, eqlV9_bool, neqV9_bool, eqlV9_str, neqV9_str, ↓aop_eqlV9, ↓aop_neqV9, ↓afloat_eqlV9, ↓afloat_neqV9, apure_eqlV9, apure_neqV9, eqlW, neqW, eqlI64, neqI64, aload_sealed, adU, adE, ldI', ldU', ldL', ldS_pol, ldS_bud, ldF_p0, ldF_p1, ldF_p2, ldF_b0, ldF_b1, ldF_b2, stI', stU', stT', stL, polLen, budLen, layP, layB, layB0, layB1, layB2, List.length_nil, List.length_cons, List.length_append, Nat.reduceAdd, Nat.reduceLeDiff, List.set_cons_zero, List.set_cons_succ, and_self, true_and, Nat.le_refl, apure_max, apure_min, maxV, minV, finish, ares, aresL, ares1_tmp, ares1_cell, aresC_adr, aextract, bxEn, alEn, ldEn, stEn, faEn0, faEn1, faEn2, faEn3, faEn4, bxRn, alRn, ldRn, stRn, faRn0, faRn1, faRn2, faRn3, faRn4, ldS_en, ldF_n0, ldF_n1, ldF_n2, ldF_n3, ldF_n4, enLen, layN, layN0, layN1, layN2, layN3, layN4, stTx, ldT', cbEi, cbBy, cbCo, cbCck, cbHld, apure_build5s, buildEn, h1, h2, h3, hc, h5, h7, h8, hk, eqlV9_int, h9, h9p]
theorem crd_f_pan (hN : 8 ≤ N) (hp : p.length = 8) (hq : q.length = 8) (h4 : cnt9 l3 = some (s, l4)) (h6 : cnt9 l4 = some (t, r)) (hk : (ckE ((x.toNat : Nat) : Int) s t == 0) = false) : ∃ m', abodyP E (RQ (N + 5)) (RP (N + 5)) (N + 6) 23 [adr m 1 0] (ap m [b0, rdR (p ++ (q ++ x :: l3))]) = some (ref9 4, m') := by
  rw [abodyP_eqF (by kernel_rfl) Tryd.func23 bodycrd (by kernel_rfl) (Nat.le_of_ble_eq_true rfl)]
  rw [show Tryd.f23.ntmps = 21 from rfl]
  have h1 := ei_ok (N := N + 2) (m := m) (L := [b0, rdR (p ++ (q ++ x :: l3)), .row false 24 (entC 0 0 0 [] [])]) (k := 1) hp rfl (by omega)
  have h2 := ei_ok (N := N + 2) (m := m) (L := [b0, rdR (q ++ x :: l3), .row false 24 (entC 0 0 0 [] [])]) (k := 1) hq rfl (by omega)
  have h3 := by_ok (N := N + 2) (m := m) (L := [b0, rdR (x :: l3), .row false 24 (entC 0 0 0 [] [])]) (k := 1) rfl
  have hc := cv8i (n := x.toNat) x.toNat_lt
  have h5 := co_ok (N := N + 2) (m := m) (L := [b0, rdR l3, .row false 24 (entC 0 0 0 [] [])]) (k := 1) (by omega) rfl h4
  have h7 := co_ok (N := N + 2) (m := m) (L := [b0, rdR l4, .row false 24 (entC 0 0 0 [] [])]) (k := 1) (by omega) rfl h6
  have h8 := fun M => ck_call (N := N + 4) (a := (nb p : Nat)) (b := (nb q : Nat)) (c := (x.toNat : Nat)) (s := s) (t := t) M
  have h9 := fun e M => hold_N (N := N + 4) (e := e) M
  have h9p := fun e M => hold_P (N := N + 4) (e := e) M
  generalize RQ (N + 5) = slf at *
  generalize RP (N + 5) = slp at *
  try simp only [List.set_cons_succ, List.set_cons_zero] at *
  simp only [ecrd_0, ecrd_1, ecrd_2, ecrd_3, lcrd_0, lcrd_1, lcrd_2, lcrd_3, agd_none, gdAt, gdV_bool, gdV_undef, Tryd.f23, List.append_eq, List.cons_append, List.nil_append, apure_call1, apure_call2, apure_call3, bft, btf, acodeN, List.getElem?_toArray, List.getElem?_cons_zero, List.getElem?_cons_succ, aopsN, adrawT, cls, astep, aop, afloat, ev, nth_lst, get_lst, aput, setAt_lst, upd_at, init_zero, init_succ, init_nil, Nat.reduceLT, Nat.reduceEqDiff, reduceIte, abuiltin, Option.map_some, Option.map_none, orElse_some, apure_add, List.map_cons, List.map_nil, List.all_cons, List.all_nil, lit2, lit1, lit0, List.isEmpty_nil, Bool.and_self, Bool.and_true, Bool.true_and, Bool.false_and, Bool.and_false, Bool.not_true, Bool.not_false, Bool.or_true, Bool.true_or, Bool.false_or, Bool.or_false, Bool.false_eq_true, if_true, if_false, List.length_map, beq_self_eq_true, und3, und4, und5, und9, eqlV9_int, neqV9_int, eqlV9_bool, neqV9_bool, eqlV9_str, neqV9_str, ↓aop_eqlV9, ↓aop_neqV9, ↓afloat_eqlV9, ↓afloat_neqV9, apure_eqlV9, apure_neqV9, eqlW, neqW, eqlI64, neqI64, aload_sealed, adU, adE, ldI', ldU', ldL', ldS_pol, ldS_bud, ldF_p0, ldF_p1, ldF_p2, ldF_b0, ldF_b1, ldF_b2, stI', stU', stT', stL, polLen, budLen, layP, layB, layB0, layB1, layB2, List.length_nil, List.length_cons, List.length_append, Nat.reduceAdd, Nat.reduceLeDiff, List.set_cons_zero, List.set_cons_succ, and_self, true_and, Nat.le_refl, apure_max, apure_min, maxV, minV, finish, ares, aresL, ares1_tmp, ares1_cell, aresC_adr, aextract, bxEn, alEn, ldEn, stEn, faEn0, faEn1, faEn2, faEn3, faEn4, bxRn, alRn, ldRn, stRn, faRn0, faRn1, faRn2, faRn3, faRn4, ldS_en, ldF_n0, ldF_n1, ldF_n2, ldF_n3, ldF_n4, enLen, layN, layN0, layN1, layN2, layN3, layN4, stTx, ldT', cbEi, cbBy, cbCo, cbCck, cbHld, apure_build5s, buildEn, h1, h2, h3, hc, h5, h7, h8, hk, eqlV9_int, h9, h9p, acodePN, aopsPN, apan, finishP]
  exact ⟨_, rfl⟩
theorem crd_g_ok (hN : 8 ≤ N) (hp : p.length = 8) (hq : q.length = 8) (h4 : cnt9 l3 = some (s, l4)) (h6 : cnt9 l4 = some (t, r)) (hk : (ckE ((x.toNat : Nat) : Int) s t == 0) = true) : abody E (RQ (N + 5)) (N + 6) 23 [adr m 1 0] (ap m [b0, rdR (p ++ (q ++ x :: l3))]) = some (entV (nb p : Nat) (nb q : Nat) (x.toNat : Nat) s t, ap m [b0, rdR r, .row false 24 (entC (nb p : Nat) (nb q : Nat) (x.toNat : Nat) s t), .row false 24 (entC (nb p : Nat) (nb q : Nat) (x.toNat : Nat) s t)]) := by
  rw [abody_eqF (by kernel_rfl) Tryd.func23 bodycrd (by kernel_rfl) (Nat.le_of_ble_eq_true rfl)]
  rw [show Tryd.f23.ntmps = 21 from rfl]
  have h1 := ei_ok (N := N + 2) (m := m) (L := [b0, rdR (p ++ (q ++ x :: l3)), .row false 24 (entC 0 0 0 [] [])]) (k := 1) hp rfl (by omega)
  have h2 := ei_ok (N := N + 2) (m := m) (L := [b0, rdR (q ++ x :: l3), .row false 24 (entC 0 0 0 [] [])]) (k := 1) hq rfl (by omega)
  have h3 := by_ok (N := N + 2) (m := m) (L := [b0, rdR (x :: l3), .row false 24 (entC 0 0 0 [] [])]) (k := 1) rfl
  have hc := cv8i (n := x.toNat) x.toNat_lt
  have h5 := co_ok (N := N + 2) (m := m) (L := [b0, rdR l3, .row false 24 (entC 0 0 0 [] [])]) (k := 1) (by omega) rfl h4
  have h7 := co_ok (N := N + 2) (m := m) (L := [b0, rdR l4, .row false 24 (entC 0 0 0 [] [])]) (k := 1) (by omega) rfl h6
  have h8 := fun M => ck_call (N := N + 4) (a := (nb p : Nat)) (b := (nb q : Nat)) (c := (x.toNat : Nat)) (s := s) (t := t) M
  have h9 := fun e M => hold_T (N := N + 4) (e := e) M
  generalize RQ (N + 5) = slf at *
  generalize RP (N + 5) = slp at *
  try simp only [List.set_cons_succ, List.set_cons_zero] at *
  simp only [ecrd_0, ecrd_1, ecrd_2, ecrd_3, lcrd_0, lcrd_1, lcrd_2, lcrd_3, agd_none, gdAt, gdV_bool, gdV_undef, Tryd.f23, List.append_eq, List.cons_append, List.nil_append, apure_call1, apure_call2, apure_call3, bft, btf, acodeN, List.getElem?_toArray, List.getElem?_cons_zero, List.getElem?_cons_succ, aopsN, adrawT, cls, astep, aop, afloat, ev, nth_lst, get_lst, aput, setAt_lst, upd_at, init_zero, init_succ, init_nil, Nat.reduceLT, Nat.reduceEqDiff, reduceIte, abuiltin, Option.map_some, Option.map_none, orElse_some, apure_add, List.map_cons, List.map_nil, List.all_cons, List.all_nil, lit2, lit1, lit0, List.isEmpty_nil, Bool.and_self, Bool.and_true, Bool.true_and, Bool.false_and, Bool.and_false, Bool.not_true, Bool.not_false, Bool.or_true, Bool.true_or, Bool.false_or, Bool.or_false, Bool.false_eq_true, if_true, if_false, List.length_map, beq_self_eq_true, und3, und4, und5, und9, eqlV9_int, neqV9_int, eqlV9_bool, neqV9_bool, eqlV9_str, neqV9_str, ↓aop_eqlV9, ↓aop_neqV9, ↓afloat_eqlV9, ↓afloat_neqV9, apure_eqlV9, apure_neqV9, eqlW, neqW, eqlI64, neqI64, aload_sealed, adU, adE, ldI', ldU', ldL', ldS_pol, ldS_bud, ldF_p0, ldF_p1, ldF_p2, ldF_b0, ldF_b1, ldF_b2, stI', stU', stT', stL, polLen, budLen, layP, layB, layB0, layB1, layB2, List.length_nil, List.length_cons, List.length_append, Nat.reduceAdd, Nat.reduceLeDiff, List.set_cons_zero, List.set_cons_succ, and_self, true_and, Nat.le_refl, apure_max, apure_min, maxV, minV, finish, ares, aresL, ares1_tmp, ares1_cell, aresC_adr, aextract, bxEn, alEn, ldEn, stEn, faEn0, faEn1, faEn2, faEn3, faEn4, bxRn, alRn, ldRn, stRn, faRn0, faRn1, faRn2, faRn3, faRn4, ldS_en, ldF_n0, ldF_n1, ldF_n2, ldF_n3, ldF_n4, enLen, layN, layN0, layN1, layN2, layN3, layN4, stTx, ldT', cbEi, cbBy, cbCo, cbCck, cbHld, apure_build5s, buildEn, h1, h2, h3, hc, h5, h7, h8, hk, eqlV9_int, h9]
end
end Go.Am.Seat

/-
  An entry's reading, whole (own work).
-/
set_option linter.unusedSimpArgs false
set_option linter.unusedVariables false
namespace Go.Am.Seat
open Go.Proofs Go.Am
set_option maxRecDepth 100000

/-- An entry's parts. -/
structure Ent where
  a : Nat
  b : Nat
  c : Nat
  s : List UInt8
  t : List UInt8
def Ent.v (e : Ent) : Value := entV (e.a : Nat) (e.b : Nat) (e.c : Nat) e.s e.t
def Ent.cs (e : Ent) : List Value := entC (e.a : Nat) (e.b : Nat) (e.c : Nat) e.s e.t
def ent0 : Ent := ⟨0, 0, 0, [], []⟩

/-- What a text's bytes say of an entry, and what stands behind. -/
def rdE (l : List UInt8) : Option (Ent × List UInt8) :=
  if 17 ≤ l.length then match cnt9 (l.drop 17) with
    | some (s, l4) => match cnt9 l4 with
      | some (t, r) => if (ckE (((l.getD 16 0).toNat : Nat) : Int) s t == 0) = true then some (⟨nb (l.take 8), nb ((l.drop 8).take 8), (l.getD 16 0).toNat, s, t⟩, r) else none
      | none => none
    | none => none
  else none

theorem wrCrd : E.wr 23 = true := by kernel_rfl
section
variable {N : Nat} {m : Mem} {b0 : Blk} {l r : List UInt8} {e : Ent}
theorem cut17 (h : 17 ≤ l.length) : (l.take 8).length = 8 ∧ ((l.drop 8).take 8).length = 8 ∧ l = l.take 8 ++ ((l.drop 8).take 8 ++ (l.getD 16 0 :: l.drop 17)) := by
  refine ⟨by rw [List.length_take]; omega, by rw [List.length_take, List.length_drop]; omega, ?_⟩
  have e2 : l.getD 16 0 :: l.drop 17 = l.drop 16 := by
    rw [List.getD_eq_getElem?_getD, List.getElem?_eq_getElem (by omega)]
    exact (List.drop_eq_getElem_cons (by omega)).symm
  rw [e2, ← List.drop_drop (i := 8) (j := 8), List.take_append_drop, List.take_append_drop]
theorem readE_some (hN : 8 ≤ N) (h : rdE l = some (e, r)) :
    ainv E (RQ (N + 6)) 23 [adr m 1 0] (ap m [b0, rdR l]) = some (e.v, ap m [b0, rdR r, .row false 24 e.cs, .row false 24 e.cs]) := by
  unfold rdE at h
  split at h
  · rename_i h17
    split at h
    · rename_i s l4 h4
      split at h
      · rename_i t r' h6
        split at h
        · rename_i hk
          cases h
          obtain ⟨hp, hq, e1⟩ := cut17 h17
          have h := crd_g_ok (N := N) (m := m) (b0 := b0) hN hp hq h4 h6 hk
          rw [← e1] at h
          rw [ainv_w rfl wrCrd]
          exact runQ_1 h
        · cases h
      · cases h
    · cases h
  · cases h
theorem readE_none (hN : 8 ≤ N) (h : rdE l = none) :
    ainv E (RQ (N + 6)) 23 [adr m 1 0] (ap m [b0, rdR l]) = none ∧ ∃ m', ainvP E (RP (N + 6)) 23 [adr m 1 0] (ap m [b0, rdR l]) = some (ref9 4, m') := by
  have key : abody E (RQ (N + 5)) (N + 6) 23 [adr m 1 0] (ap m [b0, rdR l]) = none ∧ ∃ m', abodyP E (RQ (N + 5)) (RP (N + 5)) (N + 6) 23 [adr m 1 0] (ap m [b0, rdR l]) = some (ref9 4, m') := by
    by_cases h8 : l.length < 8
    · exact ⟨crd_a_no hN h8, crd_a_pan hN h8⟩
    have hp : (l.take 8).length = 8 := by rw [List.length_take]; omega
    have e1 : l = l.take 8 ++ l.drop 8 := (List.take_append_drop 8 l).symm
    by_cases h16 : (l.drop 8).length < 8
    · rw [e1]
      exact ⟨crd_b_no hN hp h16, crd_b_pan hN hp h16⟩
    by_cases h17 : 17 ≤ l.length
    · obtain ⟨hp, hq, e3⟩ := cut17 h17
      unfold rdE at h
      rw [if_pos h17] at h
      rw [e3]
      cases h4 : cnt9 (l.drop 17) with
      | none => exact ⟨crd_d_no hN hp hq h4, crd_d_pan hN hp hq h4⟩
      | some y =>
        obtain ⟨s, l4⟩ := y
        rw [h4] at h
        simp only at h
        cases h6 : cnt9 l4 with
        | none => exact ⟨crd_e_no hN hp hq h4 h6, crd_e_pan hN hp hq h4 h6⟩
        | some y =>
          obtain ⟨t, r⟩ := y
          rw [h6] at h
          simp only at h
          have hk : (ckE (((l.getD 16 0).toNat : Nat) : Int) s t == 0) = false := by
            cases hq : (ckE (((l.getD 16 0).toNat : Nat) : Int) s t == 0) with
            | false => rfl
            | true => rw [hq] at h; simp at h
          exact ⟨crd_f_no hN hp hq h4 h6 hk, crd_f_pan hN hp hq h4 h6 hk⟩
    · rw [List.length_drop] at h16
      have hq : (l.drop 8).length = 8 := by rw [List.length_drop]; omega
      have e2 : l.drop 8 = l.drop 8 ++ [] := (List.append_nil _).symm
      rw [e1, e2]
      exact ⟨crd_c_no hN hp hq, crd_c_pan hN hp hq⟩
  obtain ⟨k1, m', k2⟩ := key
  rw [ainv_w rfl wrCrd, ainvP_w rfl wrCrd]
  exact ⟨runQ_no k1 (abodyD_none Tryd.func23 bodycrd (by kernel_rfl)), m', runQ_2 k2⟩
end
end Go.Am.Seat
