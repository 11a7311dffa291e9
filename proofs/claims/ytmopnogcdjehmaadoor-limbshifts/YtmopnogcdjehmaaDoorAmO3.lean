/-
  Parse on the abstract machine (own work).
-/
import Derived.Test.YtmopnogcdjehmaaDoorAmO2
set_option linter.unusedSimpArgs false
set_option linter.unusedVariables false
namespace Go.Am.Seat
open Go.Proofs Go.Am
set_option maxRecDepth 100000

theorem shl4 (a : Int) : abin .shl .u8 a .u64 4 = some (.int .u8 (wrapF .u8 (a * 16))) := by kernel_rfl
theorem or8 (a b : Int) : abin .or .u8 a .u8 b = some (.int .u8 (wrapF .u8 (((a % 256).toNat ||| (b % 256).toNat : Nat) : Int))) := by kernel_rfl
theorem rem2 (k : Int) : abin .rem .i64 k .i64 2 = some (.int .i64 (k.tmod 2)) := by kernel_rfl
theorem quo2 (k : Int) : abin .quo .i64 k .i64 2 = some (.int .i64 (wrapF .i64 (k.tdiv 2))) := by kernel_rfl
theorem neq64 (a b : Int) : abin .neq .i64 a .i64 b = some (.bool (a != b)) := by kernel_rfl
theorem call66 : callableB E.P 66 = true := by kernel_rfl
theorem byte_or {h l : Nat} (hh : h < 16) (hl : l < 16) : wrapF .u8 (((((wrapF .u8 (((h : Nat) : Int) * 16)) % 256).toNat ||| (((l : Nat) : Int) % 256).toNat : Nat)) : Int) = ((16 * h + l : Nat) : Int) := by
  have e1 : ((wrapF .u8 (((h : Nat) : Int) * 16)) % 256).toNat = 2 ^ 4 * h := by simp only [wrapF]; omega
  have e2 : (((l : Nat) : Int) % 256).toNat = l := by omega
  have e3 : 2 ^ 4 * h ||| l = 2 ^ 4 * h + l := (Nat.two_pow_add_eq_or_of_lt (show l < 2 ^ 4 by omega) h).symm
  rw [e1, e2, e3]
  simp only [wrapF]
  omega

/-- What leads nowhere is asked over the tables alone. -/
theorem ainv_lit {self : Self} {g : FuncId} {args : List Value} {m m1 : Mem} {v : Value} (ha : args.all lit2 = true) (hf : E.fast g = none) (h : self g args ((m.take E.G).map onlyTab) = some (v, m1)) (hv : lit2 v = true) : ainv E self g args m = some (v, m) := by
  unfold ainv
  rw [if_pos ha, hf, h]
  simp only
  unfold acoll
  rw [if_pos hv]

def parOk (t : List UInt8) (k : Nat) : Bool := digitB (t.getD (2 * k) 0).toNat && digitB (t.getD (2 * k + 1) 0).toNat
def parV (t : List UInt8) (k : Nat) : Nat := 16 * digitV (t.getD (2 * k) 0).toNat + digitV (t.getD (2 * k + 1) 0).toNat
theorem digitV_lt (c : Nat) : digitV c < 16 := by
  unfold digitV
  split <;> (try split) <;> omega
def parsed (t : List UInt8) : List UInt8 := (List.range (t.length / 2)).map fun k => UInt8.ofNat (parV t k)

section
variable {self : Self} {nf : Nat} {m : Mem} {F : Nat → Value} {s : ByteArray} {k b cap : Nat} {cs : List Value}

theorem app_inplace {c : Int} (hb : m[b]? = some (.row false 5 cs)) (hk : k < cap) (hc : cs.length = cap) :
    aappend E.P 35 35 (.slice (some ⟨b, 0, none⟩) k cap) (.slice (some ⟨m.length, 0, none⟩) 1 1) (m ++ [.row false 5 [.int .u8 c]]) =
      some (.slice (some ⟨b, 0, none⟩) (k + 1) cap, (m ++ [Blk.row false 5 [.int .u8 c]]).set b (.row false 5 (cs.set k (.int .u8 c)))) := by
  obtain ⟨i, z, h1, h2, h3, h4, h5⟩ := info5
  have hbm := lt_of_at hb
  have hb2 : (m ++ [Blk.row false 5 [.int .u8 c]])[b]? = some (.row false 5 cs) := by rw [List.getElem?_append_left hbm]; exact hb
  unfold aappend
  simp only [show E.P.underlying 35 = some (.slice 5) from Tryd.underlying35, h1, h2, h3, src_byte, isIntD, h4, h5, hb2]
  rw [if_neg (by simp [cellOk]), if_pos (by omega), if_pos (by simp; omega)]
  simp [lay]

/-- The row so far. -/
def ParI (t : List UInt8) (b cap k : Nat) (m : Mem) : Prop := ∃ cs : List Value, m[b]? = some (.row false 5 cs) ∧ cs.length = cap ∧ cs.take k = ((List.range k).map fun j => ((parV t j : Nat) : Int)).map (.int .u8)

theorem w2 {i : Nat} (h : i < 1000000000) : wrapF .i64 ((i : Int) + 2) = ((i + 2 : Nat) : Int) := by
  rw [wrap_i64 (by omega) (by omega)]
  omega

theorem iterPar (h0 : F 0 = .string s) (h4 : F 4 = .slice (some ⟨b, 0, none⟩) k cap) (h5 : F 5 = .int .i64 ((2 * k : Nat) : Int)) (hk : k < cap) (hcap : 2 * cap = s.data.toList.length) (hl : s.data.toList.length ≤ 2000)
    (hd : ∀ (c : Nat) (m : Mem), c < 256 → ainv E self 66 [.int .u8 (c : Nat)] m = some (.tuple ⟨[.int .u8 (digitV c : Nat), .bool (digitB c)]⟩, m))
    (hI : ParI s.data.toList b cap k m) (hok : parOk s.data.toList k = true) :
    ∃ F' m', acodeN E self nf lppar_0 (lst F 54) m = some (.normal, lst F' 54, m') ∧ F' 0 = .string s ∧ F' 4 = .slice (some ⟨b, 0, none⟩) (k + 1) cap ∧ F' 5 = .int .i64 ((2 * (k + 1) : Nat) : Int) ∧ ParI s.data.toList b cap (k + 1) m' := by
  obtain ⟨cs, hb, hcs, htk⟩ := hI
  have hlt : decide (((2 * k : Nat) : Int) < ((s.data.toList.length : Nat) : Int)) = true := decide_eq_true (by omega)
  have g1 : s.data.toList[2 * k]? = some (s.data.toList.getD (2 * k) 0) := by
    rw [List.getD_eq_getElem?_getD, List.getElem?_eq_getElem (by omega)]; rfl
  have g2 : s.data.toList[2 * k + 1]? = some (s.data.toList.getD (2 * k + 1) 0) := by
    rw [List.getD_eq_getElem?_getD, List.getElem?_eq_getElem (by omega)]; rfl
  have i1 := index9 g1
  have i2 := index9 g2
  have hw1 := w1 (i := 2 * k) (by omega)
  have hw2 := w2 (i := 2 * k) (by omega)
  unfold parOk at hok
  simp only [Bool.and_eq_true] at hok
  obtain ⟨o1, o2⟩ := hok
  have d1 := hd (s.data.toList.getD (2 * k) 0).toNat m (UInt8.toNat_lt _)
  have d2 := hd (s.data.toList.getD (2 * k + 1) 0).toNat m (UInt8.toNat_lt _)
  rw [o1] at d1
  rw [o2] at d2
  have hbo := byte_or (digitV_lt (s.data.toList.getD (2 * k) 0).toNat) (digitV_lt (s.data.toList.getD (2 * k + 1) 0).toNat)
  have happ := app_inplace (c := ((parV s.data.toList k : Nat) : Int)) hb hk hcs
  unfold parV at happ
  simp only [lppar_0_eq, rpar_0, rpar_1, rpar_2, rpar_3, rpar_4, rpar_5, rpar_6, rpar_7, rpar_8, rpar_9, rpar_10, rpar_11, rpar_12, Tryd.f39, List.append_eq, List.cons_append, List.nil_append, apure_call1, apure_call2, apure_call3, bft, btf, acodeN, List.getElem?_toArray, List.getElem?_cons_zero, List.getElem?_cons_succ, aopsN, adrawT, agd, cls, astep, aop, afloat, ev, nth_lst, get_lst, aput, setAt_lst, upd_at, init_zero, init_succ, init_nil, Nat.reduceLT, Nat.reduceEqDiff, reduceIte, abuiltin, alen, Option.map_some, Option.map_none, orElse_some, apure_add, apure_eql, apure_neq, List.map_cons, List.map_nil, List.all_cons, List.all_nil, lit2, lit1, lit0, List.isEmpty_nil, Bool.and_self, Bool.and_true, Bool.true_and, Bool.false_and, Bool.and_false, Bool.not_true, Bool.not_false, Bool.or_true, Bool.true_or, Bool.false_or, Bool.or_false, Bool.false_eq_true, if_true, if_false, List.length_map, beq_self_eq_true, und3, und4, und5, und9, h0, h4, h5, lss64, hlt, i1, i2, add64', hw1, hw2, call66, d1, d2, aextract, shl4, or8, hbo, build35, happ]
  refine ⟨_, _, rfl, by simp only [upd_at, Nat.reduceEqDiff, reduceIte, h0], by simp only [upd_at, Nat.reduceEqDiff, reduceIte], by simp only [upd_at, Nat.reduceEqDiff, reduceIte]; rfl, cs.set k (.int .u8 ((parV s.data.toList k : Nat) : Int)), ?_, by simp [hcs], ?_⟩
  · have hbm := lt_of_at hb
    rw [List.getElem?_set_self (by simp; omega)]
    rfl
  · rw [List.range_succ, List.map_append, List.map_append, ← htk, List.take_add_one, List.take_set_of_le (by omega), List.getElem?_set_self (by omega)]
    rfl
theorem badPar (h0 : F 0 = .string s) (h5 : F 5 = .int .i64 ((2 * k : Nat) : Int)) (hk : k < cap) (hcap : 2 * cap = s.data.toList.length) (hl : s.data.toList.length ≤ 2000)
    (hd : ∀ (c : Nat) (m : Mem), c < 256 → ainv E self 66 [.int .u8 (c : Nat)] m = some (.tuple ⟨[.int .u8 (digitV c : Nat), .bool (digitB c)]⟩, m))
    (hok : parOk s.data.toList k = false) :
    ∃ F', acodeN E self nf lppar_0 (lst F 54) m = some (.ret, lst F' 54, m) ∧ F' 2 = .string ⟨#[]⟩ ∧ F' 3 = .bool false := by
  have hlt : decide (((2 * k : Nat) : Int) < ((s.data.toList.length : Nat) : Int)) = true := decide_eq_true (by omega)
  have g1 : s.data.toList[2 * k]? = some (s.data.toList.getD (2 * k) 0) := by
    rw [List.getD_eq_getElem?_getD, List.getElem?_eq_getElem (by omega)]; rfl
  have g2 : s.data.toList[2 * k + 1]? = some (s.data.toList.getD (2 * k + 1) 0) := by
    rw [List.getD_eq_getElem?_getD, List.getElem?_eq_getElem (by omega)]; rfl
  have i1 := index9 g1
  have i2 := index9 g2
  have hw1 := w1 (i := 2 * k) (by omega)
  have d1 := hd (s.data.toList.getD (2 * k) 0).toNat m (UInt8.toNat_lt _)
  have d2 := hd (s.data.toList.getD (2 * k + 1) 0).toNat m (UInt8.toNat_lt _)
  unfold parOk at hok
  cases o1 : digitB (s.data.toList.getD (2 * k) 0).toNat with
  | false =>
    rw [o1] at d1
    simp only [lppar_0_eq, rpar_0, rpar_1, rpar_2, rpar_3, rpar_4, rpar_5, rpar_6, rpar_7, rpar_8, rpar_9, rpar_10, rpar_11, rpar_12, Tryd.f39, List.append_eq, List.cons_append, List.nil_append, apure_call1, apure_call2, apure_call3, bft, btf, acodeN, List.getElem?_toArray, List.getElem?_cons_zero, List.getElem?_cons_succ, aopsN, adrawT, agd, cls, astep, aop, afloat, ev, nth_lst, get_lst, aput, setAt_lst, upd_at, init_zero, init_succ, init_nil, Nat.reduceLT, Nat.reduceEqDiff, reduceIte, abuiltin, alen, Option.map_some, Option.map_none, orElse_some, apure_add, apure_eql, apure_neq, List.map_cons, List.map_nil, List.all_cons, List.all_nil, lit2, lit1, lit0, List.isEmpty_nil, Bool.and_self, Bool.and_true, Bool.true_and, Bool.false_and, Bool.and_false, Bool.not_true, Bool.not_false, Bool.or_true, Bool.true_or, Bool.false_or, Bool.or_false, Bool.false_eq_true, if_true, if_false, List.length_map, beq_self_eq_true, und3, und4, und5, und9, h0, h5, lss64, hlt, i1, i2, add64', hw1, call66, d1, d2, aextract]
    exact ⟨_, rfl, by simp only [upd_at, Nat.reduceEqDiff, reduceIte], by simp only [upd_at, Nat.reduceEqDiff, reduceIte]⟩
  | true =>
    rw [o1] at d1 hok
    have o2 : digitB (s.data.toList.getD (2 * k + 1) 0).toNat = false := by simpa using hok
    rw [o2] at d2
    simp only [lppar_0_eq, rpar_0, rpar_1, rpar_2, rpar_3, rpar_4, rpar_5, rpar_6, rpar_7, rpar_8, rpar_9, rpar_10, rpar_11, rpar_12, Tryd.f39, List.append_eq, List.cons_append, List.nil_append, apure_call1, apure_call2, apure_call3, bft, btf, acodeN, List.getElem?_toArray, List.getElem?_cons_zero, List.getElem?_cons_succ, aopsN, adrawT, agd, cls, astep, aop, afloat, ev, nth_lst, get_lst, aput, setAt_lst, upd_at, init_zero, init_succ, init_nil, Nat.reduceLT, Nat.reduceEqDiff, reduceIte, abuiltin, alen, Option.map_some, Option.map_none, orElse_some, apure_add, apure_eql, apure_neq, List.map_cons, List.map_nil, List.all_cons, List.all_nil, lit2, lit1, lit0, List.isEmpty_nil, Bool.and_self, Bool.and_true, Bool.true_and, Bool.false_and, Bool.and_false, Bool.not_true, Bool.not_false, Bool.or_true, Bool.true_or, Bool.false_or, Bool.or_false, Bool.false_eq_true, if_true, if_false, List.length_map, beq_self_eq_true, und3, und4, und5, und9, h0, h5, lss64, hlt, i1, i2, add64', hw1, call66, d1, d2, aextract]
    exact ⟨_, rfl, by simp only [upd_at, Nat.reduceEqDiff, reduceIte], by simp only [upd_at, Nat.reduceEqDiff, reduceIte]⟩

theorem lastPar (h0 : F 0 = .string s) (h5 : F 5 = .int .i64 ((2 * k : Nat) : Int)) (hk : s.data.toList.length ≤ 2 * k) :
    ∃ F', acodeN E self nf lppar_0 (lst F 54) m = some (.exit 0, lst F' 54, m) ∧ F' 4 = F 4 := by
  have hlt : decide (((2 * k : Nat) : Int) < ((s.data.toList.length : Nat) : Int)) = false := decide_eq_false (by omega)
  simp only [lppar_0_eq, rpar_0, rpar_1, rpar_2, rpar_3, rpar_4, rpar_5, rpar_6, rpar_7, rpar_8, rpar_9, rpar_10, rpar_11, rpar_12, Tryd.f39, List.append_eq, List.cons_append, List.nil_append, apure_call1, apure_call2, apure_call3, bft, btf, acodeN, List.getElem?_toArray, List.getElem?_cons_zero, List.getElem?_cons_succ, aopsN, adrawT, agd, cls, astep, aop, afloat, ev, nth_lst, get_lst, aput, setAt_lst, upd_at, init_zero, init_succ, init_nil, Nat.reduceLT, Nat.reduceEqDiff, reduceIte, abuiltin, alen, Option.map_some, Option.map_none, orElse_some, apure_add, apure_eql, apure_neq, List.map_cons, List.map_nil, List.all_cons, List.all_nil, lit2, lit1, lit0, List.isEmpty_nil, Bool.and_self, Bool.and_true, Bool.true_and, Bool.false_and, Bool.and_false, Bool.not_true, Bool.not_false, Bool.or_true, Bool.true_or, Bool.false_or, Bool.or_false, Bool.false_eq_true, if_true, if_false, List.length_map, beq_self_eq_true, und3, und4, und5, und9, h0, h5, lss64, hlt]
  exact ⟨_, rfl, by simp only [upd_at, Nat.reduceEqDiff, reduceIte]⟩

def allOk (t : List UInt8) : Bool := decide (t.length % 2 = 0) && (List.range (t.length / 2)).all (parOk t)

theorem loopPar (h0 : F 0 = .string s) (h4 : F 4 = .slice (some ⟨b, 0, none⟩) 0 cap) (h5 : F 5 = .int .i64 0) (hcap : 2 * cap = s.data.toList.length) (hl : s.data.toList.length ≤ 2000)
    (hd : ∀ (c : Nat) (m : Mem), c < 256 → ainv E self 66 [.int .u8 (c : Nat)] m = some (.tuple ⟨[.int .u8 (digitV c : Nat), .bool (digitB c)]⟩, m))
    (hI : ParI s.data.toList b cap 0 m) {f : Nat} (hf : 1000 < f) :
    ∃ e F' m', aloop (acodeN E self nf lppar_0) f (lst F 54) m = some (e, lst F' 54, m') ∧
      ((e = .exit 0 ∧ (∀ k, k < cap → parOk s.data.toList k = true) ∧ F' 4 = .slice (some ⟨b, 0, none⟩) cap cap ∧ ParI s.data.toList b cap cap m') ∨
       (e = .ret ∧ (∃ k, k < cap ∧ parOk s.data.toList k = false) ∧ F' 2 = .string ⟨#[]⟩ ∧ F' 3 = .bool false)) := by
  have := aloop_inv (body := acodeN E self nf lppar_0) (N := cap)
    (I := fun k T m' => (∀ j, j < k → parOk s.data.toList j = true) ∧ ParI s.data.toList b cap k m' ∧ ∃ F, T = lst F 54 ∧ F 0 = .string s ∧ F 4 = .slice (some ⟨b, 0, none⟩) k cap ∧ F 5 = .int .i64 ((2 * k : Nat) : Int))
    (Q := fun e T m' => ∃ F', T = lst F' 54 ∧ ((e = .exit 0 ∧ (∀ k, k < cap → parOk s.data.toList k = true) ∧ F' 4 = .slice (some ⟨b, 0, none⟩) cap cap ∧ ParI s.data.toList b cap cap m') ∨
       (e = .ret ∧ (∃ k, k < cap ∧ parOk s.data.toList k = false) ∧ F' 2 = .string ⟨#[]⟩ ∧ F' 3 = .bool false))) (fun k T m' hk hI => by
      obtain ⟨hall, hp, F, rfl, g0, g4, g5⟩ := hI
      by_cases hlt : k < cap
      · cases hok : parOk s.data.toList k with
        | true =>
          left
          obtain ⟨F', m2, hr, f0, f4, f5, hp'⟩ := iterPar (self := self) (nf := nf) g0 g4 g5 hlt hcap hl hd hp hok
          refine ⟨_, _, hr, hlt, fun j hj => ?_, hp', F', rfl, f0, f4, f5⟩
          by_cases hjk : j = k
          · rw [hjk]; exact hok
          · exact hall j (by omega)
        | false =>
          right
          obtain ⟨F', hr, f2, f3⟩ := badPar (self := self) (nf := nf) (m := m') g0 g5 hlt hcap hl hd hok
          exact ⟨_, _, _, hr, by simp, F', rfl, .inr ⟨rfl, ⟨k, hlt, hok⟩, f2, f3⟩⟩
      · right
        have hkc : k = cap := by omega
        subst hkc
        obtain ⟨F', hr, f4⟩ := lastPar (self := self) (nf := nf) (m := m') g0 g5 (by omega)
        exact ⟨_, _, _, hr, by simp, F', rfl, .inl ⟨rfl, hall, by rw [f4, g4], hp⟩⟩) cap 0 f (lst F 54) m (by omega) (by omega) ⟨fun j hj => by omega, hI, F, rfl, h0, h4, h5⟩
  obtain ⟨e, T', m', hr, F', rfl, h⟩ := this
  exact ⟨e, F', m', hr, h⟩

theorem make35 (c : Nat) (hc : c < 1000000) (m : Mem) : amakeSlice E.P 35 (.int .i64 0) (.int .i64 (c : Nat)) m = some (.slice (some ⟨m.length, 0, none⟩) 0 c, m ++ [.row false 5 (List.replicate c (.int .u8 0))]) := by
  have hz : zero1 E.P 5 = some (.int .u8 0) := by kernel_rfl
  have hi : (E.P.info? 5).map (·.bytes) = some 1 := by kernel_rfl
  obtain ⟨i, h1, h2⟩ := Option.map_eq_some_iff.1 hi
  unfold amakeSlice
  simp only [show E.P.underlying 35 = some (.slice 5) from Tryd.underlying35, hz, h1, h2]
  rw [wrap_i64 (n := (c : Int)) (by omega) (by omega), wrap_i64 (n := 0) (by omega) (by omega), if_pos (by omega)]
  simp

/-- Parse, at any text. -/
theorem par_body (hl : s.data.toList.length ≤ 2000) (hf : 1000 < nf)
    (hd : ∀ (c : Nat) (m : Mem), c < 256 → ainv E self 66 [.int .u8 (c : Nat)] m = some (.tuple ⟨[.int .u8 (digitV c : Nat), .bool (digitB c)]⟩, m)) :
    ∃ m', abody E self nf 39 [.string s] m = some (.tuple ⟨[.string (if allOk s.data.toList then bytesOfL (parsed s.data.toList) else ⟨#[]⟩), .bool (allOk s.data.toList)]⟩, m') := by
  rw [abody_eqF (by kernel_rfl) Tryd.func39 bodypar (by kernel_rfl) (Nat.le_of_ble_eq_true rfl)]
  rw [show Tryd.f39.ntmps = 54 from rfl]
  have hrem : (((s.data.toList.length : Nat) : Int).tmod 2 != 0) = !decide (s.data.toList.length % 2 = 0) := by
    rw [Int.tmod_eq_emod_of_nonneg (by omega)]
    generalize s.data.toList.length = q
    by_cases h : q % 2 = 0
    · have : ((q : Nat) : Int) % 2 = 0 := by omega
      rw [this, decide_eq_true h]; rfl
    · have : ((q : Nat) : Int) % 2 = 1 := by omega
      rw [this, decide_eq_false h]; rfl
  cases hev : decide (s.data.toList.length % 2 = 0) with
  | false =>
    rw [hev] at hrem
    have ha : allOk s.data.toList = false := by unfold allOk; rw [hev]; rfl
    simp only [rpar_0, rpar_1, rpar_2, rpar_3, rpar_4, rpar_5, rpar_6, rpar_7, rpar_8, rpar_9, rpar_10, rpar_11, rpar_12, Tryd.f39, List.append_eq, List.cons_append, List.nil_append, apure_call1, apure_call2, apure_call3, bft, btf, acodeN, List.getElem?_toArray, List.getElem?_cons_zero, List.getElem?_cons_succ, aopsN, adrawT, agd, cls, astep, aop, afloat, ev, nth_lst, get_lst, aput, setAt_lst, upd_at, init_zero, init_succ, init_nil, Nat.reduceLT, Nat.reduceEqDiff, reduceIte, abuiltin, alen, Option.map_some, Option.map_none, orElse_some, apure_add, apure_eql, apure_neq, List.map_cons, List.map_nil, List.all_cons, List.all_nil, lit2, lit1, lit0, List.isEmpty_nil, Bool.and_self, Bool.and_true, Bool.true_and, Bool.false_and, Bool.and_false, Bool.not_true, Bool.not_false, Bool.or_true, Bool.true_or, Bool.false_or, Bool.or_false, Bool.false_eq_true, if_true, if_false, List.length_map, beq_self_eq_true, und3, und4, und5, und9, rem2, neq64, hrem, finish, ares, aresL, ares1, ha]
    exact ⟨_, rfl⟩
  | true =>
    rw [hev] at hrem
    have hev' := of_decide_eq_true hev
    have hq : wrapF .i64 (((s.data.toList.length : Nat) : Int).tdiv 2) = ((s.data.toList.length / 2 : Nat) : Int) := by
      rw [Int.tdiv_eq_ediv_of_nonneg (by omega), wrap_i64 (by omega) (by omega)]
      omega
    have hmk := make35 (s.data.toList.length / 2) (by omega) m
    obtain ⟨e, F', m', hr, hcase⟩ := loopPar (self := self) (nf := nf) (s := s) (b := m.length) (cap := s.data.toList.length / 2) (m := m ++ [.row false 5 (List.replicate (s.data.toList.length / 2) (.int .u8 0))])
      (F := upd (upd (upd (upd (upd (upd (upd (upd (upd (upd (upd (upd (init [.string s]) 2 (.string ⟨#[]⟩)) 3 (.bool false)) 10 (.string s)) 11 (.int .i64 ((s.data.toList.length : Nat) : Int))) 12 (.int .i64 (((s.data.toList.length : Nat) : Int).tmod 2))) 13 (.bool (!true))) 14 (.string s)) 15 (.int .i64 ((s.data.toList.length : Nat) : Int))) 16 (.int .i64 ((s.data.toList.length / 2 : Nat) : Int))) 17 (.slice (some ⟨m.length, 0, none⟩) 0 (s.data.toList.length / 2))) 4 (.slice (some ⟨m.length, 0, none⟩) 0 (s.data.toList.length / 2))) 5 (.int .i64 0))
      rfl rfl rfl (by omega) hl hd ⟨List.replicate (s.data.toList.length / 2) (.int .u8 0), by simp, by rw [List.length_replicate], rfl⟩ hf
    simp only [Bool.not_true] at hr
    rcases hcase with ⟨rfl, hall, f4, cs, hb, hcs, htk⟩ | ⟨rfl, ⟨k, hk, hbad⟩, f2, f3⟩
    · have ha : allOk s.data.toList = true := by
        unfold allOk
        rw [hev, Bool.true_and, List.all_eq_true]
        intro k hk
        exact hall k (List.mem_range.1 hk)
      have hc := conv35_str (c := s.data.toList.length / 2) hb htk (by omega)
      have he : ((List.range (s.data.toList.length / 2)).map fun j => ((parV s.data.toList j : Nat) : Int)).map (fun n => UInt8.ofNat n.toNat) = parsed s.data.toList := by
        rw [List.map_map]
        rfl
      rw [he] at hc
      simp only [rpar_0, rpar_1, rpar_2, rpar_3, rpar_4, rpar_5, rpar_6, rpar_7, rpar_8, rpar_9, rpar_10, rpar_11, rpar_12, Tryd.f39, List.append_eq, List.cons_append, List.nil_append, apure_call1, apure_call2, apure_call3, bft, btf, acodeN, List.getElem?_toArray, List.getElem?_cons_zero, List.getElem?_cons_succ, aopsN, adrawT, agd, cls, astep, aop, afloat, ev, nth_lst, get_lst, aput, setAt_lst, upd_at, init_zero, init_succ, init_nil, Nat.reduceLT, Nat.reduceEqDiff, reduceIte, abuiltin, alen, Option.map_some, Option.map_none, orElse_some, apure_add, apure_eql, apure_neq, List.map_cons, List.map_nil, List.all_cons, List.all_nil, lit2, lit1, lit0, List.isEmpty_nil, Bool.and_self, Bool.and_true, Bool.true_and, Bool.false_and, Bool.and_false, Bool.not_true, Bool.not_false, Bool.or_true, Bool.true_or, Bool.false_or, Bool.or_false, Bool.false_eq_true, if_true, if_false, List.length_map, beq_self_eq_true, und3, und4, und5, und9, rem2, quo2, neq64, hrem, hq, hmk, hr, f4, aconv35, apure_convert, isAddr, hc, finish, ares, aresL, ares1, ha]
      exact ⟨_, rfl⟩
    · have ha : allOk s.data.toList = false := by
        unfold allOk
        rw [hev, Bool.true_and]
        cases h9 : (List.range (s.data.toList.length / 2)).all (parOk s.data.toList) with
        | false => rfl
        | true =>
          have := List.all_eq_true.1 h9 k (List.mem_range.2 hk)
          rw [hbad] at this
          cases this
      simp only [rpar_0, rpar_1, rpar_2, rpar_3, rpar_4, rpar_5, rpar_6, rpar_7, rpar_8, rpar_9, rpar_10, rpar_11, rpar_12, Tryd.f39, List.append_eq, List.cons_append, List.nil_append, apure_call1, apure_call2, apure_call3, bft, btf, acodeN, List.getElem?_toArray, List.getElem?_cons_zero, List.getElem?_cons_succ, aopsN, adrawT, agd, cls, astep, aop, afloat, ev, nth_lst, get_lst, aput, setAt_lst, upd_at, init_zero, init_succ, init_nil, Nat.reduceLT, Nat.reduceEqDiff, reduceIte, abuiltin, alen, Option.map_some, Option.map_none, orElse_some, apure_add, apure_eql, apure_neq, List.map_cons, List.map_nil, List.all_cons, List.all_nil, lit2, lit1, lit0, List.isEmpty_nil, Bool.and_self, Bool.and_true, Bool.true_and, Bool.false_and, Bool.and_false, Bool.not_true, Bool.not_false, Bool.or_true, Bool.true_or, Bool.false_or, Bool.or_false, Bool.false_eq_true, if_true, if_false, List.length_map, beq_self_eq_true, und3, und4, und5, und9, rem2, quo2, neq64, hrem, hq, hmk, hr, f2, f3, finish, ares, aresL, ares1, ha]
      exact ⟨_, rfl⟩
end
end Go.Am.Seat
