/-
  Texts of my own, put together: V, W, X, Y, S9, BU6, BT1, BT2, BT3, BT4, BT5.
-/
import Derived.Test.YtalilffocbkfnaaDoorGrChainTexts10
import Derived.Test.YtalilffocbkfnaaDoorGrChainTexts8
import Derived.Lib.UnsafeStr
import Derived.Test.YtalilffocbkfnaaDoorGrChainTexts9
import Derived.Test.YtalilffocbkfnaaDoorGrChainTexts13
import Derived.Test.YtalilffocbkfnaaDoorGrChainTexts11
/-
  The Builder's methods on the abstract machine, for any bytes (own work).
-/
set_option linter.unusedSimpArgs false
set_option linter.unusedVariables false
namespace Go.Am.Seat
open Go.Proofs Go.Am
set_option maxRecDepth 100000

theorem fa86_0 (b o : Nat) : afieldAddr E.P 66 (.pointer (some ⟨b, o, none⟩)) 0 = some (.pointer (some ⟨b, o + 0, none⟩)) := by kernel_rfl
theorem fa86_1 (b o : Nat) : afieldAddr E.P 66 (.pointer (some ⟨b, o, none⟩)) 1 = some (.pointer (some ⟨b, o + 1, none⟩)) := by kernel_rfl
theorem load35 (b o : Nat) (m : Mem) : aload E.P 56 (.pointer (some ⟨b, o, none⟩)) m = cellAt m b o := aload_cell Tryd.underlying56 rfl b o m
theorem load84 (b o : Nat) (m : Mem) : aload E.P 64 (.pointer (some ⟨b, o, none⟩)) m = cellAt m b o := aload_cell Tryd.underlying64 rfl b o m
theorem build35 (c : Int) (m : Mem) : abuildSlice E.P 56 1 [(0, .int .u8 c)] m = some (.slice (some ⟨m.length, 0, none⟩) 1 1, m ++ [.row false 5 [.int .u8 c]]) := by kernel_rfl
theorem call79 : callableB E.P 42 = true := by kernel_rfl
theorem wr79 : E.wr 42 = true := by kernel_rfl
theorem call94 : callableB E.P 49 = false := by kernel_rfl
theorem ext94 : E.ext 49 = some .same := by kernel_rfl
theorem conv84 (q : Nat) : aconv E.P 64 97 (.pointer (some ⟨q, 0, none⟩)) = none := by kernel_rfl
theorem conv127 (q : Nat) : aconv E.P 97 64 (.pointer (some ⟨q, 0, none⟩)) = none := by kernel_rfl
theorem convB84 (q : Nat) (m : Mem) : aconvB E.P 64 97 (.pointer (some ⟨q, 0, none⟩)) m = none := by kernel_rfl
theorem convB127 (q : Nat) (m : Mem) : aconvB E.P 97 64 (.pointer (some ⟨q, 0, none⟩)) m = none := by kernel_rfl
theorem info86 : ∃ i, E.P.info? 66 = some i ∧ i.size ≠ 0 := by
  have h : (E.P.info? 66).map (·.size) = some 2 := by kernel_rfl
  obtain ⟨i, h1, h2⟩ := Option.map_eq_some_iff.1 h
  exact ⟨i, h1, by omega⟩
theorem info84 : ∃ i, E.P.info? 64 = some i ∧ i.size = 1 := by
  have h : (E.P.info? 64).map (·.size) = some 1 := by kernel_rfl
  exact Option.map_eq_some_iff.1 h
theorem info35 : ∃ i, E.P.info? 56 = some i ∧ i.size = 1 := by
  have h : (E.P.info? 56).map (·.size) = some 1 := by kernel_rfl
  exact Option.map_eq_some_iff.1 h
theorem aeq84 (a : Addr) : aeq E.P 64 (.pointer (some a)) (.pointer (some a)) = some true := by
  obtain ⟨i, h1, h2⟩ := info86
  exact aeq_same Tryd.underlying64 h1 h2 a
theorem aeq84n (a : Addr) : aeq E.P 64 (.pointer (some a)) (.pointer none) = some false := by kernel_rfl
theorem ptr84 {m : Mem} {q : Nat} {cs : List Value} (h : m[q]? = some (.row false 66 cs)) (hc : cs.length = 2) : aptr E.P 64 97 (.pointer (some ⟨q, 0, none⟩)) m = some (.pointer (some ⟨q, 0, none⟩)) := by
  obtain ⟨i, h1, h2⟩ := info86
  exact aptr_to Tryd.underlying64 Tryd.underlying97 h1 h2 h (by omega)
theorem ptr127 {m : Mem} {q : Nat} {cs : List Value} (h : m[q]? = some (.row false 66 cs)) (hc : cs.length = 2) : aptr E.P 97 64 (.pointer (some ⟨q, 0, none⟩)) m = some (.pointer (some ⟨q, 0, none⟩)) := by
  obtain ⟨i, h1, h2⟩ := info86
  exact aptr_from Tryd.underlying97 Tryd.underlying64 h1 h2 h (by rw [hc]; kernel_rfl)
theorem store84 {m : Mem} {q o : Nat} {cs : List Value} (h : m[q]? = some (.row false 66 cs)) (ho : o < cs.length) (a : Option Addr) : astore E.P 64 (.pointer (some ⟨q, o, none⟩)) (.pointer a) m = some (m.set q (.row false 66 (cs.set o (.pointer a)))) := by
  obtain ⟨i, h1, h2⟩ := info84
  exact astore_cell h1 h2 h ho rfl
theorem store35 {m : Mem} {q o : Nat} {cs : List Value} (h : m[q]? = some (.row false 66 cs)) (ho : o < cs.length) (a : Option Addr) (n c : Nat) : astore E.P 56 (.pointer (some ⟨q, o, none⟩)) (.slice a n c) m = some (m.set q (.row false 66 (cs.set o (.slice a n c)))) := by
  obtain ⟨i, h1, h2⟩ := info35
  exact astore_cell h1 h2 h ho rfl

section
variable {K : List Fact} {n q : Nat} {m : Mem}

theorem copy_fresh (hK : hasF K 42 = false) {bf : Value} (hq : m[q]? = some (.row false 66 [.pointer none, bf])) :
    runK E mem2 K (n + 1) 42 [.pointer (some ⟨q, 0, none⟩)] m = some (.tuple ⟨[]⟩, m.set q (.row false 66 [.pointer (some ⟨q, 0, none⟩), bf])) := by
  rw [runK_other hK, abody_eqN (by kernel_rfl) Tryd.func42 rfl (by kernel_rfl)]
  rw [show ([Value.pointer (some ⟨q, 0, none⟩)] ++ List.replicate (Tryd.f42.ntmps - [Value.pointer (some ⟨q, 0, none⟩)].length) undef) = [.pointer (some ⟨q, 0, none⟩), undef, undef, undef, undef, undef, undef, undef, undef, undef, undef, undef, undef, undef, undef, undef, undef, undef, undef, undef] from rfl]
  have hc0 : cellAt m q 0 = some (.pointer none) := cellAt_row hq 0
  have hp : ∀ (v2 v3 v4 : Value) (pos : String) (af : Array Edge), apureC E.P [.pointer (some ⟨q, 0, none⟩), undef, v2, v3, v4, .pointer none, undef, undef, undef, undef, undef, undef, undef, undef, undef, undef, undef, undef, undef, undef]
      { dst := some 6, op := .binOp .eql 64 (.tmp 5) (.const (.pointer none)) 64, type := 4, pos := pos, after := af, guard := none } = some (.bool true) := by
    intro v2 v3 v4 pos af
    kernel_rfl
  simp only [acodeN, aopsN, agd, astep, aop, ev, nth_zero, nth_succ, aput, setAt_zero, setAt_succ, Option.map_some, Option.map_none, fa86_0, load84, hc0, hp, Nat.zero_add, Nat.add_zero, call94, ext94, conv84, conv127, convB84, convB127, ptr84 hq rfl, ptr127 hq rfl, apure_convert, apure_binOp, isAddr, List.isEmpty_nil, Bool.and_self, if_true, aext, List.map_cons, List.map_nil, store84 hq (show 0 < 2 by omega)]
  rfl

theorem copy_used (hK : hasF K 42 = false) {bf : Value} (hq : m[q]? = some (.row false 66 [.pointer (some ⟨q, 0, none⟩), bf])) :
    runK E mem2 K (n + 1) 42 [.pointer (some ⟨q, 0, none⟩)] m = some (.tuple ⟨[]⟩, m) := by
  rw [runK_other hK, abody_eqN (by kernel_rfl) Tryd.func42 rfl (by kernel_rfl)]
  rw [show ([Value.pointer (some ⟨q, 0, none⟩)] ++ List.replicate (Tryd.f42.ntmps - [Value.pointer (some ⟨q, 0, none⟩)].length) undef) = [.pointer (some ⟨q, 0, none⟩), undef, undef, undef, undef, undef, undef, undef, undef, undef, undef, undef, undef, undef, undef, undef, undef, undef, undef, undef] from rfl]
  have hc0 : cellAt m q 0 = some (.pointer (some ⟨q, 0, none⟩)) := cellAt_row hq 0
  simp only [acodeN, aopsN, agd, astep, aop, ev, nth_zero, nth_succ, aput, setAt_zero, setAt_succ, Option.map_some, Option.map_none, fa86_0, load84, hc0, Nat.zero_add, Nat.add_zero, apure_binOp, isAddr, aeq84, aeq84n, Bool.not_true]
  rfl

/-- The buffer: nothing yet, or these bytes. -/
def Buf (m : Mem) (q : Nat) (l : List Int) : Prop :=
  (l = [] ∧ m[q]? = some (.row false 66 [.pointer none, .slice none 0 0])) ∨
  (∃ b, q < b ∧ m[q]? = some (.row false 66 [.pointer (some ⟨q, 0, none⟩), .slice (some ⟨b, 0, none⟩) l.length l.length]) ∧ m[b]? = some (.row false 5 (l.map (.int .u8))) ∧ l ≠ [])

/-- What lies ahead of the Builder stays. -/
def Keeps (m : Mem) (q : Nat) (m' : Mem) : Prop := ∀ k, k < q → m'[k]? = m[k]?

theorem Keeps.trans {m1 m2 m3 : Mem} {q : Nat} (h : Keeps m1 q m2) (h' : Keeps m2 q m3) : Keeps m1 q m3 := fun k hk => (h' k hk).trans (h k hk)

theorem info5 : ∃ i z, E.P.info? 5 = some i ∧ i.zero = some z ∧ i.size = 1 ∧ i.bytes = 1 ∧ z.cells.size = 1 := by
  have h : (E.P.info? 5).map (fun i => (i.size, i.bytes)) = some (1, 1) := by kernel_rfl
  have h2 : ((E.P.info? 5).bind (·.zero)).map (·.cells.size) = some 1 := by kernel_rfl
  obtain ⟨i, h1, h3⟩ := Option.map_eq_some_iff.1 h
  rw [h1] at h2
  obtain ⟨z, h4, h5⟩ := Option.map_eq_some_iff.1 h2
  simp only [Prod.mk.injEq] at h3
  exact ⟨i, z, h1, h4, h3.1, h3.2, h5⟩

theorem app_fresh {xT : TypeId} {xd : TypeDesc} (hd : E.P.underlying xT = some xd) (hi : isIntD xd = false) {x : Value} {k : Nat} {new : List Value} (hx : asrc m 1 x = some (k, new)) (ha : new.all cellOk = true) (h0 : k ≠ 0) (hb : k ≤ 1099511627776) :
    aappend E.P 56 xT (.slice none 0 0) x m = some (.slice (some ⟨m.length, 0, none⟩) k k, m ++ [.row false 5 new]) := by
  obtain ⟨i, z, h1, h2, h3, h4, h5⟩ := info5
  unfold aappend
  simp only [show E.P.underlying 56 = some (.slice 5) from Tryd.underlying56, hd, h1, h2, h3, hx, hi, ha, h4, h5]
  rw [if_neg (by simp), if_neg h0, if_pos (by omega)]

theorem app_used {xT : TypeId} {xd : TypeDesc} (hd : E.P.underlying xT = some xd) (hi : isIntD xd = false) {x : Value} {k : Nat} {new cs : List Value} {b : Nat} (hx : asrc m 1 x = some (k, new)) (ha : new.all cellOk = true) (h0 : k ≠ 0) (hb : cs.length + k ≤ 1099511627776)
    (hm : m[b]? = some (.row false 5 cs)) :
    aappend E.P 56 xT (.slice (some ⟨b, 0, none⟩) cs.length cs.length) x m = some (.slice (some ⟨m.length, 0, none⟩) (cs.length + k) (cs.length + k), m.set b .dead ++ [.row false 5 (cs ++ new)]) := by
  obtain ⟨i, z, h1, h2, h3, h4, h5⟩ := info5
  unfold aappend
  simp only [show E.P.underlying 56 = some (.slice 5) from Tryd.underlying56, hd, h1, h2, h3, hx, hi, ha, h4, h5, hm]
  rw [if_neg (by simp), if_neg (by omega), if_pos ⟨trivial, trivial, by omega, by omega⟩]
  simp

theorem app_none {xT : TypeId} {xd : TypeDesc} (hd : E.P.underlying xT = some xd) (hi : isIntD xd = false) {x : Value} {cs : List Value} {b : Nat} (hx : asrc m 1 x = some (0, []))
    (hm : m[b]? = some (.row false 5 cs)) :
    aappend E.P 56 xT (.slice (some ⟨b, 0, none⟩) cs.length cs.length) x m = some (.slice (some ⟨b, 0, none⟩) cs.length cs.length, m) := by
  obtain ⟨i, z, h1, h2, h3, h4, h5⟩ := info5
  unfold aappend
  simp only [show E.P.underlying 56 = some (.slice 5) from Tryd.underlying56, hd, h1, h2, h3, hx, hi, h4, h5, hm]
  rw [if_neg (by simp), if_pos (by omega), if_pos (by simp)]
  have hl : lay cs (0 + cs.length * 1) [] = cs := by simp [lay]
  rw [hl]
  simp only [Nat.add_zero, Option.some.injEq, Prod.mk.injEq, true_and]
  apply List.ext_getElem?
  intro j
  rw [List.getElem?_set]
  split
  · rename_i hj
    subst hj
    split
    · exact hm.symm
    · rename_i hno
      exact absurd (List.getElem?_eq_some_iff.1 hm).1 hno
  · rfl

theorem body63 {self : Self} {c : Int} {m1 m2 m3 : Mem} {bf nb : Value} (hcc : self 42 [.pointer (some ⟨q, 0, none⟩)] m = some (.tuple ⟨[]⟩, m1)) (hq : cellAt m1 q 1 = some bf)
    (happ : aappend E.P 56 56 bf (.slice (some ⟨m1.length, 0, none⟩) 1 1) (m1 ++ [.row false 5 [.int .u8 c]]) = some (nb, m2)) (hst : astore E.P 56 (.pointer (some ⟨q, 1, none⟩)) nb m2 = some m3) :
    abody E self n 27 [.pointer (some ⟨q, 0, none⟩), .int .u8 c] m = some (.nilIface, m3) := by
  rw [abody_eqN (by kernel_rfl) Tryd.func27 rfl (by kernel_rfl)]
  rw [show ([Value.pointer (some ⟨q, 0, none⟩), .int .u8 c] ++ List.replicate (Tryd.f27.ntmps - [Value.pointer (some ⟨q, 0, none⟩), .int .u8 c].length) undef) = [.pointer (some ⟨q, 0, none⟩), .int .u8 c, undef, undef, undef, undef, undef, undef, undef, undef, undef, undef, undef, undef, undef, undef, undef] from rfl]
  simp only [acodeN, aopsN, agd, astep, aop, ev, nth_zero, nth_succ, aput, setAt_zero, setAt_succ, Option.map_some, ainv, fa86_1, load35, build35, call79, wr79, hcc, hq, happ, hst, List.map_cons, List.map_nil, List.all_cons, List.all_nil, lit2, lit1, lit0, abuiltin, List.isEmpty_nil, Bool.and_self, if_true, Nat.zero_add, Bool.false_and, Bool.false_eq_true, if_false]
  rfl

theorem body65 {self : Self} {s : ByteArray} {m1 m2 m3 : Mem} {bf nb : Value} (hcc : self 42 [.pointer (some ⟨q, 0, none⟩)] m = some (.tuple ⟨[]⟩, m1)) (hq : cellAt m1 q 1 = some bf)
    (happ : aappend E.P 56 9 bf (.string s) m1 = some (nb, m2)) (hst : astore E.P 56 (.pointer (some ⟨q, 1, none⟩)) nb m2 = some m3) :
    ∃ v, abody E self n 28 [.pointer (some ⟨q, 0, none⟩), .string s] m = some (v, m3) := by
  rw [abody_eqN (by kernel_rfl) Tryd.func28 rfl (by kernel_rfl)]
  rw [show ([Value.pointer (some ⟨q, 0, none⟩), .string s] ++ List.replicate (Tryd.f28.ntmps - [Value.pointer (some ⟨q, 0, none⟩), .string s].length) undef) = [.pointer (some ⟨q, 0, none⟩), .string s, undef, undef, undef, undef, undef, undef, undef, undef, undef, undef, undef, undef, undef, undef, undef, undef, undef] from rfl]
  simp only [acodeN, aopsN, agd, astep, aop, ev, nth_zero, nth_succ, aput, setAt_zero, setAt_succ, Option.map_some, ainv, fa86_1, load35, call79, wr79, hcc, hq, happ, hst, List.map_cons, List.map_nil, List.all_cons, List.all_nil, lit2, lit1, lit0, abuiltin, List.isEmpty_nil, Bool.and_self, if_true, Nat.zero_add, Bool.false_and, Bool.false_eq_true, if_false, alen, show E.P.underlying 9 = some .string from Tryd.underlying9]
  exact ⟨_, rfl⟩

theorem src_byte (m1 : Mem) (c : Int) : asrc (m1 ++ [.row false 5 [.int .u8 c]]) 1 (.slice (some ⟨m1.length, 0, none⟩) 1 1) = some (1, [.int .u8 c]) := by
  have h : (m1 ++ [Blk.row false 5 [.int .u8 c]])[m1.length]? = some (.row false 5 [.int .u8 c]) := by simp
  unfold asrc
  simp only [lookRow h]
  rfl

theorem lt_of_at {b : Nat} {x : Blk} (h : m[b]? = some x) : b < m.length := (List.getElem?_eq_some_iff.1 h).1

theorem writeByte (hK : hasF K 42 = false) (hK' : hasF K 27 = false) {l : List Int} (c : Int) (hb : Buf m q l) (hl : l.length ≤ 1000000) :
    ∃ m', runK E mem2 K (n + 2) 27 [.pointer (some ⟨q, 0, none⟩), .int .u8 c] m = some (.nilIface, m') ∧ Buf m' q (l ++ [c]) ∧ Keeps m q m' := by
  rw [runK_other hK']
  rcases hb with ⟨rfl, hq⟩ | ⟨b, hqb, hq, hbb, hne⟩
  · have hqm := lt_of_at hq
    have hcc := copy_fresh (n := n) hK hq
    have h1 : (m.set q (.row false 66 [.pointer (some ⟨q, 0, none⟩), .slice none 0 0]))[q]? = some (.row false 66 [.pointer (some ⟨q, 0, none⟩), .slice none 0 0]) := by simp [hqm]
    generalize hm1 : m.set q (.row false 66 [.pointer (some ⟨q, 0, none⟩), .slice none 0 0]) = m1 at hcc h1
    have hlen : m1.length = m.length := by rw [← hm1]; simp
    have happ := app_fresh (m := m1 ++ [.row false 5 [.int .u8 c]]) (xT := 56) Tryd.underlying56 rfl (src_byte m1 c) rfl (by omega) (by omega)
    have h2 : (m1 ++ [.row false 5 [.int .u8 c]] ++ [.row false 5 [.int .u8 c]])[q]? = some (Blk.row false 66 [.pointer (some ⟨q, 0, none⟩), .slice none 0 0]) := by
      rw [List.getElem?_append_left (by simp; omega), List.getElem?_append_left (by omega)]
      exact h1
    have hst := store35 h2 (o := 1) (show 1 < 2 by omega) (some ⟨(m1 ++ [Blk.row false 5 [.int .u8 c]]).length, 0, none⟩) 1 1
    refine ⟨_, body63 hcc (cellAt_row h1 1) happ hst, .inr ⟨m1.length + 1, by omega, ?_, ?_, by simp⟩, fun k hk => ?_⟩
    · rw [List.getElem?_set_self (by simp; omega)]
      simp
    · rw [List.getElem?_set_ne (by omega)]
      rw [List.getElem?_append_right (by simp)]
      simp
    · rw [List.getElem?_set_ne (by omega), List.getElem?_append_left (by simp; omega), List.getElem?_append_left (by omega), ← hm1, List.getElem?_set_ne (by omega)]
  · have hqm := lt_of_at hq
    have hbm := lt_of_at hbb
    have hcc := copy_used (n := n) hK hq
    have hll : (l.map (Value.int .u8)).length = l.length := by simp
    have hb2 : (m ++ [Blk.row false 5 [.int .u8 c]])[b]? = some (.row false 5 (l.map (.int .u8))) := by rw [List.getElem?_append_left hbm]; exact hbb
    have happ := app_used (m := m ++ [.row false 5 [.int .u8 c]]) (xT := 56) Tryd.underlying56 rfl (src_byte m c) rfl (by omega) (by rw [hll]; omega) hb2
    rw [hll] at happ
    have h2 : ((m ++ [Blk.row false 5 [.int .u8 c]]).set b .dead ++ [.row false 5 (l.map (.int .u8) ++ [.int .u8 c])])[q]? = some (Blk.row false 66 [.pointer (some ⟨q, 0, none⟩), .slice (some ⟨b, 0, none⟩) l.length l.length]) := by
      rw [List.getElem?_append_left (by simp; omega), List.getElem?_set_ne (by omega), List.getElem?_append_left (by omega)]
      exact hq
    have hst := store35 h2 (o := 1) (show 1 < 2 by omega) (some ⟨(m ++ [Blk.row false 5 [.int .u8 c]]).length, 0, none⟩) (l.length + 1) (l.length + 1)
    refine ⟨_, body63 hcc (cellAt_row hq 1) happ hst, .inr ⟨m.length + 1, by omega, ?_, ?_, by simp⟩, fun k hk => ?_⟩
    · rw [List.getElem?_set_self (by simp; omega)]
      simp
    · rw [List.getElem?_set_ne (by omega)]
      rw [List.getElem?_append_right (by simp)]
      simp
    · rw [List.getElem?_set_ne (by omega), List.getElem?_append_left (by simp; omega), List.getElem?_set_ne (by omega), List.getElem?_append_left (by omega)]

def bytesI (s : ByteArray) : List Int := s.data.toList.map fun b => (b.toNat : Int)

theorem src_string (s : ByteArray) : asrc m 1 (.string s) = some (s.data.toList.length, (bytesI s).map (.int .u8)) := by
  unfold asrc bytesI
  simp

theorem all_bytes (l : List Int) : (l.map (Value.int .u8)).all cellOk = true := by
  rw [List.all_map, List.all_eq_true]
  intro x _
  rfl

theorem writeString (hK : hasF K 42 = false) (hK' : hasF K 28 = false) {l : List Int} (s : ByteArray) (hb : Buf m q l) (hne : l ≠ []) (hl : l.length ≤ 1000000) (hs : s.data.toList.length ≤ 1000000) :
    ∃ v m', runK E mem2 K (n + 2) 28 [.pointer (some ⟨q, 0, none⟩), .string s] m = some (v, m') ∧ Buf m' q (l ++ bytesI s) ∧ Keeps m q m' := by
  rw [runK_other hK']
  rcases hb with ⟨rfl, hq⟩ | ⟨b, hqb, hq, hbb, _⟩
  · exact absurd rfl hne
  · have hqm := lt_of_at hq
    have hbm := lt_of_at hbb
    have hcc := copy_used (n := n) hK hq
    have hll : (l.map (Value.int .u8)).length = l.length := by simp
    have hbl : (bytesI s).length = s.data.toList.length := by simp [bytesI]
    by_cases h0 : s.data.toList.length = 0
    · have hnil : bytesI s = [] := List.eq_nil_of_length_eq_zero (by omega)
      have hsrc := src_string (m := m) s
      rw [h0, hnil] at hsrc
      have happ := app_none (xT := 9) Tryd.underlying9 rfl hsrc hbb
      rw [hll] at happ
      have hst := store35 hq (o := 1) (show 1 < 2 by omega) (some ⟨b, 0, none⟩) l.length l.length
      obtain ⟨v, hv⟩ := body65 (n := n + 2) hcc (cellAt_row hq 1) happ hst
      refine ⟨v, _, hv, .inr ⟨b, hqb, ?_, ?_, by simp [hne]⟩, fun k hk => ?_⟩
      · rw [List.getElem?_set_self hqm, hnil]
        simp
      · rw [List.getElem?_set_ne (by omega), hnil]
        simpa using hbb
      · rw [List.getElem?_set_ne (by omega)]
    · have happ := app_used (xT := 9) Tryd.underlying9 rfl (src_string (m := m) s) (all_bytes _) h0 (by rw [hll]; omega) hbb
      rw [hll] at happ
      have h2 : (m.set b .dead ++ [.row false 5 (l.map (.int .u8) ++ (bytesI s).map (.int .u8))])[q]? = some (Blk.row false 66 [.pointer (some ⟨q, 0, none⟩), .slice (some ⟨b, 0, none⟩) l.length l.length]) := by
        rw [List.getElem?_append_left (by simp; omega), List.getElem?_set_ne (by omega)]
        exact hq
      have hst := store35 h2 (o := 1) (show 1 < 2 by omega) (some ⟨m.length, 0, none⟩) (l.length + s.data.toList.length) (l.length + s.data.toList.length)
      obtain ⟨v, hv⟩ := body65 (n := n + 2) hcc (cellAt_row hq 1) happ hst
      refine ⟨v, _, hv, .inr ⟨m.length, by omega, ?_, ?_, by simp [hne]⟩, fun k hk => ?_⟩
      · rw [List.getElem?_set_self (by simp; omega)]
        simp [hbl]
      · rw [List.getElem?_set_ne (by omega)]
        rw [List.getElem?_append_right (by simp)]
        simp
      · rw [List.getElem?_set_ne (by omega), List.getElem?_append_left (by simp; omega), List.getElem?_set_ne (by omega)]
end
end Go.Am.Seat

/-
  The Builder's String on the abstract machine (own work).
-/
set_option linter.unusedSimpArgs false
set_option linter.unusedVariables false
namespace Go.Am.Seat
open Go.Proofs Go.Am
set_option maxRecDepth 100000

noncomputable def ops64 : Array Oper := match Tryd.f29.body with
  | some (.seq _ (.seq (.region _ ops _) _)) => ops
  | _ => #[]
noncomputable def ops64a : Array Oper := match Tryd.f29.body with
  | some (.seq (.region _ ops _) _) => ops
  | _ => #[]
theorem body64 : Tryd.f29.body = some (.seq (.region 0 ops64a false) (.seq (.region 1 ops64 true) .ret)) := rfl

theorem bytesOf_map : ∀ (l : List Int), bytesOf (l.map (.int .u8)) = some (l.map fun n => UInt8.ofNat n.toNat)
  | [] => rfl
  | a :: l => by
    simp only [List.map_cons, bytesOf, bytesOf_map l]

theorem E_strict : E.strict = true := rfl

section
variable {K : List Fact} {n q : Nat} {m : Mem}

theorem usString {b : Nat} {l : List Int} (hb : m[b]? = some (.row false 5 (l.map (.int .u8)))) (h0 : l ≠ []) (hl : l.length ≤ 10000000) :
    ausString E.P 84 (.pointer (some ⟨b, 0, none⟩)) (.int .i64 (l.length : Nat)) m = some (.string ⟨(l.map fun n => UInt8.ofNat n.toNat).toArray⟩, m.set b (.row true 5 (l.map (.int .u8)))) := by
  have hlen : 0 < l.length := List.length_pos_iff.2 h0
  unfold ausString
  simp only [hb, show E.P.underlying 84 = some (.pointer 5) from Tryd.underlying84]
  rw [if_neg (by omega), if_pos (by omega)]
  have hc : E.P.cellsOf 5 = 1 := by kernel_rfl
  have hlies : liesAt E.P E.P.depth 5 ((l.map (Value.int .u8)).length / E.P.cellsOf 5) 0 5 ((l.length : Nat) : Int).toNat = true := Lib.liesAt_bytes hc _ _ (by rw [hc]; simp)
  rw [if_pos ⟨hlies, by simp⟩]
  have ht : ((l.map (Value.int .u8)).drop 0).take ((l.length : Nat) : Int).toNat = l.map (.int .u8) := by
    rw [List.drop_zero, List.take_of_length_le (by simp)]
  rw [ht, bytesOf_map]

theorem stringOf (hK : hasF K 29 = false) {l : List Int} (hb : Buf m q l) (hne : l ≠ []) (hl : l.length ≤ 10000000) :
    ∃ m', runK E mem2 K (n + 1) 29 [.pointer (some ⟨q, 0, none⟩)] m = some (.string ⟨(l.map fun n => UInt8.ofNat n.toNat).toArray⟩, m') := by
  rw [runK_other hK, abody_eqN (by kernel_rfl) Tryd.func29 body64 (by kernel_rfl)]
  rcases hb with ⟨rfl, hq⟩ | ⟨b, hqb, hq, hbb, _⟩
  · exact absurd rfl hne
  rw [show ([Value.pointer (some ⟨q, 0, none⟩)] ++ List.replicate (Tryd.f29.ntmps - [Value.pointer (some ⟨q, 0, none⟩)].length) undef) = [.pointer (some ⟨q, 0, none⟩), undef, undef, undef, undef, undef, undef, undef, undef, undef, undef, undef, undef, undef] from rfl]
  have hqs : (m.map sealed)[q]? = some (.row true 66 [.pointer (some ⟨q, 0, none⟩), .slice (some ⟨b, 0, none⟩) l.length l.length]) := by
    rw [List.getElem?_map, hq]
    rfl
  have hc : cellAt (m.map sealed) q 1 = some (.slice (some ⟨b, 0, none⟩) l.length l.length) := cellAt_row hqs 1
  have hl0 : ¬ l.length = 0 := fun h => hne (List.eq_nil_of_length_eq_zero h)
  have e3 : earlyB E.P E.wr ops64 3 = false := by kernel_rfl
  have e4 : earlyB E.P E.wr ops64 4 = false := by kernel_rfl
  have e8 : earlyB E.P E.wr ops64 8 = false := by kernel_rfl
  have l3 : looseB E.P E.wr ops64 3 = false := by kernel_rfl
  have l4 : looseB E.P E.wr ops64 4 = false := by kernel_rfl
  have l8 : looseB E.P E.wr ops64 8 = false := by kernel_rfl
  have hops : ops64.toList = ops64.toList := rfl
  conv at hops => rhs; simp only [ops64, Tryd.f29]
  have hopsa : ops64a.toList = ops64a.toList := rfl
  conv at hopsa => rhs; simp only [ops64a, Tryd.f29]
  simp only [acodeN, aopsN, hopsa, hops, adrawN, agd, cls, astep, aop, afloat, ev, nth_zero, nth_succ, aput, setAt_zero, setAt_succ, Option.map_some, fa86_1, load35, hc, e3, e4, e8, l3, l4, l8, abuiltin, List.map_cons, List.map_nil, Nat.zero_add, Bool.not_false, Bool.or_true, Bool.true_or, if_true, List.length_map, if_neg hl0, alen, show E.P.underlying 56 = some (.slice 5) from Tryd.underlying56, usString hbb hne hl]
  exact ⟨_, rfl⟩
end
end Go.Am.Seat

/-
  Counted on the abstract machine, for any texts (own work).
-/
set_option linter.unusedSimpArgs false
set_option linter.unusedVariables false
namespace Go.Am.Seat
open Go.Proofs Go.Am
set_option maxRecDepth 100000

noncomputable def loop40 : Code := match Tryd.f19.body with
  | some (.seq _ (.seq _ (.seq (.seq _ (.block _ (.loop c))) _))) => c
  | _ => .skip

theorem load9 (b o : Nat) (m : Mem) : aload E.P 9 (.pointer (some ⟨b, o, none⟩)) m = cellAt m b o := aload_cell Tryd.underlying9 rfl b o m
theorem call63 : callableB E.P 27 = true := by kernel_rfl
theorem call64 : callableB E.P 29 = true := by kernel_rfl
theorem call65 : callableB E.P 28 = true := by kernel_rfl
theorem wr63 : E.wr 27 = true := by kernel_rfl
theorem wr64 : E.wr 29 = true := by kernel_rfl
theorem wr65 : E.wr 28 = true := by kernel_rfl
theorem conv92 (k : Int) : aconv E.P 3 67 (.int .i64 k) = some (.int .u16 (k % 65536)) := by kernel_rfl
theorem conv5 (k : Int) : aconv E.P 67 5 (.int .u16 k) = some (.int .u8 (k % 256)) := by kernel_rfl
theorem shr8 (k : Int) : abin .shr .u16 k .u64 8 = some (.int .u16 (k.fdiv 256)) := by kernel_rfl
theorem add1 (k : Int) : abin .add .i64 k .i64 1 = some (.int .i64 (wrapF .i64 (k + 1))) := by kernel_rfl
theorem lss64 (a b : Int) : abin .lss .i64 a .i64 b = some (.bool (decide (a < b))) := by kernel_rfl

section
variable {self : Self} {nf p q : Nat} {m m1 m2 m3 : Mem}

theorem iter40 {t1 t2 t4 t5 t6 t10 t11 t12 t13 t14 t15 t16 t17 t18 t19 t20 t21 t22 t23 t24 t25 t26 v : Value} {L i : Int} {pv : Value} {j : Nat} {s : ByteArray}
    (hlt : decide (i < L) = true) (hix : aindexAddr E.P 44 pv (.int .i64 i) = some (.pointer (some ⟨p, j, none⟩))) (hs : cellAt m p j = some (.string s))
    (h1 : self 27 [.pointer (some ⟨q, 0, none⟩), .int .u8 ((((s.data.toList.length : Nat) : Int) % 65536).fdiv 256 % 256)] m = some (.nilIface, m1))
    (h2 : self 27 [.pointer (some ⟨q, 0, none⟩), .int .u8 (((s.data.toList.length : Nat) : Int) % 65536 % 256)] m1 = some (.nilIface, m2))
    (h3 : self 28 [.pointer (some ⟨q, 0, none⟩), .string s] m2 = some (v, m3)) :
    ∃ u5 u6 u10 u11 u12 u13 u14 u15 u16 u17 u18 u19 u20 u21 u22 u23 u24 u25,
    acodeN E self nf loop40 [pv, t1, t2, .pointer (some ⟨q, 0, none⟩), t4, t5, t6, pv, .int .i64 L, .int .i64 i, t10, t11, t12, t13, t14, t15, t16, t17, t18, t19, t20, t21, t22, t23, t24, t25, t26] m =
      some (.normal, [pv, t1, t2, .pointer (some ⟨q, 0, none⟩), t4, u5, u6, pv, .int .i64 L, .int .i64 (wrapF .i64 (i + 1)), u10, u11, u12, u13, u14, u15, u16, u17, u18, u19, u20, u21, u22, u23, u24, u25, t26], m3) := by
  simp only [loop40, Tryd.f19, acodeN, aopsN, agd, astep, aop, ev, nth_zero, nth_succ, aput, setAt_zero, setAt_succ, Option.map_some, lss64, hlt, hix, load9, hs, conv92, conv5, shr8, add1, abuiltin, alen, show E.P.underlying 9 = some .string from Tryd.underlying9, call63, call65, ainv, wr63, wr65, List.map_cons, List.map_nil, List.all_cons, List.all_nil, lit2, lit1, lit0, List.isEmpty_nil, Bool.and_self, if_true, Bool.false_and, Bool.false_eq_true, if_false, h1, h2, h3]
  exact ⟨_, _, _, _, _, _, _, _, _, _, _, _, _, _, _, _, _, _, rfl⟩

theorem last40 {t1 t2 t3 t4 t5 t6 t10 t11 t12 t13 t14 t15 t16 t17 t18 t19 t20 t21 t22 t23 t24 t25 t26 : Value} {L i : Int} {pv : Value} (hlt : decide (i < L) = false) :
    acodeN E self nf loop40 [pv, t1, t2, t3, t4, t5, t6, pv, .int .i64 L, .int .i64 i, t10, t11, t12, t13, t14, t15, t16, t17, t18, t19, t20, t21, t22, t23, t24, t25, t26] m =
      some (.exit 0, [pv, t1, t2, t3, t4, t5, t6, pv, .int .i64 L, .int .i64 i, .bool false, t11, t12, t13, t14, t15, t16, t17, t18, t19, t20, t21, t22, t23, t24, t25, t26], m) := by
  simp only [loop40, Tryd.f19, acodeN, aopsN, agd, astep, aop, ev, nth_zero, nth_succ, aput, setAt_zero, setAt_succ, lss64, hlt]
end
end Go.Am.Seat

/-
  Counted on the abstract machine: all rounds (own work).
-/
set_option linter.unusedSimpArgs false
set_option linter.unusedVariables false
namespace Go.Am.Seat
open Go.Proofs Go.Am
set_option maxRecDepth 100000

/-- One part with its length. -/
def counted1 (s : ByteArray) : List Int := [(((s.data.toList.length : Nat) : Int) % 65536).fdiv 256 % 256, ((s.data.toList.length : Nat) : Int) % 65536 % 256] ++ bytesI s

def Shape (pv : Value) (q : Nat) (L i : Int) (T : List Value) : Prop := ∃ t1 t2 t4 t5 t6 t10 t11 t12 t13 t14 t15 t16 t17 t18 t19 t20 t21 t22 t23 t24 t25 t26 : Value, T = [pv, t1, t2, .pointer (some ⟨q, 0, none⟩), t4, t5, t6, pv, .int .i64 L, .int .i64 i, t10, t11, t12, t13, t14, t15, t16, t17, t18, t19, t20, t21, t22, t23, t24, t25, t26]

theorem idx91 (p L i : Nat) (h : i < L) : aindexAddr E.P 44 (.slice (some ⟨p, 0, none⟩) L L) (.int .i64 (i : Nat)) = some (.pointer (some ⟨p, i, none⟩)) := by
  have h9 : (E.P.info? 9).map (·.size) = some 1 := by kernel_rfl
  obtain ⟨e, h1, h2⟩ := Option.map_eq_some_iff.1 h9
  unfold aindexAddr
  simp only [show E.P.underlying 44 = some (.slice 9) from Tryd.underlying44, h1]
  rw [if_pos (by omega), h2]
  simp

theorem wrap64 (i : Nat) (h : i < 1000000) : wrapF .i64 ((i : Int) + 1) = ((i + 1 : Nat) : Int) := by
  simp only [wrapF]
  rw [if_neg (by omega)]
  omega

section
variable {K : List Fact} {n nf p q : Nat} {m : Mem}

theorem round40 (h79 : hasF K 42 = false) (h63 : hasF K 27 = false) (h65 : hasF K 28 = false) {T : List Value} {L i : Nat} {l : List Int} {s : ByteArray} (hT : Shape (.slice (some ⟨p, 0, none⟩) L L) q L i T) (hi : i < L) (hL : L < 1000000)
    (hs : cellAt m p i = some (.string s)) (hb : Buf m q l) (hl : l.length ≤ 900000) (hsl : s.data.toList.length ≤ 2000) :
    ∃ T' m', acodeN E (runK E mem2 K (n + 2)) nf loop40 T m = some (.normal, T', m') ∧ Shape (.slice (some ⟨p, 0, none⟩) L L) q L ((i + 1 : Nat) : Int) T' ∧ Buf m' q (l ++ counted1 s) ∧ Keeps m q m' := by
  obtain ⟨t1, t2, t4, t5, t6, t10, t11, t12, t13, t14, t15, t16, t17, t18, t19, t20, t21, t22, t23, t24, t25, t26, rfl⟩ := hT
  obtain ⟨m1, h1, b1, k1⟩ := writeByte (n := n) h79 h63 ((((s.data.toList.length : Nat) : Int) % 65536).fdiv 256 % 256) hb (by omega)
  obtain ⟨m2, h2, b2, k2⟩ := writeByte (n := n) h79 h63 (((s.data.toList.length : Nat) : Int) % 65536 % 256) b1 (by simp; omega)
  obtain ⟨v, m3, h3, b3, k3⟩ := writeString (n := n) h79 h65 s b2 (by simp) (by simp; omega) (by omega)
  obtain ⟨u5, u6, u10, u11, u12, u13, u14, u15, u16, u17, u18, u19, u20, u21, u22, u23, u24, u25, hr⟩ := iter40 (nf := nf) (t1 := t1) (t2 := t2) (t4 := t4) (t5 := t5) (t6 := t6) (t10 := t10) (t11 := t11) (t12 := t12) (t13 := t13) (t14 := t14) (t15 := t15) (t16 := t16) (t17 := t17) (t18 := t18) (t19 := t19) (t20 := t20) (t21 := t21) (t22 := t22) (t23 := t23) (t24 := t24) (t25 := t25) (t26 := t26) (L := (L : Int)) (i := (i : Int)) (pv := .slice (some ⟨p, 0, none⟩) L L) (by simp; omega) (idx91 p L i hi) hs h1 h2 h3
  refine ⟨_, m3, hr, ⟨t1, t2, t4, u5, u6, u10, u11, u12, u13, u14, u15, u16, u17, u18, u19, u20, u21, u22, u23, u24, u25, t26, by rw [wrap64 i (by omega)]⟩, ?_, (k1.trans k2).trans k3⟩
  have : l ++ counted1 s = l ++ [(((s.data.toList.length : Nat) : Int) % 65536).fdiv 256 % 256] ++ [((s.data.toList.length : Nat) : Int) % 65536 % 256] ++ bytesI s := by simp [counted1]
  rw [this]
  exact b3

theorem rounds40 (h79 : hasF K 42 = false) (h63 : hasF K 27 = false) (h65 : hasF K 28 = false) {ro : Bool} {ss : List ByteArray} (hL : ss.length < 100) (hss : ∀ s, s ∈ ss → s.data.toList.length ≤ 2000) (hpq : p < q) :
    ∀ (rest : List ByteArray) (i f : Nat) (T : List Value) (m : Mem) (l : List Int), ss.drop i = rest → i ≤ ss.length → rest.length < f → Shape (.slice (some ⟨p, 0, none⟩) ss.length ss.length) q ss.length i T → m[p]? = some (.row ro 9 (ss.map .string)) → Buf m q l → l.length ≤ i * 3000 →
    ∃ T' m' i', aloop (acodeN E (runK E mem2 K (n + 2)) nf loop40) f T m = some (.exit 0, T', m') ∧ Shape (.slice (some ⟨p, 0, none⟩) ss.length ss.length) q ss.length i' T' ∧ Buf m' q (l ++ rest.flatMap counted1)
  | [], i, f, T, m, l, hd, hi, hf, hT, hp, hb, hl => by
    obtain ⟨f, rfl⟩ : ∃ g, f = g + 1 := ⟨f - 1, by simp at hf; omega⟩
    have hil : i = ss.length := by
      have := congrArg List.length hd
      simp at this
      omega
    subst hil
    obtain ⟨t1, t2, t4, t5, t6, t10, t11, t12, t13, t14, t15, t16, t17, t18, t19, t20, t21, t22, t23, t24, t25, t26, rfl⟩ := hT
    rw [aloop, last40 (by simp)]
    exact ⟨_, m, _, rfl, ⟨t1, t2, t4, t5, t6, .bool false, t11, t12, t13, t14, t15, t16, t17, t18, t19, t20, t21, t22, t23, t24, t25, t26, rfl⟩, by simpa using hb⟩
  | s :: rest, i, f, T, m, l, hd, hi, hf, hT, hp, hb, hl => by
    obtain ⟨f, rfl⟩ : ∃ g, f = g + 1 := ⟨f - 1, by simp at hf; omega⟩
    have hil : i < ss.length := by
      have := congrArg List.length hd
      simp at this
      omega
    have hsi : ss[i]? = some s := by
      have := congrArg (·[0]?) hd
      simpa using this
    have hmem : s ∈ ss := List.mem_of_getElem? hsi
    have hc : cellAt m p i = some (.string s) := by
      rw [cellAt_row hp i, List.getElem?_map, hsi]
      rfl
    obtain ⟨T1, m1, h1, hT1, hb1, hk1⟩ := round40 (n := n) (nf := nf) h79 h63 h65 hT hil (by omega) hc hb (by omega) (hss s hmem)
    have hcl : (counted1 s).length ≤ 2002 := by
      have := hss s hmem
      simp [counted1, bytesI] at this ⊢
      omega
    obtain ⟨T2, m2, i2, h2, hT2, hb2⟩ := rounds40 h79 h63 h65 hL hss hpq rest (i + 1) f T1 m1 (l ++ counted1 s) (by rw [← List.drop_drop, hd]; rfl) (by omega) (by simp at hf; omega) hT1 (by rw [hk1 p hpq]; exact hp) hb1 (by simp; omega)
    refine ⟨T2, m2, i2, ?_, hT2, by simpa [List.append_assoc] using hb2⟩
    rw [aloop, h1]
    exact h2

noncomputable def a40 : Array Oper := match Tryd.f19.body with
  | some (.seq (.region _ o _) _) => o
  | _ => #[]
noncomputable def b40 : Array Oper := match Tryd.f19.body with
  | some (.seq _ (.seq (.region _ o _) _)) => o
  | _ => #[]
noncomputable def c40 : Array Oper := match Tryd.f19.body with
  | some (.seq _ (.seq _ (.seq (.seq (.region _ o _) _) _))) => o
  | _ => #[]
noncomputable def d40 : Array Oper := match Tryd.f19.body with
  | some (.seq _ (.seq _ (.seq _ (.seq (.region _ o _) _)))) => o
  | _ => #[]
theorem body40 : Tryd.f19.body = some (.seq (.region 0 a40 false) (.seq (.region 1 b40 false) (.seq (.seq (.region 2 c40 false) (.block 0 (.loop loop40))) (.seq (.region 10 d40 false) .ret)))) := rfl

theorem alloc86 (m : Mem) : aalloc E.P 66 m = some (.pointer (some ⟨m.length, 0, none⟩), m ++ [.row false 66 [.pointer none, .slice none 0 0]]) := by kernel_rfl

theorem counted_run (h79 : hasF K 42 = false) (h63 : hasF K 27 = false) (h65 : hasF K 28 = false) (h64 : hasF K 29 = false) (h40 : hasF K 19 = false) {ro : Bool} {ss : List ByteArray} (hne : ss ≠ []) (hL : ss.length < 100) (hn : ss.length ≤ n) (hss : ∀ s, s ∈ ss → s.data.toList.length ≤ 2000)
    (hp : m[p]? = some (.row ro 9 (ss.map .string))) :
    ∃ m', runK E mem2 K (n + 3) 19 [.slice (some ⟨p, 0, none⟩) ss.length ss.length] m = some (.string ⟨((ss.flatMap counted1).map fun n => UInt8.ofNat n.toNat).toArray⟩, m') := by
  rw [runK_other h40, abody_eqN (by kernel_rfl) Tryd.func19 body40 (by kernel_rfl)]
  rw [show ([Value.slice (some ⟨p, 0, none⟩) ss.length ss.length] ++ List.replicate (Tryd.f19.ntmps - [Value.slice (some ⟨p, 0, none⟩) ss.length ss.length].length) undef) = [.slice (some ⟨p, 0, none⟩) ss.length ss.length, undef, undef, undef, undef, undef, undef, undef, undef, undef, undef, undef, undef, undef, undef, undef, undef, undef, undef, undef, undef, undef, undef, undef, undef, undef, undef] from rfl]
  have hpm := lt_of_at hp
  have hp2 : (m ++ [Blk.row false 66 [.pointer none, .slice none 0 0]])[p]? = some (.row ro 9 (ss.map .string)) := by rw [List.getElem?_append_left hpm]; exact hp
  have hb : Buf (m ++ [Blk.row false 66 [.pointer none, .slice none 0 0]]) m.length [] := .inl ⟨rfl, by simp⟩
  obtain ⟨T2, m2, i2, h2, ⟨t1, t2, t4, t5, t6, t10, t11, t12, t13, t14, t15, t16, t17, t18, t19, t20, t21, t22, t23, t24, t25, t26, rfl⟩, hb2⟩ :=
    rounds40 (n := n) (nf := n + 3) h79 h63 h65 hL hss hpm ss 0 (n + 3) [.slice (some ⟨p, 0, none⟩) ss.length ss.length, undef, .string ⟨#[]⟩, .pointer (some ⟨m.length, 0, none⟩), undef, undef, undef, .slice (some ⟨p, 0, none⟩) ss.length ss.length, .int .i64 (ss.length : Nat), .int .i64 ((0 : Nat) : Int), undef, undef, undef, undef, undef, undef, undef, undef, undef, undef, undef, undef, undef, undef, undef, undef, undef]
      (m ++ [.row false 66 [.pointer none, .slice none 0 0]]) [] rfl (by omega) (by omega) ⟨_, _, _, _, _, _, _, _, _, _, _, _, _, _, _, _, _, _, _, _, _, _, rfl⟩ hp2 hb (by simp)
  have hfl : (ss.flatMap counted1) ≠ [] := by
    cases ss with
    | nil => exact absurd rfl hne
    | cons s ss => simp [counted1]
  have hlen : (ss.flatMap counted1).length ≤ 10000000 := by
    have hgen : ∀ (l : List ByteArray), (∀ s, s ∈ l → s.data.toList.length ≤ 2000) → (l.flatMap counted1).length ≤ l.length * 2002 := by
      intro l
      induction l with
      | nil => intro _; simp
      | cons a l ih =>
        intro h
        have h1 := h a (by simp)
        have h2 := ih fun s hs => h s (by simp [hs])
        have h3 : (counted1 a).length ≤ 2002 := by
          simp [counted1, bytesI] at h1 ⊢
          omega
        rw [List.flatMap_cons, List.length_append, List.length_cons]
        omega
    have := hgen ss hss
    omega
  rw [List.nil_append] at hb2
  obtain ⟨m3, h3⟩ := stringOf (n := n + 1) h64 hb2 hfl hlen
  simp only [acodeN, aopsN, a40, b40, c40, d40, Tryd.f19, agd, astep, aop, ev, nth_zero, nth_succ, aput, setAt_zero, setAt_succ, alloc86, abuiltin, alen, show E.P.underlying 44 = some (.slice 9) from Tryd.underlying44, show ((0 : Nat) : Int) = 0 from rfl] at h2 ⊢
  simp only [h2, acodeN, aopsN, agd, astep, aop, ev, nth_zero, nth_succ, aput, setAt_zero, setAt_succ, call64, ainv, wr64, List.map_cons, List.map_nil, List.all_cons, List.all_nil, lit2, lit1, lit0, List.isEmpty_nil, Bool.and_self, if_true, Bool.false_and, Bool.false_eq_true, if_false, h3]
  exact ⟨_, rfl⟩
end
end Go.Am.Seat

/-
  What is told of some functions by itself; answers and panics so many calls deep (own work).
-/
set_option linter.unusedSimpArgs false
set_option linter.unusedVariables false
namespace Go.Am.Seat
open Go.Proofs Go.Am
set_option maxRecDepth 100000

/-- The functions of which something is told beside their texts: the example, and parts with their lengths. -/
def S9 : List FuncId := [5, 19]
def K19 : List Fact := [awakeF19]
noncomputable def O9 : Self := runK E mem2 K19 2000
theorem K19_hold (F : Fact) (h : F ∈ K19) : F.holds E.P mem2 := by
  simp only [K19, List.mem_cons, List.not_mem_nil, or_false] at h
  subst h
  exact awake19
theorem o9_ok : CallOK E.P O9 := runK_sound envOK K19_hold 2000
/-- The machine's answers, so many calls deep. -/
noncomputable abbrev RQ (n : Nat) : Self := (runO E S9 O9 n).1
/-- What panics, so many calls deep. -/
noncomputable abbrev RP (n : Nat) : Self := (runO E S9 O9 n).2

section
variable {n : Nat} {f : FuncId} {args : List Value} {m : Mem} {r : Value × Mem}
theorem runQ_body9 (h : abody E (RQ n) (n + 1) f args m = some r) (hS : S9.contains f = false := by rfl) : RQ (n + 1) f args m = some r := runO_1 hS h
theorem runQ_1 (h : abody E (RQ n) (n + 1) f args m = some r) (hS : S9.contains f = false := by rfl) : RQ (n + 1) f args m = some r := runO_1 hS h
theorem runQ_no (h : abody E (RQ n) (n + 1) f args m = none) (hd : abodyD E (RQ n) (RP n) (n + 1) f args m = none) (hS : S9.contains f = false := by rfl) : RQ (n + 1) f args m = none := runO_no hS h hd
theorem runQ_door (h : abody E (RQ n) (n + 1) f args m = none) (hd : abodyD E (RQ n) (RP n) (n + 1) f args m = some r) (hS : S9.contains f = false := by rfl) : RQ (n + 1) f args m = some r := runO_door hS h hd
theorem runQ_2 (h : abodyP E (RQ n) (RP n) (n + 1) f args m = some r) : RP (n + 1) f args m = some r := runO_2 h
end
end Go.Am.Seat

/-
  The budget's calls at each level; BudgetLater (own work).
-/
set_option linter.unusedSimpArgs false
set_option linter.unusedVariables false
namespace Go.Am.Seat
open Go.Proofs Go.Am
set_option maxRecDepth 100000

theorem ainv_lit9 {self : Self} {g : FuncId} {args : List Value} {m m1 : Mem} {v : Value} (ha : args.all lit2 = true) (hf : E.fast g = none) (h : self g args ((m.take E.G).map onlyTab) = some (v, m1)) (hv : lit2 v = true) : ainv E self g args m = some (v, m) := by
  unfold ainv
  rw [if_pos ha, hf, h]
  simp only
  unfold acoll
  rw [if_pos hv]
theorem ans9 {n : Nat} {f : FuncId} {args : List Value} {v : Value} (ha : args.all lit2 = true) (hf : E.fast f = none) (hv : lit2 v = true) (h : ∀ m, ∃ m', abody E (RQ n) (n + 1) f args (ap m []) = some (v, m')) (hS : S9.contains f = false := by rfl) : AnsB (RQ (n + 1)) f args v := by
  intro M
  obtain ⟨m', h1⟩ := h ((M.take E.G).map onlyTab)
  rw [← ap_nil] at h1
  exact ainv_lit9 ha hf (runQ_body9 h1 hS) hv

/-- What is left behind a look at a tick of window w. -/
def atL (a l n w : Int) : Int := if w ≤ n then l else max l a

section
variable {N : Nat} {a b c t n l u : Int} {k : Bool}
end

theorem take9 (L : List Blk) : ((ap mem0 L).take E.G).map onlyTab = mem0 := by
  unfold ap
  rw [List.take_append_of_le_length (Nat.le_of_ble_eq_true (by kernel_rfl))]
  rfl
/-- May a policy be? -/
def may (a b c : Int) : Bool := !(decide (a < 1) || (decide (a > 1000) || (decide (b < 1) || (decide (c < 0) || decide (c > a)))))

theorem may_b {a b c : Int} (h : may a b c = true) : 1 ≤ a ∧ a ≤ 1000 ∧ 1 ≤ b ∧ 0 ≤ c ∧ c ≤ a := by
  simp only [may, Bool.not_eq_true', Bool.or_eq_false_iff, decide_eq_false_iff_not] at h
  omega

end Go.Am.Seat

/-
  What must be so: a call that panics or doesn't (own work).
-/
set_option linter.unusedSimpArgs false
set_option linter.unusedVariables false
namespace Go.Am.Seat
open Go.Proofs Go.Am
set_option maxRecDepth 100000

/-- A refusal. -/
def ref9 (e : Int) : Value := .iface 86 (.agg ⟨[.int .i64 e]⟩)
noncomputable def apB1s (P : Program) (t ty : TypeId) (a : Value) : Option Value := apure P [a] { dst := none, op := .build t #[(0, .tmp 0)], type := ty, pos := "", after := #[], guard := none }
theorem apure_build1s {P : Program} {T : List Value} {t ty : TypeId} {a : Nat} {pos : String} {af : Array Edge} {gu : Option (Nat × Bool)} {dd : Option Tmp} :
    apure P T { dst := dd, op := .build t #[(0, .tmp a)], type := ty, pos := pos, after := af, guard := gu } = apB1s P t ty (nth T a) := by
  unfold apB1s apure
  simp [Op.operands, execOp, ev, nth_zero, nth_succ]
theorem buildRef (e : Int) : apB1s E.P 86 86 (.int .i64 e) = some (.agg ⟨[.int .i64 e]⟩) := by kernel_rfl
noncomputable def apMI (P : Program) (t ty : TypeId) (a : Value) : Option Value := apure P [a] { dst := none, op := .makeInterface t (.tmp 0), type := ty, pos := "", after := #[], guard := none }
theorem apure_mkI {P : Program} {T : List Value} {t ty : TypeId} {a : Nat} {pos : String} {af : Array Edge} {gu : Option (Nat × Bool)} {dd : Option Tmp} :
    apure P T { dst := dd, op := .makeInterface t (.tmp a), type := ty, pos := pos, after := af, guard := gu } = apMI P t ty (nth T a) := by
  unfold apMI apure
  simp [Op.operands, execOp, ev, nth_zero, nth_succ]
theorem mkRef (ty : TypeId) (e : Int) : apMI E.P 86 ty (.agg ⟨[.int .i64 e]⟩) = some (ref9 e) := by kernel_rfl
theorem apure_panic {P : Program} {T : List Value} {ty : TypeId} {x : Operand} {pos : String} {af : Array Edge} {gu : Option (Nat × Bool)} {dd : Option Tmp} :
    apure P T { dst := dd, op := .panic x, type := ty, pos := pos, after := af, guard := gu } = none := by
  unfold apure
  split
  · cases hx : ev T x <;> simp only [execOp, hx] <;> rfl
  · rfl

section
variable {self sp : Self} {nf : Nat} {m : Mem} {e : Int} {L : List Blk} {k : Nat} {s : ByteArray}
theorem hld_true : abody E self nf 33 [.bool true, .int .i64 e] (ap m []) = some (.tuple ⟨[]⟩, ap m []) := by
  rw [abody_eqF (by kernel_rfl) Tryd.func33 bodyhld (by kernel_rfl) (Nat.le_of_ble_eq_true rfl)]
  rw [show Tryd.f33.ntmps = 9 from rfl]
  simp only [ehld_0, ehld_1, lhld_0, lhld_1, agd_none, gdAt, gdV_bool, gdV_undef, Tryd.f33, List.append_eq, List.cons_append, List.nil_append, apure_call1, apure_call2, apure_call3, bft, btf, acodeN, List.getElem?_toArray, List.getElem?_cons_zero, List.getElem?_cons_succ, aopsN, adrawT, cls, astep, aop, afloat, ev, nth_lst, get_lst, aput, setAt_lst, upd_at, init_zero, init_succ, init_nil, Nat.reduceLT, Nat.reduceEqDiff, reduceIte, abuiltin, alen, Option.map_some, Option.map_none, orElse_some, apure_add, List.map_cons, List.map_nil, List.all_cons, List.all_nil, lit2, lit1, lit0, List.isEmpty_nil, Bool.and_self, Bool.and_true, Bool.true_and, Bool.false_and, Bool.and_false, Bool.not_true, Bool.not_false, Bool.or_true, Bool.true_or, Bool.false_or, Bool.or_false, Bool.false_eq_true, if_true, if_false, List.length_map, beq_self_eq_true, und3, und4, und5, und9, eqlV9_int, neqV9_int, eqlV9_bool, neqV9_bool, eqlV9_str, neqV9_str, ↓aop_eqlV9, ↓aop_neqV9, ↓afloat_eqlV9, ↓afloat_neqV9, apure_eqlV9, apure_neqV9, eqlW, neqW, eqlI64, neqI64, aload_sealed, adU, adE, ldI', ldU', ldL', ldS_pol, ldS_bud, ldF_p0, ldF_p1, ldF_p2, ldF_b0, ldF_b1, ldF_b2, stI', stU', stT', stL, polLen, budLen, layP, layB, layB0, layB1, layB2, List.length_nil, List.length_cons, List.length_append, Nat.reduceAdd, Nat.reduceLeDiff, List.set_cons_zero, List.set_cons_succ, and_self, true_and, Nat.le_refl, apure_max, apure_min, maxV, minV, finish, ares, aresL, ares1_tmp, ares1_cell, aresC_adr, aextract]
theorem hld_no : abody E self nf 33 [.bool false, .int .i64 e] (ap m []) = none := by
  rw [abody_eqF (by kernel_rfl) Tryd.func33 bodyhld (by kernel_rfl) (Nat.le_of_ble_eq_true rfl)]
  rw [show Tryd.f33.ntmps = 9 from rfl]
  simp only [ehld_0, ehld_1, lhld_0, lhld_1, agd_none, gdAt, gdV_bool, gdV_undef, Tryd.f33, List.append_eq, List.cons_append, List.nil_append, apure_call1, apure_call2, apure_call3, bft, btf, acodeN, List.getElem?_toArray, List.getElem?_cons_zero, List.getElem?_cons_succ, aopsN, adrawT, cls, astep, aop, afloat, ev, nth_lst, get_lst, aput, setAt_lst, upd_at, init_zero, init_succ, init_nil, Nat.reduceLT, Nat.reduceEqDiff, reduceIte, abuiltin, alen, Option.map_some, Option.map_none, orElse_some, apure_add, List.map_cons, List.map_nil, List.all_cons, List.all_nil, lit2, lit1, lit0, List.isEmpty_nil, Bool.and_self, Bool.and_true, Bool.true_and, Bool.false_and, Bool.and_false, Bool.not_true, Bool.not_false, Bool.or_true, Bool.true_or, Bool.false_or, Bool.or_false, Bool.false_eq_true, if_true, if_false, List.length_map, beq_self_eq_true, und3, und4, und5, und9, eqlV9_int, neqV9_int, eqlV9_bool, neqV9_bool, eqlV9_str, neqV9_str, ↓aop_eqlV9, ↓aop_neqV9, ↓afloat_eqlV9, ↓afloat_neqV9, apure_eqlV9, apure_neqV9, eqlW, neqW, eqlI64, neqI64, aload_sealed, adU, adE, ldI', ldU', ldL', ldS_pol, ldS_bud, ldF_p0, ldF_p1, ldF_p2, ldF_b0, ldF_b1, ldF_b2, stI', stU', stT', stL, polLen, budLen, layP, layB, layB0, layB1, layB2, List.length_nil, List.length_cons, List.length_append, Nat.reduceAdd, Nat.reduceLeDiff, List.set_cons_zero, List.set_cons_succ, and_self, true_and, Nat.le_refl, apure_max, apure_min, maxV, minV, finish, ares, aresL, ares1_tmp, ares1_cell, aresC_adr, aextract, apure_build1s, buildRef, apure_mkI, mkRef, apure_panic]
theorem hld_pan : abodyP E self sp nf 33 [.bool false, .int .i64 e] (ap m []) = some (ref9 e, ap m []) := by
  rw [abodyP_eqF (by kernel_rfl) Tryd.func33 bodyhld (by kernel_rfl) (Nat.le_of_ble_eq_true rfl)]
  rw [show Tryd.f33.ntmps = 9 from rfl]
  simp only [ehld_0, ehld_1, lhld_0, lhld_1, agd_none, gdAt, gdV_bool, gdV_undef, Tryd.f33, List.append_eq, List.cons_append, List.nil_append, apure_call1, apure_call2, apure_call3, bft, btf, acodeN, List.getElem?_toArray, List.getElem?_cons_zero, List.getElem?_cons_succ, aopsN, adrawT, cls, astep, aop, afloat, ev, nth_lst, get_lst, aput, setAt_lst, upd_at, init_zero, init_succ, init_nil, Nat.reduceLT, Nat.reduceEqDiff, reduceIte, abuiltin, alen, Option.map_some, Option.map_none, orElse_some, apure_add, List.map_cons, List.map_nil, List.all_cons, List.all_nil, lit2, lit1, lit0, List.isEmpty_nil, Bool.and_self, Bool.and_true, Bool.true_and, Bool.false_and, Bool.and_false, Bool.not_true, Bool.not_false, Bool.or_true, Bool.true_or, Bool.false_or, Bool.or_false, Bool.false_eq_true, if_true, if_false, List.length_map, beq_self_eq_true, und3, und4, und5, und9, eqlV9_int, neqV9_int, eqlV9_bool, neqV9_bool, eqlV9_str, neqV9_str, ↓aop_eqlV9, ↓aop_neqV9, ↓afloat_eqlV9, ↓afloat_neqV9, apure_eqlV9, apure_neqV9, eqlW, neqW, eqlI64, neqI64, aload_sealed, adU, adE, ldI', ldU', ldL', ldS_pol, ldS_bud, ldF_p0, ldF_p1, ldF_p2, ldF_b0, ldF_b1, ldF_b2, stI', stU', stT', stL, polLen, budLen, layP, layB, layB0, layB1, layB2, List.length_nil, List.length_cons, List.length_append, Nat.reduceAdd, Nat.reduceLeDiff, List.set_cons_zero, List.set_cons_succ, and_self, true_and, Nat.le_refl, apure_max, apure_min, maxV, minV, finish, ares, aresL, ares1_tmp, ares1_cell, aresC_adr, aextract, apure_build1s, buildRef, apure_mkI, mkRef, apure_panic, acodePN, aopsPN, apan, finishP]
  rfl
end

theorem none9 {n : Nat} {f : FuncId} {fn : Func} {c : Code} {args : List Value} (hf : E.P.funcs[f]? = some fn) (hc : fn.body = some c) (hd : noDef c = true) (ha : args.all lit2 = true) (hq : E.fast f = none) (h : ∀ m, abody E (RQ n) (n + 1) f args (ap m []) = none) (M : Mem) (hS : S9.contains f = false := by rfl) : ainv E (RQ (n + 1)) f args M = none := by
  have h1 : RQ (n + 1) f args ((M.take E.G).map onlyTab) = none := runQ_no (by rw [ap_nil ((M.take E.G).map onlyTab)]; exact h _) (abodyD_none hf hc hd) hS
  unfold ainv
  rw [if_pos ha, hq, h1]
theorem pan9 {n : Nat} {f : FuncId} {args : List Value} {v : Value} (ha : args.all lit2 = true) (hv : lit2 v = true) (h : ∀ m, ∃ m', abodyP E (RQ n) (RP n) (n + 1) f args (ap m []) = some (v, m')) (M : Mem) : ainvP E (RP (n + 1)) f args M = some (v, M) := by
  obtain ⟨m', h0⟩ := h ((M.take E.G).map onlyTab)
  rw [← ap_nil] at h0
  have h1 : RP (n + 1) f args ((M.take E.G).map onlyTab) = some (v, m') := runQ_2 h0
  unfold ainvP
  rw [if_pos ha, h1]
  simp only
  unfold acoll
  rw [if_pos hv]
theorem ainv_w {self : Self} {g : FuncId} {args : List Value} {m : Mem} (ha : args.all lit2 = false) (hw : E.wr g = true) : ainv E self g args m = self g args m := by
  unfold ainv
  rw [if_neg (by rw [ha]; exact Bool.false_ne_true), if_pos hw]
theorem ainvP_w {sp : Self} {g : FuncId} {args : List Value} {m : Mem} (ha : args.all lit2 = false) (hw : E.wr g = true) : ainvP E sp g args m = sp g args m := by
  unfold ainvP
  rw [if_neg (by rw [ha]; exact Bool.false_ne_true), if_pos hw]

section
variable {N : Nat} {e : Int} (M : Mem)
theorem hold_T : ainv E (RQ (N + 1)) 33 [.bool true, .int .i64 e] M = some (.tuple ⟨[]⟩, M) := (ans9 rfl rfl rfl (fun m => ⟨_, hld_true⟩)) M
theorem hold_N : ainv E (RQ (N + 1)) 33 [.bool false, .int .i64 e] M = none := none9 Tryd.func33 bodyhld (by kernel_rfl) rfl rfl (fun m => hld_no) M
theorem hold_P : ainvP E (RP (N + 1)) 33 [.bool false, .int .i64 e] M = some (ref9 e, M) := pan9 rfl rfl (fun m => ⟨_, hld_pan⟩) M
end

/-- What of a text isn't read yet, in a row. -/
def rdC (s : ByteArray) : List Value := [.string s]
noncomputable def ncV (E : Env) (self : Self) (T : List Value) (m : Mem) (o : Oper) (v : Value) : Option (Value × Mem) := match v with
  | .pointer (some a) => some (.pointer (some a), m)
  | _ => astep E self T m o
theorem astep_nilCheck {E : Env} {self : Self} {T : List Value} {m : Mem} {d : Option Tmp} {x : Operand} {ty : TypeId} {pos : String} {af : Array Edge} {g : Option (Nat × Bool)} : astep E self T m { dst := d, op := .nilCheck x, type := ty, pos := pos, after := af, guard := g } = ncV E self T m { dst := d, op := .nilCheck x, type := ty, pos := pos, after := af, guard := g } (ev T x) := by
  cases h : ev T x with
  | pointer a =>
    cases a with
    | none => rfl
    | some a =>
      unfold astep ncV
      simp only [h, aop]
  | _ => rfl
theorem ncV_adr {E : Env} {self : Self} {T : List Value} {m m' : Mem} {o : Oper} {k q : Nat} : ncV E self T m o (adr m' k q) = some (adr m' k q, m) := rfl
section
variable (m : Mem) (L : List Blk) (k : Nat) (s : ByteArray)
theorem ldT' (o : Nat) : aload E.P 9 (adr m k o) (ap m L) = ldF o L[k]? := aload_F Tryd.underlying9 rfl m L k o
theorem ldF_rd {ro : Bool} {e : TypeId} : ldF 0 (some (.row ro e (rdC s))) = some (.string s) := rfl
theorem faR : afieldAddr E.P 88 (adr m k 0) 0 = some (adr m k 0) := by unfold adr; kernel_rfl
theorem stT1 (h : L[k]? = some (.row false 88 (rdC s))) (u : ByteArray) : astore E.P 9 (adr m k 0) (.string u) (ap m L) = some (ap m (L.set k (.row false 88 (rdC u)))) := by
  rw [astore_L (n := 1) (l := [.string u]) (by kernel_rfl) rfl, stL_1]
  simp only [h]
  rfl
theorem adr_lit : lit2 (adr m k 0) = false := rfl
end
theorem cbHld : callableB E.P 33 = true := by kernel_rfl

section
variable {self sp : Self} {nf : Nat} {m : Mem} {L : List Blk} {k n : Nat} {s : ByteArray}
theorem sliceHi_ok (h : n ≤ s.size) : sliceHi s ((n : Nat) : Int) = some (.string (s.extract 0 n)) := if_pos ⟨by omega, by omega⟩
theorem sliceLo_ok (h : n ≤ s.size) : sliceLo s ((n : Nat) : Int) = some (.string (s.extract n s.size)) := if_pos ⟨by omega, by omega⟩
theorem rta_ok (hT : ∀ e M, ainv E self 33 [.bool true, .int .i64 e] M = some (.tuple ⟨[]⟩, M)) (hk : L[k]? = some (.row false 88 (rdC s))) (hn : n ≤ s.size) :
    abody E self nf 45 [adr m k 0, .int .i64 (n : Nat)] (ap m L) = some (.string (s.extract 0 n), ap m (L.set k (.row false 88 (rdC (s.extract n s.size))))) := by
  rw [abody_eqF (by kernel_rfl) Tryd.func45 bodyrta (by kernel_rfl) (Nat.le_of_ble_eq_true rfl)]
  rw [show Tryd.f45.ntmps = 30 from rfl]
  have d1 : decide (((n : Nat) : Int) ≤ ((s.data.toList.length : Nat) : Int)) = true := decide_eq_true (show ((n : Nat) : Int) ≤ ((s.size : Nat) : Int) by omega)
  have h1 := sliceHi_ok hn
  have h2 := sliceLo_ok hn
  have st := stT1 m L k s hk (s.extract n s.size)
  simp only [erta_0, erta_1, erta_2, erta_3, erta_4, lrta_0, lrta_1, lrta_2, lrta_3, lrta_4, agd_none, gdAt, gdV_bool, gdV_undef, Tryd.f45, List.append_eq, List.cons_append, List.nil_append, apure_call1, apure_call2, apure_call3, bft, btf, acodeN, List.getElem?_toArray, List.getElem?_cons_zero, List.getElem?_cons_succ, aopsN, adrawT, cls, astep, aop, afloat, ev, nth_lst, get_lst, aput, setAt_lst, upd_at, init_zero, init_succ, init_nil, Nat.reduceLT, Nat.reduceEqDiff, reduceIte, abuiltin, alen, Option.map_some, Option.map_none, orElse_some, apure_add, List.map_cons, List.map_nil, List.all_cons, List.all_nil, lit2, lit1, lit0, List.isEmpty_nil, Bool.and_self, Bool.and_true, Bool.true_and, Bool.false_and, Bool.and_false, Bool.not_true, Bool.not_false, Bool.or_true, Bool.true_or, Bool.false_or, Bool.or_false, Bool.false_eq_true, if_true, if_false, List.length_map, beq_self_eq_true, und3, und4, und5, und9, eqlV9_int, neqV9_int, eqlV9_bool, neqV9_bool, eqlV9_str, neqV9_str, ↓aop_eqlV9, ↓aop_neqV9, ↓afloat_eqlV9, ↓afloat_neqV9, apure_eqlV9, apure_neqV9, eqlW, neqW, eqlI64, neqI64, aload_sealed, adU, adE, ldI', ldU', ldL', ldS_pol, ldS_bud, ldF_p0, ldF_p1, ldF_p2, ldF_b0, ldF_b1, ldF_b2, stI', stU', stT', stL, polLen, budLen, layP, layB, layB0, layB1, layB2, List.length_nil, List.length_cons, List.length_append, Nat.reduceAdd, Nat.reduceLeDiff, List.set_cons_zero, List.set_cons_succ, and_self, true_and, Nat.le_refl, apure_max, apure_min, maxV, minV, finish, ares, aresL, ares1_tmp, ares1_cell, aresC_adr, aextract, ↓astep_nilCheck, ncV_adr, faR, ldT', hk, ldF_rd, leqI, d1, cbHld, hT, apure_slice0 und9, apure_slice1 und9, h1, h2, st]
theorem rta_noa (hN : ∀ e M, ainv E self 33 [.bool false, .int .i64 e] M = none) (hk : L[k]? = some (.row false 88 (rdC s))) (hn : s.size < n) :
    abody E self nf 45 [adr m k 0, .int .i64 (n : Nat)] (ap m L) = none := by
  rw [abody_eqF (by kernel_rfl) Tryd.func45 bodyrta (by kernel_rfl) (Nat.le_of_ble_eq_true rfl)]
  rw [show Tryd.f45.ntmps = 30 from rfl]
  have d1 : decide (((n : Nat) : Int) ≤ ((s.data.toList.length : Nat) : Int)) = false := decide_eq_false (show ¬ ((n : Nat) : Int) ≤ ((s.size : Nat) : Int) by omega)
  simp only [erta_0, erta_1, erta_2, erta_3, erta_4, lrta_0, lrta_1, lrta_2, lrta_3, lrta_4, agd_none, gdAt, gdV_bool, gdV_undef, Tryd.f45, List.append_eq, List.cons_append, List.nil_append, apure_call1, apure_call2, apure_call3, bft, btf, acodeN, List.getElem?_toArray, List.getElem?_cons_zero, List.getElem?_cons_succ, aopsN, adrawT, cls, astep, aop, afloat, ev, nth_lst, get_lst, aput, setAt_lst, upd_at, init_zero, init_succ, init_nil, Nat.reduceLT, Nat.reduceEqDiff, reduceIte, abuiltin, alen, Option.map_some, Option.map_none, orElse_some, apure_add, List.map_cons, List.map_nil, List.all_cons, List.all_nil, lit2, lit1, lit0, List.isEmpty_nil, Bool.and_self, Bool.and_true, Bool.true_and, Bool.false_and, Bool.and_false, Bool.not_true, Bool.not_false, Bool.or_true, Bool.true_or, Bool.false_or, Bool.or_false, Bool.false_eq_true, if_true, if_false, List.length_map, beq_self_eq_true, und3, und4, und5, und9, eqlV9_int, neqV9_int, eqlV9_bool, neqV9_bool, eqlV9_str, neqV9_str, ↓aop_eqlV9, ↓aop_neqV9, ↓afloat_eqlV9, ↓afloat_neqV9, apure_eqlV9, apure_neqV9, eqlW, neqW, eqlI64, neqI64, aload_sealed, adU, adE, ldI', ldU', ldL', ldS_pol, ldS_bud, ldF_p0, ldF_p1, ldF_p2, ldF_b0, ldF_b1, ldF_b2, stI', stU', stT', stL, polLen, budLen, layP, layB, layB0, layB1, layB2, List.length_nil, List.length_cons, List.length_append, Nat.reduceAdd, Nat.reduceLeDiff, List.set_cons_zero, List.set_cons_succ, and_self, true_and, Nat.le_refl, apure_max, apure_min, maxV, minV, finish, ares, aresL, ares1_tmp, ares1_cell, aresC_adr, aextract, ↓astep_nilCheck, ncV_adr, faR, ldT', hk, ldF_rd, leqI, d1, cbHld, hN]
theorem rta_pan (hN : ∀ e M, ainv E self 33 [.bool false, .int .i64 e] M = none) (hP : ∀ e M, ainvP E sp 33 [.bool false, .int .i64 e] M = some (ref9 e, M)) (hk : L[k]? = some (.row false 88 (rdC s))) (hn : s.size < n) :
    abodyP E self sp nf 45 [adr m k 0, .int .i64 (n : Nat)] (ap m L) = some (ref9 4, ap m L) := by
  rw [abodyP_eqF (by kernel_rfl) Tryd.func45 bodyrta (by kernel_rfl) (Nat.le_of_ble_eq_true rfl)]
  rw [show Tryd.f45.ntmps = 30 from rfl]
  have d1 : decide (((n : Nat) : Int) ≤ ((s.data.toList.length : Nat) : Int)) = false := decide_eq_false (show ¬ ((n : Nat) : Int) ≤ ((s.size : Nat) : Int) by omega)
  simp only [erta_0, erta_1, erta_2, erta_3, erta_4, lrta_0, lrta_1, lrta_2, lrta_3, lrta_4, agd_none, gdAt, gdV_bool, gdV_undef, Tryd.f45, List.append_eq, List.cons_append, List.nil_append, apure_call1, apure_call2, apure_call3, bft, btf, acodeN, List.getElem?_toArray, List.getElem?_cons_zero, List.getElem?_cons_succ, aopsN, adrawT, cls, astep, aop, afloat, ev, nth_lst, get_lst, aput, setAt_lst, upd_at, init_zero, init_succ, init_nil, Nat.reduceLT, Nat.reduceEqDiff, reduceIte, abuiltin, alen, Option.map_some, Option.map_none, orElse_some, apure_add, List.map_cons, List.map_nil, List.all_cons, List.all_nil, lit2, lit1, lit0, List.isEmpty_nil, Bool.and_self, Bool.and_true, Bool.true_and, Bool.false_and, Bool.and_false, Bool.not_true, Bool.not_false, Bool.or_true, Bool.true_or, Bool.false_or, Bool.or_false, Bool.false_eq_true, if_true, if_false, List.length_map, beq_self_eq_true, und3, und4, und5, und9, eqlV9_int, neqV9_int, eqlV9_bool, neqV9_bool, eqlV9_str, neqV9_str, ↓aop_eqlV9, ↓aop_neqV9, ↓afloat_eqlV9, ↓afloat_neqV9, apure_eqlV9, apure_neqV9, eqlW, neqW, eqlI64, neqI64, aload_sealed, adU, adE, ldI', ldU', ldL', ldS_pol, ldS_bud, ldF_p0, ldF_p1, ldF_p2, ldF_b0, ldF_b1, ldF_b2, stI', stU', stT', stL, polLen, budLen, layP, layB, layB0, layB1, layB2, List.length_nil, List.length_cons, List.length_append, Nat.reduceAdd, Nat.reduceLeDiff, List.set_cons_zero, List.set_cons_succ, and_self, true_and, Nat.le_refl, apure_max, apure_min, maxV, minV, finish, ares, aresL, ares1_tmp, ares1_cell, aresC_adr, aextract, ↓astep_nilCheck, ncV_adr, faR, ldT', hk, ldF_rd, leqI, d1, cbHld, hN, acodePN, aopsPN, apan, hP, finishP]
end

/-- A text of so many bytes. -/
def tx (l : List UInt8) : Value := .string ⟨l.toArray⟩
def rdR (l : List UInt8) : Blk := .row false 88 [tx l]
theorem ext_list (l : List UInt8) (a b : Nat) : (⟨l.toArray⟩ : ByteArray).extract a b = ⟨((l.drop a).take (b - a)).toArray⟩ := by
  apply ByteArray.ext
  rw [ByteArray.data_extract]
  apply Array.ext'
  simp [List.extract_eq_take_drop]
theorem tx_size (l : List UInt8) : (⟨l.toArray⟩ : ByteArray).size = l.length := rfl
section
variable {N : Nat} {m : Mem} {L : List Blk} {k n : Nat} {l : List UInt8}
theorem wrTk : E.wr 45 = true := by kernel_rfl
theorem tk_ok (hk : L[k]? = some (rdR l)) (hn : n ≤ l.length) : ainv E (RQ (N + 2)) 45 [adr m k 0, .int .i64 (n : Nat)] (ap m L) = some (tx (l.take n), ap m (L.set k (rdR (l.drop n)))) := by
  rw [ainv_w rfl wrTk]
  have h := rta_ok (self := RQ (N + 1)) (nf := N + 2) (m := m) (fun e M => hold_T M) hk (show n ≤ (⟨l.toArray⟩ : ByteArray).size from hn)
  rw [ext_list, ext_list, tx_size, List.drop_zero, Nat.sub_zero, List.take_of_length_le (l := l.drop n) (by rw [List.length_drop]; exact Nat.le_refl _)] at h
  exact runQ_1 h
theorem tk_no (hk : L[k]? = some (rdR l)) (hn : l.length < n) : ainv E (RQ (N + 2)) 45 [adr m k 0, .int .i64 (n : Nat)] (ap m L) = none := by
  rw [ainv_w rfl wrTk]
  exact runQ_no (rta_noa (fun e M => hold_N M) hk hn) (abodyD_none Tryd.func45 bodyrta (by kernel_rfl))
theorem tk_pan (hk : L[k]? = some (rdR l)) (hn : l.length < n) : ainvP E (RP (N + 2)) 45 [adr m k 0, .int .i64 (n : Nat)] (ap m L) = some (ref9 4, ap m L) := by
  rw [ainvP_w rfl wrTk]
  exact runQ_2 (rta_pan (fun e M => hold_N M) (fun e M => hold_P M) hk hn)
end
end Go.Am.Seat

/-
  Numbers of bytes; one byte, four, eight of a reader (own work).
-/
set_option linter.unusedSimpArgs false
set_option linter.unusedVariables false
namespace Go.Am.Seat
open Go.Proofs Go.Am
set_option maxRecDepth 100000

/-- The number of so many bytes, the highest first. -/
def nb (l : List UInt8) : Nat := l.foldl (fun n x => n * 256 + x.toNat) 0
theorem nb_nil : nb [] = 0 := rfl
theorem nb_app (l : List UInt8) (x : UInt8) : nb (l ++ [x]) = nb l * 256 + x.toNat := by simp [nb]
theorem nb_lt_at (l : List UInt8) : ∀ n0 : Nat, l.foldl (fun n x => n * 256 + x.toNat) n0 < (n0 + 1) * 256 ^ l.length := by
  induction l with
  | nil => intro n0; simp
  | cons x l ih =>
    intro n0
    have h := ih (n0 * 256 + x.toNat)
    have hx := x.toNat_lt
    rw [List.foldl_cons, List.length_cons, Nat.pow_succ, Nat.mul_comm (256 ^ l.length), ← Nat.mul_assoc]
    exact Nat.lt_of_lt_of_le h (Nat.mul_le_mul_right _ (by omega))
theorem nb_lt (l : List UInt8) : nb l < 256 ^ l.length := by
  have h := nb_lt_at l 0
  rwa [Nat.zero_add, Nat.one_mul] at h

theorem shlB {n : Nat} {k : IntKind} (h : n * 256 < 18446744073709551616) : abin .shl .u64 ((n : Nat) : Int) k 8 = some (.int .u64 ((n * 256 : Nat) : Int)) := by
  have h1 : abin .shl .u64 ((n : Nat) : Int) k 8 = some (.int .u64 (wrapF .u64 (((n : Nat) : Int) * 256))) := by cases k <;> rfl
  rw [h1]
  congr 2
  simp only [wrapF]
  omega
theorem orB {n x : Nat} (h : n * 256 < 18446744073709551616) (hx : x < 256) : abin .or .u64 ((n * 256 : Nat) : Int) .u64 ((x : Nat) : Int) = some (.int .u64 ((n * 256 + x : Nat) : Int)) := by
  have h1 : abin .or .u64 ((n * 256 : Nat) : Int) .u64 ((x : Nat) : Int) = some (.int .u64 (wrapF .u64 (((((n * 256 : Nat) : Int) % 18446744073709551616).toNat ||| (((x : Nat) : Int) % 18446744073709551616).toNat : Nat) : Int))) := by kernel_rfl
  have h2 : (((n * 256 : Nat) : Int) % 18446744073709551616).toNat = n <<< 8 := by rw [Nat.shiftLeft_eq]; omega
  have h3 : (((x : Nat) : Int) % 18446744073709551616).toNat = x := by omega
  rw [h1, h2, h3, ← Nat.shiftLeft_add_eq_or_of_lt (by omega), Nat.shiftLeft_eq]
  congr 2
  simp only [wrapF]
  omega
theorem cvB {x : Nat} (hx : x < 256) : aconv E.P 5 22 (.int .u8 ((x : Nat) : Int)) = some (.int .u64 ((x : Nat) : Int)) := by
  have h : aconv E.P 5 22 (.int .u8 ((x : Nat) : Int)) = some (.int .u64 (wrapF .u64 ((x : Nat) : Int))) := by kernel_rfl
  rw [h]
  congr 2
  simp only [wrapF]
  omega

theorem ixT {i : Nat} {l : List UInt8} (hi : i < l.length) : aindex E.P 9 (tx l) (.int .i64 (i : Nat)) = some (.int .u8 ((l[i]).toNat : Nat)) := by
  unfold aindex tx
  simp only [und9]
  rw [if_pos (by omega), Int.toNat_natCast]
  have h : l.toArray.toList[i]? = some l[i] := by simp [hi]
  simp only [h]
theorem alenT {l : List UInt8} : alen E.P 9 (tx l) = some (.int .i64 (l.length : Nat)) := by
  unfold alen tx
  simp only [und9]

section
variable {self sp : Self} {nf : Nat} {m : Mem} {F : Nat → Value} {i : Nat} {l : List UInt8}
theorem pnu_it (h0 : F 0 = tx l) (h3 : F 3 = .int .u64 (nb (l.take i) : Nat)) (h6 : F 6 = .int .i64 (l.length : Nat)) (h7 : F 7 = .int .i64 (i : Nat)) (hi : i < l.length) (hl : l.length ≤ 8) :
    ∃ F', acodeN E self nf lppnu_0 (lst F 19) m = some (.normal, lst F' 19, m) ∧ F' 0 = tx l ∧ F' 3 = .int .u64 (nb (l.take (i + 1)) : Nat) ∧ F' 6 = .int .i64 (l.length : Nat) ∧ F' 7 = .int .i64 ((i + 1 : Nat) : Int) := by
  have d1 : decide (((i : Nat) : Int) < ((l.length : Nat) : Int)) = true := decide_eq_true (by omega)
  have hx := (l[i]).toNat_lt
  have hn : nb (l.take i) * 256 < 18446744073709551616 := by
    have h := nb_lt (l.take i)
    rw [List.length_take_of_le (by omega)] at h
    have h2 : 256 ^ i ≤ 256 ^ 7 := Nat.pow_le_pow_right (by decide) (by omega)
    have h3 : (256 : Nat) ^ 7 = 72057594037927936 := by decide
    omega
  have e1 := shlB (k := .i64) hn
  have e1' := shlB (k := .u64) hn
  have e2 := orB hn (x := (l[i]).toNat) hx
  have e3 := cvB (x := (l[i]).toNat) hx
  have e4 : wrapF .i64 (((i : Nat) : Int) + 1) = ((i + 1 : Nat) : Int) := by simp only [wrapF]; omega
  have e5 : nb (l.take (i + 1)) = nb (l.take i) * 256 + (l[i]).toNat := by rw [← nb_app, List.take_append_getElem hi]
  rw [e5]
  simp only [lppnu_0_eq, epnu_0, epnu_1, epnu_2, epnu_3, epnu_4, epnu_5, epnu_6, epnu_7, lpnu_0, lpnu_1, lpnu_2, lpnu_3, lpnu_4, lpnu_5, lpnu_6, lpnu_7, agd_none, gdAt, gdV_bool, gdV_undef, Tryd.f44, List.append_eq, List.cons_append, List.nil_append, apure_call1, apure_call2, apure_call3, bft, btf, acodeN, List.getElem?_toArray, List.getElem?_cons_zero, List.getElem?_cons_succ, aopsN, adrawT, cls, astep, aop, afloat, ev, nth_lst, get_lst, aput, setAt_lst, upd_at, init_zero, init_succ, init_nil, Nat.reduceLT, Nat.reduceEqDiff, reduceIte, abuiltin, alen, Option.map_some, Option.map_none, orElse_some, apure_add, List.map_cons, List.map_nil, List.all_cons, List.all_nil, lit2, lit1, lit0, List.isEmpty_nil, Bool.and_self, Bool.and_true, Bool.true_and, Bool.false_and, Bool.and_false, Bool.not_true, Bool.not_false, Bool.or_true, Bool.true_or, Bool.false_or, Bool.or_false, Bool.false_eq_true, if_true, if_false, List.length_map, beq_self_eq_true, und3, und4, und5, und9, eqlV9_int, neqV9_int, eqlV9_bool, neqV9_bool, eqlV9_str, neqV9_str, ↓aop_eqlV9, ↓aop_neqV9, ↓afloat_eqlV9, ↓afloat_neqV9, apure_eqlV9, apure_neqV9, eqlW, neqW, eqlI64, neqI64, aload_sealed, adU, adE, ldI', ldU', ldL', ldS_pol, ldS_bud, ldF_p0, ldF_p1, ldF_p2, ldF_b0, ldF_b1, ldF_b2, stI', stU', stT', stL, polLen, budLen, layP, layB, layB0, layB1, layB2, List.length_nil, List.length_cons, List.length_append, Nat.reduceAdd, Nat.reduceLeDiff, List.set_cons_zero, List.set_cons_succ, and_self, true_and, Nat.le_refl, apure_max, apure_min, maxV, minV, finish, ares, aresL, ares1_tmp, ares1_cell, aresC_adr, aextract, h0, h3, h6, h7, lssI, addI, ixT hi, d1, e1, e1', e2, e3, e4]
  exact ⟨_, rfl, by simp only [upd_at, Nat.reduceEqDiff, reduceIte, h0], by simp only [upd_at, Nat.reduceEqDiff, reduceIte], by simp only [upd_at, Nat.reduceEqDiff, reduceIte, h6], by simp only [upd_at, Nat.reduceEqDiff, reduceIte]⟩
theorem pnu_end (h6 : F 6 = .int .i64 (l.length : Nat)) (h7 : F 7 = .int .i64 (l.length : Nat)) : ∃ F', acodeN E self nf lppnu_0 (lst F 19) m = some (.exit 0, lst F' 19, m) ∧ F' 3 = F 3 := by
  have d1 : decide (((l.length : Nat) : Int) < ((l.length : Nat) : Int)) = false := decide_eq_false (by omega)
  simp only [lppnu_0_eq, epnu_0, epnu_1, epnu_2, epnu_3, epnu_4, epnu_5, epnu_6, epnu_7, lpnu_0, lpnu_1, lpnu_2, lpnu_3, lpnu_4, lpnu_5, lpnu_6, lpnu_7, agd_none, gdAt, gdV_bool, gdV_undef, Tryd.f44, List.append_eq, List.cons_append, List.nil_append, apure_call1, apure_call2, apure_call3, bft, btf, acodeN, List.getElem?_toArray, List.getElem?_cons_zero, List.getElem?_cons_succ, aopsN, adrawT, cls, astep, aop, afloat, ev, nth_lst, get_lst, aput, setAt_lst, upd_at, init_zero, init_succ, init_nil, Nat.reduceLT, Nat.reduceEqDiff, reduceIte, abuiltin, alen, Option.map_some, Option.map_none, orElse_some, apure_add, List.map_cons, List.map_nil, List.all_cons, List.all_nil, lit2, lit1, lit0, List.isEmpty_nil, Bool.and_self, Bool.and_true, Bool.true_and, Bool.false_and, Bool.and_false, Bool.not_true, Bool.not_false, Bool.or_true, Bool.true_or, Bool.false_or, Bool.or_false, Bool.false_eq_true, if_true, if_false, List.length_map, beq_self_eq_true, und3, und4, und5, und9, eqlV9_int, neqV9_int, eqlV9_bool, neqV9_bool, eqlV9_str, neqV9_str, ↓aop_eqlV9, ↓aop_neqV9, ↓afloat_eqlV9, ↓afloat_neqV9, apure_eqlV9, apure_neqV9, eqlW, neqW, eqlI64, neqI64, aload_sealed, adU, adE, ldI', ldU', ldL', ldS_pol, ldS_bud, ldF_p0, ldF_p1, ldF_p2, ldF_b0, ldF_b1, ldF_b2, stI', stU', stT', stL, polLen, budLen, layP, layB, layB0, layB1, layB2, List.length_nil, List.length_cons, List.length_append, Nat.reduceAdd, Nat.reduceLeDiff, List.set_cons_zero, List.set_cons_succ, and_self, true_and, Nat.le_refl, apure_max, apure_min, maxV, minV, finish, ares, aresL, ares1_tmp, ares1_cell, aresC_adr, aextract, h6, h7, lssI, d1]
  exact ⟨_, rfl, by simp only [upd_at, Nat.reduceEqDiff, reduceIte]⟩
theorem pnu_body (hl : l.length ≤ 8) (hnf : 8 < nf) : abody E self nf 44 [tx l] m = some (.int .u64 (nb l : Nat), m) := by
  rw [abody_eqF (by kernel_rfl) Tryd.func44 bodypnu (by kernel_rfl) (Nat.le_of_ble_eq_true rfl)]
  rw [show Tryd.f44.ntmps = 19 from rfl]
  have h := aloop_inv (body := acodeN E self nf lppnu_0) (N := l.length) (I := fun i T m' => m' = m ∧ ∃ F, T = lst F 19 ∧ F 0 = tx l ∧ F 3 = .int .u64 (nb (l.take i) : Nat) ∧ F 6 = .int .i64 (l.length : Nat) ∧ F 7 = .int .i64 (i : Nat))
    (Q := fun e T m' => e = .exit 0 ∧ m' = m ∧ ∃ F, T = lst F 19 ∧ F 3 = .int .u64 (nb l : Nat)) (fun i T m' hi hI => by
      obtain ⟨rfl, F, rfl, h0, h3, h6, h7⟩ := hI
      by_cases hlt : i < l.length
      · left
        obtain ⟨F', hr, g0, g3, g6, g7⟩ := pnu_it (self := self) (nf := nf) (m := m') h0 h3 h6 h7 hlt hl
        exact ⟨_, _, hr, hlt, rfl, F', rfl, g0, g3, g6, g7⟩
      · right
        have hie : i = l.length := by omega
        subst hie
        obtain ⟨F', hr, g3⟩ := pnu_end (self := self) (nf := nf) (m := m') h6 h7
        exact ⟨_, _, _, hr, by simp, rfl, rfl, F', rfl, by rw [g3, h3, List.take_length]⟩)
  obtain ⟨e, T', m', hr, rfl, rfl, F', rfl, g3⟩ := h l.length 0 nf (lst (upd (upd (upd (upd (upd (init [tx l]) 2 (.int .u64 0)) 3 (.int .u64 0)) 5 (tx l)) 6 (.int .i64 (l.length : Nat))) 7 (.int .i64 0)) 19) m (by omega) (by omega) ⟨rfl, _, rfl, rfl, rfl, rfl, rfl⟩
  simp only [epnu_0, epnu_1, epnu_2, epnu_3, epnu_4, epnu_5, epnu_6, epnu_7, lpnu_0, lpnu_1, lpnu_2, lpnu_3, lpnu_4, lpnu_5, lpnu_6, lpnu_7, agd_none, gdAt, gdV_bool, gdV_undef, Tryd.f44, List.append_eq, List.cons_append, List.nil_append, apure_call1, apure_call2, apure_call3, bft, btf, acodeN, List.getElem?_toArray, List.getElem?_cons_zero, List.getElem?_cons_succ, aopsN, adrawT, cls, astep, aop, afloat, ev, nth_lst, get_lst, aput, setAt_lst, upd_at, init_zero, init_succ, init_nil, Nat.reduceLT, Nat.reduceEqDiff, reduceIte, abuiltin, Option.map_some, Option.map_none, orElse_some, apure_add, List.map_cons, List.map_nil, List.all_cons, List.all_nil, lit2, lit1, lit0, List.isEmpty_nil, Bool.and_self, Bool.and_true, Bool.true_and, Bool.false_and, Bool.and_false, Bool.not_true, Bool.not_false, Bool.or_true, Bool.true_or, Bool.false_or, Bool.or_false, Bool.false_eq_true, if_true, if_false, List.length_map, beq_self_eq_true, und3, und4, und5, und9, eqlV9_int, neqV9_int, eqlV9_bool, neqV9_bool, eqlV9_str, neqV9_str, ↓aop_eqlV9, ↓aop_neqV9, ↓afloat_eqlV9, ↓afloat_neqV9, apure_eqlV9, apure_neqV9, eqlW, neqW, eqlI64, neqI64, aload_sealed, adU, adE, ldI', ldU', ldL', ldS_pol, ldS_bud, ldF_p0, ldF_p1, ldF_p2, ldF_b0, ldF_b1, ldF_b2, stI', stU', stT', stL, polLen, budLen, layP, layB, layB0, layB1, layB2, List.length_nil, List.length_cons, List.length_append, Nat.reduceAdd, Nat.reduceLeDiff, List.set_cons_zero, List.set_cons_succ, and_self, true_and, Nat.le_refl, apure_max, apure_min, maxV, minV, finish, ares, aresL, ares1_tmp, ares1_cell, aresC_adr, aextract, alenT, hr, g3]
end

section
variable {N : Nat} {l : List UInt8}
theorem tx_lit : lit2 (tx l) = true := rfl
theorem num_call (hl : l.length ≤ 8) (hN : 8 ≤ N) : AnsB (RQ (N + 1)) 44 [tx l] (.int .u64 (nb l : Nat)) :=
  ans9 rfl rfl rfl fun m => ⟨_, pnu_body hl (by omega)⟩
end
end Go.Am.Seat

/-
  One byte, four, eight, a flag of a reader (own work).
-/
set_option linter.unusedSimpArgs false
set_option linter.unusedVariables false
namespace Go.Am.Seat
open Go.Proofs Go.Am
set_option maxRecDepth 100000

theorem cbTk : callableB E.P 45 = true := by kernel_rfl
theorem cbNu : callableB E.P 44 = true := by kernel_rfl
theorem cbBy : callableB E.P 36 = true := by kernel_rfl
theorem cbEi : callableB E.P 35 = true := by kernel_rfl
theorem cvFo {n : Nat} (h : n < 4294967296) : aconv E.P 22 110 (.int .u64 ((n : Nat) : Int)) = some (.int .u32 ((n : Nat) : Int)) := by
  have h1 : aconv E.P 22 110 (.int .u64 ((n : Nat) : Int)) = some (.int .u32 (wrapF .u32 ((n : Nat) : Int))) := by kernel_rfl
  rw [h1]
  congr 2
  simp only [wrapF]
  omega
theorem leqB (a b : Int) : abin .leq .u8 a .u8 b = some (.bool (decide (a ≤ b))) := by kernel_rfl
theorem leq32 (a b : Int) : abin .leq .u32 a .u32 b = some (.bool (decide (a ≤ b))) := by kernel_rfl

section
variable {self sp : Self} {nf : Nat} {m M' : Mem} {L : List Blk} {k : Nat} {x : UInt8} {l : List UInt8}
theorem rby_ok (hT : ainv E self 45 [adr m k 0, .int .i64 1] (ap m L) = some (tx [x], M')) : abody E self nf 36 [adr m k 0] (ap m L) = some (.int .u8 (x.toNat : Nat), M') := by
  rw [abody_eqF (by kernel_rfl) Tryd.func36 bodyrby (by kernel_rfl) (Nat.le_of_ble_eq_true rfl)]
  rw [show Tryd.f36.ntmps = 6 from rfl]
  have hi : aindex E.P 9 (tx [x]) (.int .i64 0) = some (.int .u8 (x.toNat : Nat)) := ixT (i := 0) (l := [x]) Nat.zero_lt_one
  simp only [erby_0, erby_1, lrby_0, lrby_1, agd_none, gdAt, gdV_bool, gdV_undef, Tryd.f36, List.append_eq, List.cons_append, List.nil_append, apure_call1, apure_call2, apure_call3, bft, btf, acodeN, List.getElem?_toArray, List.getElem?_cons_zero, List.getElem?_cons_succ, aopsN, adrawT, cls, astep, aop, afloat, ev, nth_lst, get_lst, aput, setAt_lst, upd_at, init_zero, init_succ, init_nil, Nat.reduceLT, Nat.reduceEqDiff, reduceIte, abuiltin, Option.map_some, Option.map_none, orElse_some, apure_add, List.map_cons, List.map_nil, List.all_cons, List.all_nil, lit2, lit1, lit0, List.isEmpty_nil, Bool.and_self, Bool.and_true, Bool.true_and, Bool.false_and, Bool.and_false, Bool.not_true, Bool.not_false, Bool.or_true, Bool.true_or, Bool.false_or, Bool.or_false, Bool.false_eq_true, if_true, if_false, List.length_map, beq_self_eq_true, und3, und4, und5, und9, eqlV9_int, neqV9_int, eqlV9_bool, neqV9_bool, eqlV9_str, neqV9_str, ↓aop_eqlV9, ↓aop_neqV9, ↓afloat_eqlV9, ↓afloat_neqV9, apure_eqlV9, apure_neqV9, eqlW, neqW, eqlI64, neqI64, aload_sealed, adU, adE, ldI', ldU', ldL', ldS_pol, ldS_bud, ldF_p0, ldF_p1, ldF_p2, ldF_b0, ldF_b1, ldF_b2, stI', stU', stT', stL, polLen, budLen, layP, layB, layB0, layB1, layB2, List.length_nil, List.length_cons, List.length_append, Nat.reduceAdd, Nat.reduceLeDiff, List.set_cons_zero, List.set_cons_succ, and_self, true_and, Nat.le_refl, apure_max, apure_min, maxV, minV, finish, ares, aresL, ares1_tmp, ares1_cell, aresC_adr, aextract, cbTk, hT, hi]
theorem rby_no (hT : ainv E self 45 [adr m k 0, .int .i64 1] (ap m L) = none) : abody E self nf 36 [adr m k 0] (ap m L) = none := by
  rw [abody_eqF (by kernel_rfl) Tryd.func36 bodyrby (by kernel_rfl) (Nat.le_of_ble_eq_true rfl)]
  rw [show Tryd.f36.ntmps = 6 from rfl]
  simp only [erby_0, erby_1, lrby_0, lrby_1, agd_none, gdAt, gdV_bool, gdV_undef, Tryd.f36, List.append_eq, List.cons_append, List.nil_append, apure_call1, apure_call2, apure_call3, bft, btf, acodeN, List.getElem?_toArray, List.getElem?_cons_zero, List.getElem?_cons_succ, aopsN, adrawT, cls, astep, aop, afloat, ev, nth_lst, get_lst, aput, setAt_lst, upd_at, init_zero, init_succ, init_nil, Nat.reduceLT, Nat.reduceEqDiff, reduceIte, abuiltin, Option.map_some, Option.map_none, orElse_some, apure_add, List.map_cons, List.map_nil, List.all_cons, List.all_nil, lit2, lit1, lit0, List.isEmpty_nil, Bool.and_self, Bool.and_true, Bool.true_and, Bool.false_and, Bool.and_false, Bool.not_true, Bool.not_false, Bool.or_true, Bool.true_or, Bool.false_or, Bool.or_false, Bool.false_eq_true, if_true, if_false, List.length_map, beq_self_eq_true, und3, und4, und5, und9, eqlV9_int, neqV9_int, eqlV9_bool, neqV9_bool, eqlV9_str, neqV9_str, ↓aop_eqlV9, ↓aop_neqV9, ↓afloat_eqlV9, ↓afloat_neqV9, apure_eqlV9, apure_neqV9, eqlW, neqW, eqlI64, neqI64, aload_sealed, adU, adE, ldI', ldU', ldL', ldS_pol, ldS_bud, ldF_p0, ldF_p1, ldF_p2, ldF_b0, ldF_b1, ldF_b2, stI', stU', stT', stL, polLen, budLen, layP, layB, layB0, layB1, layB2, List.length_nil, List.length_cons, List.length_append, Nat.reduceAdd, Nat.reduceLeDiff, List.set_cons_zero, List.set_cons_succ, and_self, true_and, Nat.le_refl, apure_max, apure_min, maxV, minV, finish, ares, aresL, ares1_tmp, ares1_cell, aresC_adr, aextract, cbTk, hT]
theorem rby_pan {e : Int} (hT : ainv E self 45 [adr m k 0, .int .i64 1] (ap m L) = none) (hP : ainvP E sp 45 [adr m k 0, .int .i64 1] (ap m L) = some (ref9 e, M')) : abodyP E self sp nf 36 [adr m k 0] (ap m L) = some (ref9 e, M') := by
  rw [abodyP_eqF (by kernel_rfl) Tryd.func36 bodyrby (by kernel_rfl) (Nat.le_of_ble_eq_true rfl)]
  rw [show Tryd.f36.ntmps = 6 from rfl]
  simp only [erby_0, erby_1, lrby_0, lrby_1, agd_none, gdAt, gdV_bool, gdV_undef, Tryd.f36, List.append_eq, List.cons_append, List.nil_append, apure_call1, apure_call2, apure_call3, bft, btf, acodeN, List.getElem?_toArray, List.getElem?_cons_zero, List.getElem?_cons_succ, aopsN, adrawT, cls, astep, aop, afloat, ev, nth_lst, get_lst, aput, setAt_lst, upd_at, init_zero, init_succ, init_nil, Nat.reduceLT, Nat.reduceEqDiff, reduceIte, abuiltin, Option.map_some, Option.map_none, orElse_some, apure_add, List.map_cons, List.map_nil, List.all_cons, List.all_nil, lit2, lit1, lit0, List.isEmpty_nil, Bool.and_self, Bool.and_true, Bool.true_and, Bool.false_and, Bool.and_false, Bool.not_true, Bool.not_false, Bool.or_true, Bool.true_or, Bool.false_or, Bool.or_false, Bool.false_eq_true, if_true, if_false, List.length_map, beq_self_eq_true, und3, und4, und5, und9, eqlV9_int, neqV9_int, eqlV9_bool, neqV9_bool, eqlV9_str, neqV9_str, ↓aop_eqlV9, ↓aop_neqV9, ↓afloat_eqlV9, ↓afloat_neqV9, apure_eqlV9, apure_neqV9, eqlW, neqW, eqlI64, neqI64, aload_sealed, adU, adE, ldI', ldU', ldL', ldS_pol, ldS_bud, ldF_p0, ldF_p1, ldF_p2, ldF_b0, ldF_b1, ldF_b2, stI', stU', stT', stL, polLen, budLen, layP, layB, layB0, layB1, layB2, List.length_nil, List.length_cons, List.length_append, Nat.reduceAdd, Nat.reduceLeDiff, List.set_cons_zero, List.set_cons_succ, and_self, true_and, Nat.le_refl, apure_max, apure_min, maxV, minV, finish, ares, aresL, ares1_tmp, ares1_cell, aresC_adr, aextract, cbTk, hT, acodePN, aopsPN, apan, hP, finishP]

theorem rei_ok (hT : ainv E self 45 [adr m k 0, .int .i64 8] (ap m L) = some (tx l, M')) (hN : ∀ M, ainv E self 44 [tx l] M = some (.int .u64 (nb l : Nat), M)) : abody E self nf 35 [adr m k 0] (ap m L) = some (.int .u64 (nb l : Nat), M') := by
  rw [abody_eqF (by kernel_rfl) Tryd.func35 bodyrei (by kernel_rfl) (Nat.le_of_ble_eq_true rfl)]
  rw [show Tryd.f35.ntmps = 6 from rfl]
  simp only [erei_0, erei_1, lrei_0, lrei_1, agd_none, gdAt, gdV_bool, gdV_undef, Tryd.f35, List.append_eq, List.cons_append, List.nil_append, apure_call1, apure_call2, apure_call3, bft, btf, acodeN, List.getElem?_toArray, List.getElem?_cons_zero, List.getElem?_cons_succ, aopsN, adrawT, cls, astep, aop, afloat, ev, nth_lst, get_lst, aput, setAt_lst, upd_at, init_zero, init_succ, init_nil, Nat.reduceLT, Nat.reduceEqDiff, reduceIte, abuiltin, Option.map_some, Option.map_none, orElse_some, apure_add, List.map_cons, List.map_nil, List.all_cons, List.all_nil, lit2, lit1, lit0, List.isEmpty_nil, Bool.and_self, Bool.and_true, Bool.true_and, Bool.false_and, Bool.and_false, Bool.not_true, Bool.not_false, Bool.or_true, Bool.true_or, Bool.false_or, Bool.or_false, Bool.false_eq_true, if_true, if_false, List.length_map, beq_self_eq_true, und3, und4, und5, und9, eqlV9_int, neqV9_int, eqlV9_bool, neqV9_bool, eqlV9_str, neqV9_str, ↓aop_eqlV9, ↓aop_neqV9, ↓afloat_eqlV9, ↓afloat_neqV9, apure_eqlV9, apure_neqV9, eqlW, neqW, eqlI64, neqI64, aload_sealed, adU, adE, ldI', ldU', ldL', ldS_pol, ldS_bud, ldF_p0, ldF_p1, ldF_p2, ldF_b0, ldF_b1, ldF_b2, stI', stU', stT', stL, polLen, budLen, layP, layB, layB0, layB1, layB2, List.length_nil, List.length_cons, List.length_append, Nat.reduceAdd, Nat.reduceLeDiff, List.set_cons_zero, List.set_cons_succ, and_self, true_and, Nat.le_refl, apure_max, apure_min, maxV, minV, finish, ares, aresL, ares1_tmp, ares1_cell, aresC_adr, aextract, cbTk, cbNu, hT, hN]
theorem rei_no (hT : ainv E self 45 [adr m k 0, .int .i64 8] (ap m L) = none) : abody E self nf 35 [adr m k 0] (ap m L) = none := by
  rw [abody_eqF (by kernel_rfl) Tryd.func35 bodyrei (by kernel_rfl) (Nat.le_of_ble_eq_true rfl)]
  rw [show Tryd.f35.ntmps = 6 from rfl]
  simp only [erei_0, erei_1, lrei_0, lrei_1, agd_none, gdAt, gdV_bool, gdV_undef, Tryd.f35, List.append_eq, List.cons_append, List.nil_append, apure_call1, apure_call2, apure_call3, bft, btf, acodeN, List.getElem?_toArray, List.getElem?_cons_zero, List.getElem?_cons_succ, aopsN, adrawT, cls, astep, aop, afloat, ev, nth_lst, get_lst, aput, setAt_lst, upd_at, init_zero, init_succ, init_nil, Nat.reduceLT, Nat.reduceEqDiff, reduceIte, abuiltin, Option.map_some, Option.map_none, orElse_some, apure_add, List.map_cons, List.map_nil, List.all_cons, List.all_nil, lit2, lit1, lit0, List.isEmpty_nil, Bool.and_self, Bool.and_true, Bool.true_and, Bool.false_and, Bool.and_false, Bool.not_true, Bool.not_false, Bool.or_true, Bool.true_or, Bool.false_or, Bool.or_false, Bool.false_eq_true, if_true, if_false, List.length_map, beq_self_eq_true, und3, und4, und5, und9, eqlV9_int, neqV9_int, eqlV9_bool, neqV9_bool, eqlV9_str, neqV9_str, ↓aop_eqlV9, ↓aop_neqV9, ↓afloat_eqlV9, ↓afloat_neqV9, apure_eqlV9, apure_neqV9, eqlW, neqW, eqlI64, neqI64, aload_sealed, adU, adE, ldI', ldU', ldL', ldS_pol, ldS_bud, ldF_p0, ldF_p1, ldF_p2, ldF_b0, ldF_b1, ldF_b2, stI', stU', stT', stL, polLen, budLen, layP, layB, layB0, layB1, layB2, List.length_nil, List.length_cons, List.length_append, Nat.reduceAdd, Nat.reduceLeDiff, List.set_cons_zero, List.set_cons_succ, and_self, true_and, Nat.le_refl, apure_max, apure_min, maxV, minV, finish, ares, aresL, ares1_tmp, ares1_cell, aresC_adr, aextract, cbTk, hT]
theorem rei_pan {e : Int} (hT : ainv E self 45 [adr m k 0, .int .i64 8] (ap m L) = none) (hP : ainvP E sp 45 [adr m k 0, .int .i64 8] (ap m L) = some (ref9 e, M')) : abodyP E self sp nf 35 [adr m k 0] (ap m L) = some (ref9 e, M') := by
  rw [abodyP_eqF (by kernel_rfl) Tryd.func35 bodyrei (by kernel_rfl) (Nat.le_of_ble_eq_true rfl)]
  rw [show Tryd.f35.ntmps = 6 from rfl]
  simp only [erei_0, erei_1, lrei_0, lrei_1, agd_none, gdAt, gdV_bool, gdV_undef, Tryd.f35, List.append_eq, List.cons_append, List.nil_append, apure_call1, apure_call2, apure_call3, bft, btf, acodeN, List.getElem?_toArray, List.getElem?_cons_zero, List.getElem?_cons_succ, aopsN, adrawT, cls, astep, aop, afloat, ev, nth_lst, get_lst, aput, setAt_lst, upd_at, init_zero, init_succ, init_nil, Nat.reduceLT, Nat.reduceEqDiff, reduceIte, abuiltin, Option.map_some, Option.map_none, orElse_some, apure_add, List.map_cons, List.map_nil, List.all_cons, List.all_nil, lit2, lit1, lit0, List.isEmpty_nil, Bool.and_self, Bool.and_true, Bool.true_and, Bool.false_and, Bool.and_false, Bool.not_true, Bool.not_false, Bool.or_true, Bool.true_or, Bool.false_or, Bool.or_false, Bool.false_eq_true, if_true, if_false, List.length_map, beq_self_eq_true, und3, und4, und5, und9, eqlV9_int, neqV9_int, eqlV9_bool, neqV9_bool, eqlV9_str, neqV9_str, ↓aop_eqlV9, ↓aop_neqV9, ↓afloat_eqlV9, ↓afloat_neqV9, apure_eqlV9, apure_neqV9, eqlW, neqW, eqlI64, neqI64, aload_sealed, adU, adE, ldI', ldU', ldL', ldS_pol, ldS_bud, ldF_p0, ldF_p1, ldF_p2, ldF_b0, ldF_b1, ldF_b2, stI', stU', stT', stL, polLen, budLen, layP, layB, layB0, layB1, layB2, List.length_nil, List.length_cons, List.length_append, Nat.reduceAdd, Nat.reduceLeDiff, List.set_cons_zero, List.set_cons_succ, and_self, true_and, Nat.le_refl, apure_max, apure_min, maxV, minV, finish, ares, aresL, ares1_tmp, ares1_cell, aresC_adr, aextract, cbTk, hT, acodePN, aopsPN, apan, hP, finishP]

end
end Go.Am.Seat

/-
  A reader's calls at each level; a budget's reading (own work).
-/
set_option linter.unusedSimpArgs false
set_option linter.unusedVariables false
namespace Go.Am.Seat
open Go.Proofs Go.Am
set_option maxRecDepth 100000

theorem wrBy : E.wr 36 = true := by kernel_rfl
theorem wrEi : E.wr 35 = true := by kernel_rfl
section
variable {N : Nat} {m : Mem} {L : List Blk} {k : Nat} {l p q r : List UInt8} {x : UInt8}
theorem by_ok (hk : L[k]? = some (rdR (x :: r))) : ainv E (RQ (N + 3)) 36 [adr m k 0] (ap m L) = some (.int .u8 (x.toNat : Nat), ap m (L.set k (rdR r))) := by
  rw [ainv_w rfl wrBy]
  exact runQ_1 (rby_ok (tk_ok (N := N) (n := 1) hk (Nat.le_add_left 1 _)))
theorem by_no (hk : L[k]? = some (rdR [])) : ainv E (RQ (N + 3)) 36 [adr m k 0] (ap m L) = none ∧ ainvP E (RP (N + 3)) 36 [adr m k 0] (ap m L) = some (ref9 4, ap m L) := by
  have h1 := tk_no (N := N) (m := m) (n := 1) hk Nat.zero_lt_one
  have h2 := tk_pan (N := N) (m := m) (n := 1) hk Nat.zero_lt_one
  rw [ainv_w rfl wrBy, ainvP_w rfl wrBy]
  exact ⟨runQ_no (rby_no h1) (abodyD_none Tryd.func36 bodyrby (by kernel_rfl)), runQ_2 (rby_pan h1 h2)⟩
theorem ei_ok (hp : p.length = 8) (hk : L[k]? = some (rdR (p ++ l))) (hN : 8 ≤ N) : ainv E (RQ (N + 3)) 35 [adr m k 0] (ap m L) = some (.int .u64 (nb p : Nat), ap m (L.set k (rdR l))) := by
  rw [ainv_w rfl wrEi]
  have h := tk_ok (N := N) (m := m) (n := 8) hk (by rw [List.length_append]; omega)
  rw [List.take_left' hp, List.drop_left' hp] at h
  exact runQ_1 (rei_ok h (fun M => num_call (by omega) (by omega) M))
theorem ei_no (hl : l.length < 8) (hk : L[k]? = some (rdR l)) : ainv E (RQ (N + 3)) 35 [adr m k 0] (ap m L) = none ∧ ainvP E (RP (N + 3)) 35 [adr m k 0] (ap m L) = some (ref9 4, ap m L) := by
  have h1 := tk_no (N := N) (m := m) (n := 8) hk hl
  have h2 := tk_pan (N := N) (m := m) (n := 8) hk hl
  rw [ainv_w rfl wrEi, ainvP_w rfl wrEi]
  exact ⟨runQ_no (rei_no h1) (abodyD_none Tryd.func35 bodyrei (by kernel_rfl)), runQ_2 (rei_pan h1 h2)⟩
end

noncomputable def apB3s (P : Program) (t ty : TypeId) (a b c : Value) : Option Value := apure P [a, b, c] { dst := none, op := .build t #[(0, .tmp 0), (1, .tmp 1), (2, .tmp 2)], type := ty, pos := "", after := #[], guard := none }
theorem apure_build3s {P : Program} {T : List Value} {t ty : TypeId} {a b c : Nat} {pos : String} {af : Array Edge} {gu : Option (Nat × Bool)} {dd : Option Tmp} :
    apure P T { dst := dd, op := .build t #[(0, .tmp a), (1, .tmp b), (2, .tmp c)], type := ty, pos := pos, after := af, guard := gu } = apB3s P t ty (nth T a) (nth T b) (nth T c) := by
  unfold apB3s apure
  simp [Op.operands, execOp, ev, nth_zero, nth_succ]
theorem cv32 {n : Nat} (h : n < 4294967296) : aconv E.P 110 3 (.int .u32 ((n : Nat) : Int)) = some (.int .i64 ((n : Nat) : Int)) := by
  have h1 : aconv E.P 110 3 (.int .u32 ((n : Nat) : Int)) = some (.int .i64 (wrapF .i64 ((n : Nat) : Int))) := by kernel_rfl
  rw [h1]
  congr 2
  simp only [wrapF]
  omega

section
variable {N : Nat} {m : Mem} {b0 : Blk} {l p q r : List UInt8} {x : UInt8}
end
end Go.Am.Seat

/-
  A budget's reading where it ends too soon (own work).
-/
set_option linter.unusedSimpArgs false
set_option linter.unusedVariables false
namespace Go.Am.Seat
open Go.Proofs Go.Am
set_option maxRecDepth 100000

section
variable {N : Nat} {m : Mem} {b0 : Blk} {l p q r : List UInt8} {x : UInt8}
/-- What a text's bytes say of a budget, and what stands behind. -/
def rd9 (l : List UInt8) : Option (Nat × Nat × Bool × List UInt8) :=
  if 13 ≤ l.length ∧ nb (l.take 4) ≤ 2147483647 ∧ (l.getD 12 0).toNat ≤ 1 then some (nb (l.take 4), nb ((l.drop 4).take 8), decide ((l.getD 12 0).toNat = 1), l.drop 13) else none

end
end Go.Am.Seat
