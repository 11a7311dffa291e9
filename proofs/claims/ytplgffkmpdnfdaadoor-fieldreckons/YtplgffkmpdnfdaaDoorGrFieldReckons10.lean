/-
  Texts of my own, put together: V, W, X, Y, O, O2, O3, O4, M1.
-/
import Derived.Test.YtplgffkmpdnfdaaDoorGrFieldReckons9
import Derived.Test.YtplgffkmpdnfdaaDoorGrFieldReckons8
import Derived.Lib.UnsafeStr
/-
  The Builder's methods on the abstract machine, for any bytes (own work).
-/
set_option linter.unusedSimpArgs false
set_option linter.unusedVariables false
namespace Go.Am.Seat
open Go.Proofs Go.Am
set_option maxRecDepth 100000

theorem fa86_0 (b o : Nat) : afieldAddr E.P 116 (.pointer (some ⟨b, o, none⟩)) 0 = some (.pointer (some ⟨b, o + 0, none⟩)) := by kernel_rfl
theorem fa86_1 (b o : Nat) : afieldAddr E.P 116 (.pointer (some ⟨b, o, none⟩)) 1 = some (.pointer (some ⟨b, o + 1, none⟩)) := by kernel_rfl
theorem load35 (b o : Nat) (m : Mem) : aload E.P 35 (.pointer (some ⟨b, o, none⟩)) m = cellAt m b o := aload_cell Tryd.underlying35 rfl b o m
theorem load84 (b o : Nat) (m : Mem) : aload E.P 114 (.pointer (some ⟨b, o, none⟩)) m = cellAt m b o := aload_cell Tryd.underlying114 rfl b o m
theorem build35 (c : Int) (m : Mem) : abuildSlice E.P 35 1 [(0, .int .u8 c)] m = some (.slice (some ⟨m.length, 0, none⟩) 1 1, m ++ [.row false 5 [.int .u8 c]]) := by kernel_rfl
theorem call79 : callableB E.P 116 = true := by kernel_rfl
theorem wr79 : E.wr 116 = true := by kernel_rfl
theorem call94 : callableB E.P 126 = false := by kernel_rfl
theorem ext94 : E.ext 126 = some .same := by kernel_rfl
theorem conv84 (q : Nat) : aconv E.P 114 155 (.pointer (some ⟨q, 0, none⟩)) = none := by kernel_rfl
theorem conv127 (q : Nat) : aconv E.P 155 114 (.pointer (some ⟨q, 0, none⟩)) = none := by kernel_rfl
theorem convB84 (q : Nat) (m : Mem) : aconvB E.P 114 155 (.pointer (some ⟨q, 0, none⟩)) m = none := by kernel_rfl
theorem convB127 (q : Nat) (m : Mem) : aconvB E.P 155 114 (.pointer (some ⟨q, 0, none⟩)) m = none := by kernel_rfl
theorem info86 : ∃ i, E.P.info? 116 = some i ∧ i.size ≠ 0 := by
  have h : (E.P.info? 116).map (·.size) = some 2 := by kernel_rfl
  obtain ⟨i, h1, h2⟩ := Option.map_eq_some_iff.1 h
  exact ⟨i, h1, by omega⟩
theorem info84 : ∃ i, E.P.info? 114 = some i ∧ i.size = 1 := by
  have h : (E.P.info? 114).map (·.size) = some 1 := by kernel_rfl
  exact Option.map_eq_some_iff.1 h
theorem info35 : ∃ i, E.P.info? 35 = some i ∧ i.size = 1 := by
  have h : (E.P.info? 35).map (·.size) = some 1 := by kernel_rfl
  exact Option.map_eq_some_iff.1 h
theorem aeq84 (a : Addr) : aeq E.P 114 (.pointer (some a)) (.pointer (some a)) = some true := by
  obtain ⟨i, h1, h2⟩ := info86
  exact aeq_same Tryd.underlying114 h1 h2 a
theorem aeq84n (a : Addr) : aeq E.P 114 (.pointer (some a)) (.pointer none) = some false := by kernel_rfl
theorem ptr84 {m : Mem} {q : Nat} {cs : List Value} (h : m[q]? = some (.row false 116 cs)) (hc : cs.length = 2) : aptr E.P 114 155 (.pointer (some ⟨q, 0, none⟩)) m = some (.pointer (some ⟨q, 0, none⟩)) := by
  obtain ⟨i, h1, h2⟩ := info86
  exact aptr_to Tryd.underlying114 Tryd.underlying155 h1 h2 h (by omega)
theorem ptr127 {m : Mem} {q : Nat} {cs : List Value} (h : m[q]? = some (.row false 116 cs)) (hc : cs.length = 2) : aptr E.P 155 114 (.pointer (some ⟨q, 0, none⟩)) m = some (.pointer (some ⟨q, 0, none⟩)) := by
  obtain ⟨i, h1, h2⟩ := info86
  exact aptr_from Tryd.underlying155 Tryd.underlying114 h1 h2 h (by rw [hc]; kernel_rfl)
theorem store84 {m : Mem} {q o : Nat} {cs : List Value} (h : m[q]? = some (.row false 116 cs)) (ho : o < cs.length) (a : Option Addr) : astore E.P 114 (.pointer (some ⟨q, o, none⟩)) (.pointer a) m = some (m.set q (.row false 116 (cs.set o (.pointer a)))) := by
  obtain ⟨i, h1, h2⟩ := info84
  exact astore_cell h1 h2 h ho rfl
theorem store35 {m : Mem} {q o : Nat} {cs : List Value} (h : m[q]? = some (.row false 116 cs)) (ho : o < cs.length) (a : Option Addr) (n c : Nat) : astore E.P 35 (.pointer (some ⟨q, o, none⟩)) (.slice a n c) m = some (m.set q (.row false 116 (cs.set o (.slice a n c)))) := by
  obtain ⟨i, h1, h2⟩ := info35
  exact astore_cell h1 h2 h ho rfl

section
variable {K : List Fact} {n q : Nat} {m : Mem}

theorem copy_fresh (hK : hasF K 116 = false) {bf : Value} (hq : m[q]? = some (.row false 116 [.pointer none, bf])) :
    runK E mem2 K (n + 1) 116 [.pointer (some ⟨q, 0, none⟩)] m = some (.tuple ⟨[]⟩, m.set q (.row false 116 [.pointer (some ⟨q, 0, none⟩), bf])) := by
  rw [runK_other hK, abody_eqN (by kernel_rfl) Tryd.func116 rfl (by kernel_rfl)]
  rw [show ([Value.pointer (some ⟨q, 0, none⟩)] ++ List.replicate (Tryd.f116.ntmps - [Value.pointer (some ⟨q, 0, none⟩)].length) undef) = [.pointer (some ⟨q, 0, none⟩), undef, undef, undef, undef, undef, undef, undef, undef, undef, undef, undef, undef, undef, undef, undef, undef, undef, undef, undef] from rfl]
  have hc0 : cellAt m q 0 = some (.pointer none) := cellAt_row hq 0
  have hp : ∀ (v2 v3 v4 : Value) (pos : String) (af : Array Edge), apureC E.P [.pointer (some ⟨q, 0, none⟩), undef, v2, v3, v4, .pointer none, undef, undef, undef, undef, undef, undef, undef, undef, undef, undef, undef, undef, undef, undef]
      { dst := some 6, op := .binOp .eql 114 (.tmp 5) (.const (.pointer none)) 114, type := 4, pos := pos, after := af, guard := none } = some (.bool true) := by
    intro v2 v3 v4 pos af
    kernel_rfl
  simp only [acodeN, aopsN, agd, astep, aop, ev, nth_zero, nth_succ, aput, setAt_zero, setAt_succ, Option.map_some, Option.map_none, fa86_0, load84, hc0, hp, Nat.zero_add, Nat.add_zero, call94, ext94, conv84, conv127, convB84, convB127, ptr84 hq rfl, ptr127 hq rfl, apure_convert, apure_binOp, isAddr, List.isEmpty_nil, Bool.and_self, if_true, aext, List.map_cons, List.map_nil, store84 hq (show 0 < 2 by omega)]
  rfl

theorem copy_used (hK : hasF K 116 = false) {bf : Value} (hq : m[q]? = some (.row false 116 [.pointer (some ⟨q, 0, none⟩), bf])) :
    runK E mem2 K (n + 1) 116 [.pointer (some ⟨q, 0, none⟩)] m = some (.tuple ⟨[]⟩, m) := by
  rw [runK_other hK, abody_eqN (by kernel_rfl) Tryd.func116 rfl (by kernel_rfl)]
  rw [show ([Value.pointer (some ⟨q, 0, none⟩)] ++ List.replicate (Tryd.f116.ntmps - [Value.pointer (some ⟨q, 0, none⟩)].length) undef) = [.pointer (some ⟨q, 0, none⟩), undef, undef, undef, undef, undef, undef, undef, undef, undef, undef, undef, undef, undef, undef, undef, undef, undef, undef, undef] from rfl]
  have hc0 : cellAt m q 0 = some (.pointer (some ⟨q, 0, none⟩)) := cellAt_row hq 0
  simp only [acodeN, aopsN, agd, astep, aop, ev, nth_zero, nth_succ, aput, setAt_zero, setAt_succ, Option.map_some, Option.map_none, fa86_0, load84, hc0, Nat.zero_add, Nat.add_zero, apure_binOp, isAddr, aeq84, aeq84n, Bool.not_true]
  rfl

/-- The buffer: nothing yet, or these bytes. -/
def Buf (m : Mem) (q : Nat) (l : List Int) : Prop :=
  (l = [] ∧ m[q]? = some (.row false 116 [.pointer none, .slice none 0 0])) ∨
  (∃ b, q < b ∧ m[q]? = some (.row false 116 [.pointer (some ⟨q, 0, none⟩), .slice (some ⟨b, 0, none⟩) l.length l.length]) ∧ m[b]? = some (.row false 5 (l.map (.int .u8))) ∧ l ≠ [])

/-- What lies ahead of the Builder stays. -/
def Keeps (m : Mem) (q : Nat) (m' : Mem) : Prop := ∀ k, k < q → m'[k]? = m[k]?

theorem Keeps.trans {m1 m2 m3 : Mem} {q : Nat} (h : Keeps m1 q m2) (h' : Keeps m2 q m3) : Keeps m1 q m3 := fun k hk => (h' k hk).trans (h k hk)

theorem info5 : ∃ i z, E.P.info? 5 = some i ∧ i.zero = some z ∧ i.size = 1 ∧ i.bytes = 1 ∧ z.cells.size = 1 := by
  have h : (E.P.info? 5).map (fun i => (i.size, i.bytes)) = some (1, 1) := by kernel_rfl
  have h2 : ((E.P.info? 5).bind (·.zero)).map (·.cells.size) = some 1 := by kernel_rfl
  obtain ⟨i, h1, h3⟩ := Option.map_eq_some_iff.1 h
  rw [h1] at h2
  obtain ⟨z, h4, h5⟩ := Option.map_eq_some_iff.1 h2
  simp only [Prod.mk.injEq] at h3
  exact ⟨i, z, h1, h4, h3.1, h3.2, h5⟩

theorem app_fresh {xT : TypeId} {xd : TypeDesc} (hd : E.P.underlying xT = some xd) (hi : isIntD xd = false) {x : Value} {k : Nat} {new : List Value} (hx : asrc m 1 x = some (k, new)) (ha : new.all cellOk = true) (h0 : k ≠ 0) (hb : k ≤ 1099511627776) :
    aappend E.P 35 xT (.slice none 0 0) x m = some (.slice (some ⟨m.length, 0, none⟩) k k, m ++ [.row false 5 new]) := by
  obtain ⟨i, z, h1, h2, h3, h4, h5⟩ := info5
  unfold aappend
  simp only [show E.P.underlying 35 = some (.slice 5) from Tryd.underlying35, hd, h1, h2, h3, hx, hi, ha, h4, h5]
  rw [if_neg (by simp), if_neg h0, if_pos (by omega)]

theorem app_used {xT : TypeId} {xd : TypeDesc} (hd : E.P.underlying xT = some xd) (hi : isIntD xd = false) {x : Value} {k : Nat} {new cs : List Value} {b : Nat} (hx : asrc m 1 x = some (k, new)) (ha : new.all cellOk = true) (h0 : k ≠ 0) (hb : cs.length + k ≤ 1099511627776)
    (hm : m[b]? = some (.row false 5 cs)) :
    aappend E.P 35 xT (.slice (some ⟨b, 0, none⟩) cs.length cs.length) x m = some (.slice (some ⟨m.length, 0, none⟩) (cs.length + k) (cs.length + k), m.set b .dead ++ [.row false 5 (cs ++ new)]) := by
  obtain ⟨i, z, h1, h2, h3, h4, h5⟩ := info5
  unfold aappend
  simp only [show E.P.underlying 35 = some (.slice 5) from Tryd.underlying35, hd, h1, h2, h3, hx, hi, ha, h4, h5, hm]
  rw [if_neg (by simp), if_neg (by omega), if_pos ⟨trivial, trivial, by omega, by omega⟩]
  simp

theorem app_none {xT : TypeId} {xd : TypeDesc} (hd : E.P.underlying xT = some xd) (hi : isIntD xd = false) {x : Value} {cs : List Value} {b : Nat} (hx : asrc m 1 x = some (0, []))
    (hm : m[b]? = some (.row false 5 cs)) :
    aappend E.P 35 xT (.slice (some ⟨b, 0, none⟩) cs.length cs.length) x m = some (.slice (some ⟨b, 0, none⟩) cs.length cs.length, m) := by
  obtain ⟨i, z, h1, h2, h3, h4, h5⟩ := info5
  unfold aappend
  simp only [show E.P.underlying 35 = some (.slice 5) from Tryd.underlying35, hd, h1, h2, h3, hx, hi, h4, h5, hm]
  rw [if_neg (by simp), if_pos (by omega), if_pos (by simp)]
  have hl : lay cs (0 + cs.length * 1) [] = cs := by simp [lay]
  rw [hl]
  simp only [Nat.add_zero, Option.some.injEq, Prod.mk.injEq, true_and]
  apply List.ext_getElem?
  intro j
  rw [List.getElem?_set]
  split
  · rename_i hj
    subst hj
    split
    · exact hm.symm
    · rename_i hno
      exact absurd (List.getElem?_eq_some_iff.1 hm).1 hno
  · rfl

theorem body63 {self : Self} {c : Int} {m1 m2 m3 : Mem} {bf nb : Value} (hcc : self 116 [.pointer (some ⟨q, 0, none⟩)] m = some (.tuple ⟨[]⟩, m1)) (hq : cellAt m1 q 1 = some bf)
    (happ : aappend E.P 35 35 bf (.slice (some ⟨m1.length, 0, none⟩) 1 1) (m1 ++ [.row false 5 [.int .u8 c]]) = some (nb, m2)) (hst : astore E.P 35 (.pointer (some ⟨q, 1, none⟩)) nb m2 = some m3) :
    abody E self n 100 [.pointer (some ⟨q, 0, none⟩), .int .u8 c] m = some (.nilIface, m3) := by
  rw [abody_eqN (by kernel_rfl) Tryd.func100 rfl (by kernel_rfl)]
  rw [show ([Value.pointer (some ⟨q, 0, none⟩), .int .u8 c] ++ List.replicate (Tryd.f100.ntmps - [Value.pointer (some ⟨q, 0, none⟩), .int .u8 c].length) undef) = [.pointer (some ⟨q, 0, none⟩), .int .u8 c, undef, undef, undef, undef, undef, undef, undef, undef, undef, undef, undef, undef, undef, undef, undef] from rfl]
  simp only [acodeN, aopsN, agd, astep, aop, ev, nth_zero, nth_succ, aput, setAt_zero, setAt_succ, Option.map_some, ainv, fa86_1, load35, build35, call79, wr79, hcc, hq, happ, hst, List.map_cons, List.map_nil, List.all_cons, List.all_nil, lit2, lit1, lit0, abuiltin, List.isEmpty_nil, Bool.and_self, if_true, Nat.zero_add, Bool.false_and, Bool.false_eq_true, if_false]
  rfl

theorem body65 {self : Self} {s : ByteArray} {m1 m2 m3 : Mem} {bf nb : Value} (hcc : self 116 [.pointer (some ⟨q, 0, none⟩)] m = some (.tuple ⟨[]⟩, m1)) (hq : cellAt m1 q 1 = some bf)
    (happ : aappend E.P 35 9 bf (.string s) m1 = some (nb, m2)) (hst : astore E.P 35 (.pointer (some ⟨q, 1, none⟩)) nb m2 = some m3) :
    ∃ v, abody E self n 97 [.pointer (some ⟨q, 0, none⟩), .string s] m = some (v, m3) := by
  rw [abody_eqN (by kernel_rfl) Tryd.func97 rfl (by kernel_rfl)]
  rw [show ([Value.pointer (some ⟨q, 0, none⟩), .string s] ++ List.replicate (Tryd.f97.ntmps - [Value.pointer (some ⟨q, 0, none⟩), .string s].length) undef) = [.pointer (some ⟨q, 0, none⟩), .string s, undef, undef, undef, undef, undef, undef, undef, undef, undef, undef, undef, undef, undef, undef, undef, undef, undef] from rfl]
  simp only [acodeN, aopsN, agd, astep, aop, ev, nth_zero, nth_succ, aput, setAt_zero, setAt_succ, Option.map_some, ainv, fa86_1, load35, call79, wr79, hcc, hq, happ, hst, List.map_cons, List.map_nil, List.all_cons, List.all_nil, lit2, lit1, lit0, abuiltin, List.isEmpty_nil, Bool.and_self, if_true, Nat.zero_add, Bool.false_and, Bool.false_eq_true, if_false, alen, show E.P.underlying 9 = some .string from Tryd.underlying9]
  exact ⟨_, rfl⟩

theorem src_byte (m1 : Mem) (c : Int) : asrc (m1 ++ [.row false 5 [.int .u8 c]]) 1 (.slice (some ⟨m1.length, 0, none⟩) 1 1) = some (1, [.int .u8 c]) := by
  have h : (m1 ++ [Blk.row false 5 [.int .u8 c]])[m1.length]? = some (.row false 5 [.int .u8 c]) := by simp
  unfold asrc
  simp only [lookRow h]
  rfl

theorem lt_of_at {b : Nat} {x : Blk} (h : m[b]? = some x) : b < m.length := (List.getElem?_eq_some_iff.1 h).1

theorem writeByte (hK : hasF K 116 = false) (hK' : hasF K 100 = false) {l : List Int} (c : Int) (hb : Buf m q l) (hl : l.length ≤ 1000000) :
    ∃ m', runK E mem2 K (n + 2) 100 [.pointer (some ⟨q, 0, none⟩), .int .u8 c] m = some (.nilIface, m') ∧ Buf m' q (l ++ [c]) ∧ Keeps m q m' := by
  rw [runK_other hK']
  rcases hb with ⟨rfl, hq⟩ | ⟨b, hqb, hq, hbb, hne⟩
  · have hqm := lt_of_at hq
    have hcc := copy_fresh (n := n) hK hq
    have h1 : (m.set q (.row false 116 [.pointer (some ⟨q, 0, none⟩), .slice none 0 0]))[q]? = some (.row false 116 [.pointer (some ⟨q, 0, none⟩), .slice none 0 0]) := by simp [hqm]
    generalize hm1 : m.set q (.row false 116 [.pointer (some ⟨q, 0, none⟩), .slice none 0 0]) = m1 at hcc h1
    have hlen : m1.length = m.length := by rw [← hm1]; simp
    have happ := app_fresh (m := m1 ++ [.row false 5 [.int .u8 c]]) (xT := 35) Tryd.underlying35 rfl (src_byte m1 c) rfl (by omega) (by omega)
    have h2 : (m1 ++ [.row false 5 [.int .u8 c]] ++ [.row false 5 [.int .u8 c]])[q]? = some (Blk.row false 116 [.pointer (some ⟨q, 0, none⟩), .slice none 0 0]) := by
      rw [List.getElem?_append_left (by simp; omega), List.getElem?_append_left (by omega)]
      exact h1
    have hst := store35 h2 (o := 1) (show 1 < 2 by omega) (some ⟨(m1 ++ [Blk.row false 5 [.int .u8 c]]).length, 0, none⟩) 1 1
    refine ⟨_, body63 hcc (cellAt_row h1 1) happ hst, .inr ⟨m1.length + 1, by omega, ?_, ?_, by simp⟩, fun k hk => ?_⟩
    · rw [List.getElem?_set_self (by simp; omega)]
      simp
    · rw [List.getElem?_set_ne (by omega)]
      rw [List.getElem?_append_right (by simp)]
      simp
    · rw [List.getElem?_set_ne (by omega), List.getElem?_append_left (by simp; omega), List.getElem?_append_left (by omega), ← hm1, List.getElem?_set_ne (by omega)]
  · have hqm := lt_of_at hq
    have hbm := lt_of_at hbb
    have hcc := copy_used (n := n) hK hq
    have hll : (l.map (Value.int .u8)).length = l.length := by simp
    have hb2 : (m ++ [Blk.row false 5 [.int .u8 c]])[b]? = some (.row false 5 (l.map (.int .u8))) := by rw [List.getElem?_append_left hbm]; exact hbb
    have happ := app_used (m := m ++ [.row false 5 [.int .u8 c]]) (xT := 35) Tryd.underlying35 rfl (src_byte m c) rfl (by omega) (by rw [hll]; omega) hb2
    rw [hll] at happ
    have h2 : ((m ++ [Blk.row false 5 [.int .u8 c]]).set b .dead ++ [.row false 5 (l.map (.int .u8) ++ [.int .u8 c])])[q]? = some (Blk.row false 116 [.pointer (some ⟨q, 0, none⟩), .slice (some ⟨b, 0, none⟩) l.length l.length]) := by
      rw [List.getElem?_append_left (by simp; omega), List.getElem?_set_ne (by omega), List.getElem?_append_left (by omega)]
      exact hq
    have hst := store35 h2 (o := 1) (show 1 < 2 by omega) (some ⟨(m ++ [Blk.row false 5 [.int .u8 c]]).length, 0, none⟩) (l.length + 1) (l.length + 1)
    refine ⟨_, body63 hcc (cellAt_row hq 1) happ hst, .inr ⟨m.length + 1, by omega, ?_, ?_, by simp⟩, fun k hk => ?_⟩
    · rw [List.getElem?_set_self (by simp; omega)]
      simp
    · rw [List.getElem?_set_ne (by omega)]
      rw [List.getElem?_append_right (by simp)]
      simp
    · rw [List.getElem?_set_ne (by omega), List.getElem?_append_left (by simp; omega), List.getElem?_set_ne (by omega), List.getElem?_append_left (by omega)]

def bytesI (s : ByteArray) : List Int := s.data.toList.map fun b => (b.toNat : Int)

theorem src_string (s : ByteArray) : asrc m 1 (.string s) = some (s.data.toList.length, (bytesI s).map (.int .u8)) := by
  unfold asrc bytesI
  simp

theorem all_bytes (l : List Int) : (l.map (Value.int .u8)).all cellOk = true := by
  rw [List.all_map, List.all_eq_true]
  intro x _
  rfl

theorem writeString (hK : hasF K 116 = false) (hK' : hasF K 97 = false) {l : List Int} (s : ByteArray) (hb : Buf m q l) (hne : l ≠ []) (hl : l.length ≤ 1000000) (hs : s.data.toList.length ≤ 1000000) :
    ∃ v m', runK E mem2 K (n + 2) 97 [.pointer (some ⟨q, 0, none⟩), .string s] m = some (v, m') ∧ Buf m' q (l ++ bytesI s) ∧ Keeps m q m' := by
  rw [runK_other hK']
  rcases hb with ⟨rfl, hq⟩ | ⟨b, hqb, hq, hbb, _⟩
  · exact absurd rfl hne
  · have hqm := lt_of_at hq
    have hbm := lt_of_at hbb
    have hcc := copy_used (n := n) hK hq
    have hll : (l.map (Value.int .u8)).length = l.length := by simp
    have hbl : (bytesI s).length = s.data.toList.length := by simp [bytesI]
    by_cases h0 : s.data.toList.length = 0
    · have hnil : bytesI s = [] := List.eq_nil_of_length_eq_zero (by omega)
      have hsrc := src_string (m := m) s
      rw [h0, hnil] at hsrc
      have happ := app_none (xT := 9) Tryd.underlying9 rfl hsrc hbb
      rw [hll] at happ
      have hst := store35 hq (o := 1) (show 1 < 2 by omega) (some ⟨b, 0, none⟩) l.length l.length
      obtain ⟨v, hv⟩ := body65 (n := n + 2) hcc (cellAt_row hq 1) happ hst
      refine ⟨v, _, hv, .inr ⟨b, hqb, ?_, ?_, by simp [hne]⟩, fun k hk => ?_⟩
      · rw [List.getElem?_set_self hqm, hnil]
        simp
      · rw [List.getElem?_set_ne (by omega), hnil]
        simpa using hbb
      · rw [List.getElem?_set_ne (by omega)]
    · have happ := app_used (xT := 9) Tryd.underlying9 rfl (src_string (m := m) s) (all_bytes _) h0 (by rw [hll]; omega) hbb
      rw [hll] at happ
      have h2 : (m.set b .dead ++ [.row false 5 (l.map (.int .u8) ++ (bytesI s).map (.int .u8))])[q]? = some (Blk.row false 116 [.pointer (some ⟨q, 0, none⟩), .slice (some ⟨b, 0, none⟩) l.length l.length]) := by
        rw [List.getElem?_append_left (by simp; omega), List.getElem?_set_ne (by omega)]
        exact hq
      have hst := store35 h2 (o := 1) (show 1 < 2 by omega) (some ⟨m.length, 0, none⟩) (l.length + s.data.toList.length) (l.length + s.data.toList.length)
      obtain ⟨v, hv⟩ := body65 (n := n + 2) hcc (cellAt_row hq 1) happ hst
      refine ⟨v, _, hv, .inr ⟨m.length, by omega, ?_, ?_, by simp [hne]⟩, fun k hk => ?_⟩
      · rw [List.getElem?_set_self (by simp; omega)]
        simp [hbl]
      · rw [List.getElem?_set_ne (by omega)]
        rw [List.getElem?_append_right (by simp)]
        simp
      · rw [List.getElem?_set_ne (by omega), List.getElem?_append_left (by simp; omega), List.getElem?_set_ne (by omega)]
end
end Go.Am.Seat

/-
  The Builder's String on the abstract machine (own work).
-/
set_option linter.unusedSimpArgs false
set_option linter.unusedVariables false
namespace Go.Am.Seat
open Go.Proofs Go.Am
set_option maxRecDepth 100000

noncomputable def ops64 : Array Oper := match Tryd.f99.body with
  | some (.seq _ (.seq (.region _ ops _) _)) => ops
  | _ => #[]
noncomputable def ops64a : Array Oper := match Tryd.f99.body with
  | some (.seq (.region _ ops _) _) => ops
  | _ => #[]
theorem body64 : Tryd.f99.body = some (.seq (.region 0 ops64a false) (.seq (.region 1 ops64 true) .ret)) := rfl

theorem bytesOf_map : ∀ (l : List Int), bytesOf (l.map (.int .u8)) = some (l.map fun n => UInt8.ofNat n.toNat)
  | [] => rfl
  | a :: l => by
    simp only [List.map_cons, bytesOf, bytesOf_map l]

theorem E_strict : E.strict = true := rfl

section
variable {K : List Fact} {n q : Nat} {m : Mem}

theorem usString {b : Nat} {l : List Int} (hb : m[b]? = some (.row false 5 (l.map (.int .u8)))) (h0 : l ≠ []) (hl : l.length ≤ 10000000) :
    ausString E.P 144 (.pointer (some ⟨b, 0, none⟩)) (.int .i64 (l.length : Nat)) m = some (.string ⟨(l.map fun n => UInt8.ofNat n.toNat).toArray⟩, m.set b (.row true 5 (l.map (.int .u8)))) := by
  have hlen : 0 < l.length := List.length_pos_iff.2 h0
  unfold ausString
  simp only [hb, show E.P.underlying 144 = some (.pointer 5) from Tryd.underlying144]
  rw [if_neg (by omega), if_pos (by omega)]
  have hc : E.P.cellsOf 5 = 1 := by kernel_rfl
  have hlies : liesAt E.P E.P.depth 5 ((l.map (Value.int .u8)).length / E.P.cellsOf 5) 0 5 ((l.length : Nat) : Int).toNat = true := Lib.liesAt_bytes hc _ _ (by rw [hc]; simp)
  rw [if_pos ⟨hlies, by simp⟩]
  have ht : ((l.map (Value.int .u8)).drop 0).take ((l.length : Nat) : Int).toNat = l.map (.int .u8) := by
    rw [List.drop_zero, List.take_of_length_le (by simp)]
  rw [ht, bytesOf_map]

theorem stringOf (hK : hasF K 99 = false) {l : List Int} (hb : Buf m q l) (hne : l ≠ []) (hl : l.length ≤ 10000000) :
    ∃ m', runK E mem2 K (n + 1) 99 [.pointer (some ⟨q, 0, none⟩)] m = some (.string ⟨(l.map fun n => UInt8.ofNat n.toNat).toArray⟩, m') := by
  rw [runK_other hK, abody_eqN (by kernel_rfl) Tryd.func99 body64 (by kernel_rfl)]
  rcases hb with ⟨rfl, hq⟩ | ⟨b, hqb, hq, hbb, _⟩
  · exact absurd rfl hne
  rw [show ([Value.pointer (some ⟨q, 0, none⟩)] ++ List.replicate (Tryd.f99.ntmps - [Value.pointer (some ⟨q, 0, none⟩)].length) undef) = [.pointer (some ⟨q, 0, none⟩), undef, undef, undef, undef, undef, undef, undef, undef, undef, undef, undef, undef, undef] from rfl]
  have hqs : (m.map sealed)[q]? = some (.row true 116 [.pointer (some ⟨q, 0, none⟩), .slice (some ⟨b, 0, none⟩) l.length l.length]) := by
    rw [List.getElem?_map, hq]
    rfl
  have hc : cellAt (m.map sealed) q 1 = some (.slice (some ⟨b, 0, none⟩) l.length l.length) := cellAt_row hqs 1
  have hl0 : ¬ l.length = 0 := fun h => hne (List.eq_nil_of_length_eq_zero h)
  have e3 : earlyB E.P E.wr ops64 3 = false := by kernel_rfl
  have e4 : earlyB E.P E.wr ops64 4 = false := by kernel_rfl
  have e8 : earlyB E.P E.wr ops64 8 = false := by kernel_rfl
  have l3 : looseB E.P E.wr ops64 3 = false := by kernel_rfl
  have l4 : looseB E.P E.wr ops64 4 = false := by kernel_rfl
  have l8 : looseB E.P E.wr ops64 8 = false := by kernel_rfl
  have hops : ops64.toList = ops64.toList := rfl
  conv at hops => rhs; simp only [ops64, Tryd.f99]
  have hopsa : ops64a.toList = ops64a.toList := rfl
  conv at hopsa => rhs; simp only [ops64a, Tryd.f99]
  simp only [acodeN, aopsN, hopsa, hops, adrawN, agd, cls, astep, aop, afloat, ev, nth_zero, nth_succ, aput, setAt_zero, setAt_succ, Option.map_some, fa86_1, load35, hc, e3, e4, e8, l3, l4, l8, abuiltin, List.map_cons, List.map_nil, Nat.zero_add, Bool.not_false, Bool.or_true, Bool.true_or, if_true, List.length_map, if_neg hl0, alen, show E.P.underlying 35 = some (.slice 5) from Tryd.underlying35, usString hbb hne hl]
  exact ⟨_, rfl⟩
end
end Go.Am.Seat

/-
  Counted on the abstract machine, for any texts (own work).
-/
set_option linter.unusedSimpArgs false
set_option linter.unusedVariables false
namespace Go.Am.Seat
open Go.Proofs Go.Am
set_option maxRecDepth 100000

theorem load9 (b o : Nat) (m : Mem) : aload E.P 9 (.pointer (some ⟨b, o, none⟩)) m = cellAt m b o := aload_cell Tryd.underlying9 rfl b o m
theorem call63 : callableB E.P 100 = true := by kernel_rfl
theorem call64 : callableB E.P 99 = true := by kernel_rfl
theorem call65 : callableB E.P 97 = true := by kernel_rfl
theorem wr63 : E.wr 100 = true := by kernel_rfl
theorem wr64 : E.wr 99 = true := by kernel_rfl
theorem wr65 : E.wr 97 = true := by kernel_rfl
theorem shr8 (k : Int) : abin .shr .u16 k .u64 8 = some (.int .u16 (k.fdiv 256)) := by kernel_rfl
theorem add1 (k : Int) : abin .add .i64 k .i64 1 = some (.int .i64 (wrapF .i64 (k + 1))) := by kernel_rfl
theorem lss64 (a b : Int) : abin .lss .i64 a .i64 b = some (.bool (decide (a < b))) := by kernel_rfl

section
variable {self : Self} {nf p q : Nat} {m m1 m2 m3 : Mem}

end
end Go.Am.Seat

/-
  Counted on the abstract machine: all rounds (own work).
-/
set_option linter.unusedSimpArgs false
set_option linter.unusedVariables false
namespace Go.Am.Seat
open Go.Proofs Go.Am
set_option maxRecDepth 100000

/-- One part with its length. -/
def counted1 (s : ByteArray) : List Int := [(((s.data.toList.length : Nat) : Int) % 65536).fdiv 256 % 256, ((s.data.toList.length : Nat) : Int) % 65536 % 256] ++ bytesI s

def Shape (pv : Value) (q : Nat) (L i : Int) (T : List Value) : Prop := ∃ t1 t2 t4 t5 t6 t10 t11 t12 t13 t14 t15 t16 t17 t18 t19 t20 t21 t22 t23 t24 t25 t26 : Value, T = [pv, t1, t2, .pointer (some ⟨q, 0, none⟩), t4, t5, t6, pv, .int .i64 L, .int .i64 i, t10, t11, t12, t13, t14, t15, t16, t17, t18, t19, t20, t21, t22, t23, t24, t25, t26]

theorem idx91 (p L i : Nat) (h : i < L) : aindexAddr E.P 123 (.slice (some ⟨p, 0, none⟩) L L) (.int .i64 (i : Nat)) = some (.pointer (some ⟨p, i, none⟩)) := by
  have h9 : (E.P.info? 9).map (·.size) = some 1 := by kernel_rfl
  obtain ⟨e, h1, h2⟩ := Option.map_eq_some_iff.1 h9
  unfold aindexAddr
  simp only [show E.P.underlying 123 = some (.slice 9) from Tryd.underlying123, h1]
  rw [if_pos (by omega), h2]
  simp

theorem wrap64 (i : Nat) (h : i < 1000000) : wrapF .i64 ((i : Int) + 1) = ((i + 1 : Nat) : Int) := by
  simp only [wrapF]
  rw [if_neg (by omega)]
  omega

section
variable {K : List Fact} {n nf p q : Nat} {m : Mem}

theorem alloc86 (m : Mem) : aalloc E.P 116 m = some (.pointer (some ⟨m.length, 0, none⟩), m ++ [.row false 116 [.pointer none, .slice none 0 0]]) := by kernel_rfl

end
end Go.Am.Seat

/-
  ref's Hex on the abstract machine (own work).
-/
set_option linter.unusedSimpArgs false
set_option linter.unusedVariables false
namespace Go.Am.Seat
open Go.Proofs Go.Am
set_option maxRecDepth 100000

def hexd (n : Nat) : UInt8 := if n < 10 then UInt8.ofNat (48 + n) else UInt8.ofNat (87 + n)
def hexOf (l : List UInt8) : List UInt8 := l.flatMap fun b => [hexd (b.toNat / 16), hexd (b.toNat % 16)]
def bytesOfL (l : List UInt8) : ByteArray := ⟨l.toArray⟩
theorem bytesOfL_list (l : List UInt8) : (bytesOfL l).data.toList = l := rfl
theorem ba_eq {a b : ByteArray} (h : a.data.toList = b.data.toList) : a = b := by
  obtain ⟨⟨a⟩⟩ := a
  obtain ⟨⟨b⟩⟩ := b
  simp only at h
  rw [h]
theorem ba_append (a b : ByteArray) : (a ++ b).data.toList = a.data.toList ++ b.data.toList := by
  rw [ByteArray.data_append]; simp
theorem ba_size (a : ByteArray) : a.size = a.data.toList.length := rfl
abbrev digitsS : ByteArray := ⟨#[48, 49, 50, 51, 52, 53, 54, 55, 56, 57, 97, 98, 99, 100, 101, 102]⟩
theorem dig_slice : ∀ k : Nat, k < 16 → sliceS digitsS (k : Nat) ((k + 1 : Nat) : Int) = some (.string (bytesOfL [hexd k]))
  | 0, _ => by rfl
  | 1, _ => by rfl
  | 2, _ => by rfl
  | 3, _ => by rfl
  | 4, _ => by rfl
  | 5, _ => by rfl
  | 6, _ => by rfl
  | 7, _ => by rfl
  | 8, _ => by rfl
  | 9, _ => by rfl
  | 10, _ => by rfl
  | 11, _ => by rfl
  | 12, _ => by rfl
  | 13, _ => by rfl
  | 14, _ => by rfl
  | 15, _ => by rfl
  | k + 16, h => absurd h (by omega)

theorem und9 : E.P.underlying 9 = some .string := Tryd.underlying9
theorem und5 : E.P.underlying 5 = some (.int .u8) := Tryd.underlying5
theorem und4 : E.P.underlying 4 = some .bool := Tryd.underlying4
theorem und3 : E.P.underlying 3 = some (.int .i64) := Tryd.underlying3
theorem bw3 (b : UInt8) : wrapF .i64 ((b.toNat : Nat) : Int) = ((b.toNat : Nat) : Int) := by
  have := b.toNat_lt
  exact wrap_i64 (by omega) (by omega)
theorem bq3 (b : UInt8) : wrapF .i64 (((b.toNat : Nat) : Int).tdiv 16) = ((b.toNat / 16 : Nat) : Int) := by
  have := b.toNat_lt
  rw [Int.tdiv_eq_ediv_of_nonneg (by omega), wrap_i64 (by omega) (by omega)]
  omega
theorem br3 (b : UInt8) : ((b.toNat : Nat) : Int).tmod 16 = ((b.toNat % 16 : Nat) : Int) := by
  rw [Int.tmod_eq_emod_of_nonneg (by omega)]
  omega
theorem w1 {i : Nat} (h : i < 1000000000) : wrapF .i64 ((i : Int) + 1) = ((i + 1 : Nat) : Int) := by
  rw [wrap_i64 (by omega) (by omega)]
  omega
theorem add64' (a b : Int) : abin .add .i64 a .i64 b = some (.int .i64 (wrapF .i64 (a + b))) := by kernel_rfl
theorem conv5_3 (k : Int) : aconv E.P 5 3 (.int .u8 k) = some (.int .i64 (wrapF .i64 k)) := by kernel_rfl
theorem quo16 (k : Int) : abin .quo .i64 k .i64 16 = some (.int .i64 (wrapF .i64 (k.tdiv 16))) := by kernel_rfl
theorem rem16 (k : Int) : abin .rem .i64 k .i64 16 = some (.int .i64 (k.tmod 16)) := by kernel_rfl
theorem index9 {s : ByteArray} {i : Nat} {b : UInt8} (h : s.data.toList[i]? = some b) : aindex E.P 9 (.string s) (.int .i64 (i : Nat)) = some (.int .u8 (b.toNat : Int)) := by
  unfold aindex
  simp only [und9]
  rw [if_pos (by omega), Int.toNat_natCast, h]

-- ntmps 35

section
variable {self : Self} {nf : Nat} {m : Mem} {F : Nat → Value} {s out : ByteArray} {i : Nat}

theorem hexOf_length (l : List UInt8) : (hexOf l).length = 2 * l.length := by
  induction l with
  | nil => rfl
  | cons a l ih =>
    show ([hexd (a.toNat / 16), hexd (a.toNat % 16)] ++ hexOf l).length = _
    simp [ih]
    omega

theorem hexOf_step {l : List UInt8} {i : Nat} {b : UInt8} (h : l[i]? = some b) : hexOf (l.take (i + 1)) = hexOf (l.take i) ++ [hexd (b.toNat / 16)] ++ [hexd (b.toNat % 16)] := by
  rw [List.take_add_one, h]
  simp [hexOf]

end
end Go.Am.Seat

/-
  Two, digit and Parse on the abstract machine (own work).
-/
set_option linter.unusedSimpArgs false
set_option linter.unusedVariables false
namespace Go.Am.Seat
open Go.Proofs Go.Am
set_option maxRecDepth 100000

-- ntmps 10
-- ntmps 21
-- ntmps 54

theorem geq8 (a b : Int) : abin .geq .u8 a .u8 b = some (.bool (decide (a ≥ b))) := by kernel_rfl
theorem leq8 (a b : Int) : abin .leq .u8 a .u8 b = some (.bool (decide (a ≤ b))) := by kernel_rfl
theorem sub8 (a b : Int) : abin .sub .u8 a .u8 b = some (.int .u8 (wrapF .u8 (a - b))) := by kernel_rfl
theorem add8 (a b : Int) : abin .add .u8 a .u8 b = some (.int .u8 (wrapF .u8 (a + b))) := by kernel_rfl
theorem quo256 (k : Int) : abin .quo .i64 k .i64 256 = some (.int .i64 (wrapF .i64 (k.tdiv 256))) := by kernel_rfl
theorem conv3_5 (k : Int) : aconv E.P 3 5 (.int .i64 k) = some (.int .u8 (k % 256)) := by kernel_rfl
theorem build35_2 (a b : Int) (m : Mem) : abuildSlice E.P 35 2 [(0, .int .u8 a), (1, .int .u8 b)] m = some (.slice (some ⟨m.length, 0, none⟩) 2 2, m ++ [.row false 5 [.int .u8 a, .int .u8 b]]) := by kernel_rfl
theorem aconv35 (a : Addr) (n c : Nat) : aconv E.P 35 9 (.slice (some a) n c) = none := by kernel_rfl
theorem conv35_str {m : Mem} {b n c : Nat} {ro : Bool} {e : TypeId} {l : List Int} {cs : List Value} (hm : m[b]? = some (.row ro e cs)) (hcs : cs.take n = l.map (.int .u8)) (hn : n ≤ cs.length) :
    aconvB E.P 35 9 (.slice (some ⟨b, 0, none⟩) n c) m = some (.string (bytesOfL (l.map fun n => UInt8.ofNat n.toNat)), m) := by
  unfold aconvB
  simp only [show E.P.underlying 35 = some (.slice 5) from Tryd.underlying35, und9, und5]
  have hs : asrc m 1 (.slice (some ⟨b, 0, none⟩) n c) = some (n, l.map (.int .u8)) := by
    unfold asrc
    simp only [lookRow hm]
    rw [if_pos (by omega), List.drop_zero, Nat.mul_one, hcs]
  rw [hs]
  simp only [bytesOf_map]
  rfl

section
variable {self : Self} {nf : Nat} {m : Mem} {F : Nat → Value} {s out : ByteArray} {i : Nat}

/-- What a digit is. -/
def digitV (c : Nat) : Nat := if 48 ≤ c ∧ c ≤ 57 then c - 48 else if 97 ≤ c ∧ c ≤ 102 then c - 87 else 0
def digitB (c : Nat) : Bool := decide (48 ≤ c ∧ c ≤ 57) || decide (97 ≤ c ∧ c ≤ 102)

theorem dig_mk {x y : Int} {a b : Bool} {m : Mem} (h : x = y) (h' : a = b) : some (Value.tuple ⟨[.int .u8 x, .bool a]⟩, m) = some (Value.tuple ⟨[.int .u8 y, .bool b]⟩, m) := by rw [h, h']

end
end Go.Am.Seat

/-
  Parse on the abstract machine (own work).
-/
set_option linter.unusedSimpArgs false
set_option linter.unusedVariables false
namespace Go.Am.Seat
open Go.Proofs Go.Am
set_option maxRecDepth 100000

theorem shl4 (a : Int) : abin .shl .u8 a .u64 4 = some (.int .u8 (wrapF .u8 (a * 16))) := by kernel_rfl
theorem or8 (a b : Int) : abin .or .u8 a .u8 b = some (.int .u8 (wrapF .u8 (((a % 256).toNat ||| (b % 256).toNat : Nat) : Int))) := by kernel_rfl
theorem rem2 (k : Int) : abin .rem .i64 k .i64 2 = some (.int .i64 (k.tmod 2)) := by kernel_rfl
theorem quo2 (k : Int) : abin .quo .i64 k .i64 2 = some (.int .i64 (wrapF .i64 (k.tdiv 2))) := by kernel_rfl
theorem neq64 (a b : Int) : abin .neq .i64 a .i64 b = some (.bool (a != b)) := by kernel_rfl
theorem byte_or {h l : Nat} (hh : h < 16) (hl : l < 16) : wrapF .u8 (((((wrapF .u8 (((h : Nat) : Int) * 16)) % 256).toNat ||| (((l : Nat) : Int) % 256).toNat : Nat)) : Int) = ((16 * h + l : Nat) : Int) := by
  have e1 : ((wrapF .u8 (((h : Nat) : Int) * 16)) % 256).toNat = 2 ^ 4 * h := by simp only [wrapF]; omega
  have e2 : (((l : Nat) : Int) % 256).toNat = l := by omega
  have e3 : 2 ^ 4 * h ||| l = 2 ^ 4 * h + l := (Nat.two_pow_add_eq_or_of_lt (show l < 2 ^ 4 by omega) h).symm
  rw [e1, e2, e3]
  simp only [wrapF]
  omega

/-- What leads nowhere is asked over the tables alone. -/
theorem ainv_lit {self : Self} {g : FuncId} {args : List Value} {m m1 : Mem} {v : Value} (ha : args.all lit2 = true) (hf : E.fast g = none) (h : self g args ((m.take E.G).map onlyTab) = some (v, m1)) (hv : lit2 v = true) : ainv E self g args m = some (v, m) := by
  unfold ainv
  rw [if_pos ha, hf, h]
  simp only
  unfold acoll
  rw [if_pos hv]

def parOk (t : List UInt8) (k : Nat) : Bool := digitB (t.getD (2 * k) 0).toNat && digitB (t.getD (2 * k + 1) 0).toNat
def parV (t : List UInt8) (k : Nat) : Nat := 16 * digitV (t.getD (2 * k) 0).toNat + digitV (t.getD (2 * k + 1) 0).toNat
theorem digitV_lt (c : Nat) : digitV c < 16 := by
  unfold digitV
  split <;> (try split) <;> omega
def parsed (t : List UInt8) : List UInt8 := (List.range (t.length / 2)).map fun k => UInt8.ofNat (parV t k)

section
variable {self : Self} {nf : Nat} {m : Mem} {F : Nat → Value} {s : ByteArray} {k b cap : Nat} {cs : List Value}

theorem app_inplace {c : Int} (hb : m[b]? = some (.row false 5 cs)) (hk : k < cap) (hc : cs.length = cap) :
    aappend E.P 35 35 (.slice (some ⟨b, 0, none⟩) k cap) (.slice (some ⟨m.length, 0, none⟩) 1 1) (m ++ [.row false 5 [.int .u8 c]]) =
      some (.slice (some ⟨b, 0, none⟩) (k + 1) cap, (m ++ [Blk.row false 5 [.int .u8 c]]).set b (.row false 5 (cs.set k (.int .u8 c)))) := by
  obtain ⟨i, z, h1, h2, h3, h4, h5⟩ := info5
  have hbm := lt_of_at hb
  have hb2 : (m ++ [Blk.row false 5 [.int .u8 c]])[b]? = some (.row false 5 cs) := by rw [List.getElem?_append_left hbm]; exact hb
  unfold aappend
  simp only [show E.P.underlying 35 = some (.slice 5) from Tryd.underlying35, h1, h2, h3, src_byte, isIntD, h4, h5, hb2]
  rw [if_neg (by simp [cellOk]), if_pos (by omega), if_pos (by simp; omega)]
  simp [lay]

/-- The row so far. -/
def ParI (t : List UInt8) (b cap k : Nat) (m : Mem) : Prop := ∃ cs : List Value, m[b]? = some (.row false 5 cs) ∧ cs.length = cap ∧ cs.take k = ((List.range k).map fun j => ((parV t j : Nat) : Int)).map (.int .u8)

theorem w2 {i : Nat} (h : i < 1000000000) : wrapF .i64 ((i : Int) + 2) = ((i + 2 : Nat) : Int) := by
  rw [wrap_i64 (by omega) (by omega)]
  omega

def allOk (t : List UInt8) : Bool := decide (t.length % 2 = 0) && (List.range (t.length / 2)).all (parOk t)

theorem make35 (c : Nat) (hc : c < 1000000) (m : Mem) : amakeSlice E.P 35 (.int .i64 0) (.int .i64 (c : Nat)) m = some (.slice (some ⟨m.length, 0, none⟩) 0 c, m ++ [.row false 5 (List.replicate c (.int .u8 0))]) := by
  have hz : zero1 E.P 5 = some (.int .u8 0) := by kernel_rfl
  have hi : (E.P.info? 5).map (·.bytes) = some 1 := by kernel_rfl
  obtain ⟨i, h1, h2⟩ := Option.map_eq_some_iff.1 hi
  unfold amakeSlice
  simp only [show E.P.underlying 35 = some (.slice 5) from Tryd.underlying35, hz, h1, h2]
  rw [wrap_i64 (n := (c : Int)) (by omega) (by omega), wrap_i64 (n := 0) (by omega) (by omega), if_pos (by omega)]
  simp

end
end Go.Am.Seat

/-
  The Builder with room, and Hex on the abstract machine (own work).
-/
set_option linter.unusedSimpArgs false
set_option linter.unusedVariables false
namespace Go.Am.Seat
open Go.Proofs Go.Am
set_option maxRecDepth 100000

noncomputable def rhex_0 : Array Oper := match Tryd.f74.body with
  | some (.seq (.region _ o _) _) => o
  | _ => #[]
noncomputable def rhex_1 : Array Oper := match Tryd.f74.body with
  | some (.seq _ (.seq (.region _ o _) _)) => o
  | _ => #[]
noncomputable def rhex_2 : Array Oper := match Tryd.f74.body with
  | some (.seq _ (.seq _ (.seq (.region _ o _) _))) => o
  | _ => #[]
noncomputable def rhex_3 : Array Oper := match Tryd.f74.body with
  | some (.seq _ (.seq _ (.seq _ (.seq (.seq (.region _ o _) _) _)))) => o
  | _ => #[]
noncomputable def lphex_0 : Code := match Tryd.f74.body with
  | some (.seq _ (.seq _ (.seq _ (.seq (.seq _ (.block _ (.loop c))) _)))) => c
  | _ => .skip
noncomputable def rhex_4 : Array Oper := match Tryd.f74.body with
  | some (.seq _ (.seq _ (.seq _ (.seq (.seq _ (.block _ (.loop (.seq (.region _ o _) _)))) _)))) => o
  | _ => #[]
noncomputable def rhex_5 : Array Oper := match Tryd.f74.body with
  | some (.seq _ (.seq _ (.seq _ (.seq (.seq _ (.block _ (.loop (.seq _ (.seq _ (.seq (.block _ (.seq (.region _ o _) _)) _)))))) _)))) => o
  | _ => #[]
noncomputable def rhex_6 : Array Oper := match Tryd.f74.body with
  | some (.seq _ (.seq _ (.seq _ (.seq (.seq _ (.block _ (.loop (.seq _ (.seq _ (.seq (.block _ (.seq _ (.seq (.region _ o _) _))) _)))))) _)))) => o
  | _ => #[]
noncomputable def rhex_7 : Array Oper := match Tryd.f74.body with
  | some (.seq _ (.seq _ (.seq _ (.seq (.seq _ (.block _ (.loop (.seq _ (.seq _ (.seq (.block _ (.seq _ (.seq _ (.region _ o _)))) _)))))) _)))) => o
  | _ => #[]
noncomputable def rhex_8 : Array Oper := match Tryd.f74.body with
  | some (.seq _ (.seq _ (.seq _ (.seq (.seq _ (.block _ (.loop (.seq _ (.seq _ (.seq _ (.region _ o _))))))) _)))) => o
  | _ => #[]
theorem lphex_0_eq : lphex_0 = (.seq (.region 4 rhex_4 false) (.seq (.cond (.tmp 12) .skip (.exit 0)) (.seq (.block 1 (.seq (.region 5 rhex_5 false) (.seq (.region 6 rhex_6 false) (.region 7 rhex_7 false)))) (.region 8 rhex_8 false)))) := rfl
noncomputable def rhex_9 : Array Oper := match Tryd.f74.body with
  | some (.seq _ (.seq _ (.seq _ (.seq _ (.seq (.region _ o _) _))))) => o
  | _ => #[]
theorem bodyhex : Tryd.f74.body = some (.seq (.region 0 rhex_0 false) (.seq (.region 1 rhex_1 false) (.seq (.region 2 rhex_2 false) (.seq (.seq (.region 3 rhex_3 false) (.block 0 (.loop lphex_0))) (.seq (.region 9 rhex_9 false) .ret))))) := rfl
-- ntmps 28
noncomputable def rbGrow_0 : Array Oper := match Tryd.f96.body with
  | some (.seq (.region _ o _) _) => o
  | _ => #[]
noncomputable def rbGrow_1 : Array Oper := match Tryd.f96.body with
  | some (.seq _ (.seq (.seq (.region _ o _) _) _)) => o
  | _ => #[]
noncomputable def rbGrow_2 : Array Oper := match Tryd.f96.body with
  | some (.seq _ (.seq (.seq _ (.cond _ (.region _ o _) _)) _)) => o
  | _ => #[]
noncomputable def rbGrow_3 : Array Oper := match Tryd.f96.body with
  | some (.seq _ (.seq _ (.seq (.region _ o _) _))) => o
  | _ => #[]
theorem dbGrow_3 {self : Self} {B : Nat} {T : List Value} {m : Mem} {lb : List (Nat × Nat)} {ls : Bool} : adrawN E self rbGrow_3 B rbGrow_3.toList 0 T m lb ls = adrawT E self rbGrow_3 B rbGrow_3.toList [(false, false), (false, false), (false, false), (false, false), (false, false), (false, false), (false, false), (false, false), (false, false), (false, false), (false, false), (false, false), (false, false)] 0 T m lb ls := adraw_tab (by kernel_rfl)
theorem sbGrow_3 : E.sr 3 rbGrow_3 = false := by kernel_rfl
noncomputable def rbGrow_4 : Array Oper := match Tryd.f96.body with
  | some (.seq _ (.seq _ (.seq _ (.cond _ (.region _ o _) _)))) => o
  | _ => #[]
theorem bodybGrow : Tryd.f96.body = some (.seq (.region 0 rbGrow_0 false) (.seq (.seq (.region 1 rbGrow_1 false) (.cond (.tmp 7) (.region 2 rbGrow_2 false) .skip)) (.seq (.region 3 rbGrow_3 true) (.cond (.tmp 21) (.region 4 rbGrow_4 false) .skip)))) := rfl
-- ntmps 25
noncomputable def rbgrow_0 : Array Oper := match Tryd.f117.body with
  | some (.seq (.region _ o _) _) => o
  | _ => #[]
theorem dbgrow_0 {self : Self} {B : Nat} {T : List Value} {m : Mem} {lb : List (Nat × Nat)} {ls : Bool} : adrawN E self rbgrow_0 B rbgrow_0.toList 0 T m lb ls = adrawT E self rbgrow_0 B rbgrow_0.toList [(false, false), (false, false), (false, false), (false, false), (false, false), (false, false), (false, false), (false, false), (false, false), (false, false), (false, false), (false, false), (true, false), (false, false), (false, false), (false, false)] 0 T m lb ls := adraw_tab (by kernel_rfl)
theorem sbgrow_0 : E.sr 0 rbgrow_0 = false := by kernel_rfl
noncomputable def rbgrow_1 : Array Oper := match Tryd.f117.body with
  | some (.seq _ (.seq (.region _ o _) _)) => o
  | _ => #[]
noncomputable def rbgrow_2 : Array Oper := match Tryd.f117.body with
  | some (.seq _ (.seq _ (.region _ o _))) => o
  | _ => #[]
theorem bodybgrow : Tryd.f117.body = some (.seq (.region 0 rbgrow_0 true) (.seq (.region 1 rbgrow_1 false) (.region 2 rbgrow_2 false))) := rfl
-- ntmps 30

/-- A Builder with room. -/
def BufC (m : Mem) (q : Nat) (l : List Int) (c : Nat) : Prop :=
  ∃ b cs, q < b ∧ m[q]? = some (.row false 116 [.pointer (some ⟨q, 0, none⟩), .slice (some ⟨b, 0, none⟩) l.length c]) ∧ m[b]? = some (.row false 5 cs) ∧ cs.length = c ∧ cs.take l.length = l.map (.int .u8) ∧ l.length ≤ c

theorem ainv_wr {self : Self} {g : FuncId} {args : List Value} {m : Mem} (hw : E.wr g = true) (ha : args.all lit2 = false) : ainv E self g args m = self g args m := by
  unfold ainv
  rw [ha]
  simp only [Bool.false_eq_true, if_false, hw, if_true]

section
variable {K : List Fact} {n q c : Nat} {m : Mem} {l : List Int}

theorem writeByteC (hK : hasF K 116 = false) (hK' : hasF K 100 = false) (x : Int) (hb : BufC m q l c) (hl : l.length < c) :
    ∃ m', runK E mem2 K (n + 2) 100 [.pointer (some ⟨q, 0, none⟩), .int .u8 x] m = some (.nilIface, m') ∧ BufC m' q (l ++ [x]) c := by
  rw [runK_other hK']
  obtain ⟨b, cs, hqb, hq, hbb, hc, htk, hlc⟩ := hb
  have hqm := lt_of_at hq
  have hbm := lt_of_at hbb
  have hcc := copy_used (n := n) hK hq
  have happ := app_inplace (c := x) hbb hl hc
  have h2 : ((m ++ [Blk.row false 5 [.int .u8 x]]).set b (.row false 5 (cs.set l.length (.int .u8 x))))[q]? = some (Blk.row false 116 [.pointer (some ⟨q, 0, none⟩), .slice (some ⟨b, 0, none⟩) l.length c]) := by
    rw [List.getElem?_set_ne (by omega), List.getElem?_append_left (by omega)]
    exact hq
  have hst := store35 h2 (o := 1) (show 1 < 2 by omega) (some ⟨b, 0, none⟩) (l.length + 1) c
  refine ⟨_, body63 hcc (cellAt_row hq 1) happ hst, b, cs.set l.length (.int .u8 x), hqb, ?_, ?_, by simp [hc], ?_, by simp; omega⟩
  · rw [List.getElem?_set_self (by simp; omega)]
    simp
  · rw [List.getElem?_set_ne (by omega), List.getElem?_set_self (by simp; omega)]
  · rw [List.map_append, ← htk, List.length_append, List.length_singleton, List.take_add_one, List.take_set_of_le (by omega), List.getElem?_set_self (by omega)]
    rfl
end

theorem shr4 (a : Int) : abin .shr .u8 a .u64 4 = some (.int .u8 (a.fdiv 16)) := by kernel_rfl
theorem and8 (a b : Int) : abin .and .u8 a .u8 b = some (.int .u8 (wrapF .u8 (((a % 256).toNat &&& (b % 256).toNat : Nat) : Int))) := by kernel_rfl
theorem index9k {kd : IntKind} {s : ByteArray} {i : Nat} {b : UInt8} (h : s.data.toList[i]? = some b) : aindex E.P 9 (.string s) (.int kd (i : Nat)) = some (.int .u8 (b.toNat : Int)) := by
  unfold aindex
  simp only [und9]
  rw [if_pos (by omega), Int.toNat_natCast, h]
theorem dig_get : ∀ k : Nat, k < 16 → digitsS.data.toList[k]? = some (hexd k)
  | 0, _ => by rfl
  | 1, _ => by rfl
  | 2, _ => by rfl
  | 3, _ => by rfl
  | 4, _ => by rfl
  | 5, _ => by rfl
  | 6, _ => by rfl
  | 7, _ => by rfl
  | 8, _ => by rfl
  | 9, _ => by rfl
  | 10, _ => by rfl
  | 11, _ => by rfl
  | 12, _ => by rfl
  | 13, _ => by rfl
  | 14, _ => by rfl
  | 15, _ => by rfl
  | k + 16, h => absurd h (by omega)
theorem bh (b : UInt8) : ((b.toNat : Nat) : Int).fdiv 16 = ((b.toNat / 16 : Nat) : Int) := by
  rw [Int.fdiv_eq_ediv_of_nonneg _ (by omega)]
  omega
theorem bl (b : UInt8) : wrapF .u8 ((((((b.toNat : Nat) : Int) % 256).toNat &&& ((15 : Int) % 256).toNat : Nat)) : Int) = ((b.toNat % 16 : Nat) : Int) := by
  have h := b.toNat_lt
  have e1 : (((b.toNat : Nat) : Int) % 256).toNat = b.toNat := by omega
  have e2 : ((15 : Int) % 256).toNat = 2 ^ 4 - 1 := rfl
  rw [e1, e2, Nat.and_two_pow_sub_one_eq_mod]
  simp only [wrapF]
  omega
theorem callWB : callableB E.P 100 = true := by kernel_rfl
theorem callGrow : callableB E.P 96 = true := by kernel_rfl
theorem callgrow : callableB E.P 117 = true := by kernel_rfl
theorem callString : callableB E.P 99 = true := by kernel_rfl
theorem callcc : callableB E.P 116 = true := by kernel_rfl

section
variable {self : Self} {nf q c : Nat} {m : Mem} {F : Nat → Value} {s : ByteArray} {i : Nat}

theorem iterHex (h0 : F 0 = .string s) (h3 : F 3 = .pointer (some ⟨q, 0, none⟩)) (h10 : F 10 = .int .i64 ((s.data.toList.length : Nat) : Int)) (h11 : F 11 = .int .i64 (i : Nat)) {b : UInt8} (hb : s.data.toList[i]? = some b) (hi : s.data.toList.length ≤ 100000) {m1 m2 : Mem}
    (w1' : ainv E self 100 [.pointer (some ⟨q, 0, none⟩), .int .u8 (((hexd (b.toNat / 16)).toNat : Nat) : Int)] m = some (.nilIface, m1))
    (w2' : ainv E self 100 [.pointer (some ⟨q, 0, none⟩), .int .u8 (((hexd (b.toNat % 16)).toNat : Nat) : Int)] m1 = some (.nilIface, m2)) :
    ∃ F', acodeN E self nf lphex_0 (lst F 28) m = some (.normal, lst F' 28, m2) ∧ F' 0 = .string s ∧ F' 3 = .pointer (some ⟨q, 0, none⟩) ∧ F' 10 = .int .i64 ((s.data.toList.length : Nat) : Int) ∧ F' 11 = .int .i64 ((i + 1 : Nat) : Int) := by
  have hil := (List.getElem?_eq_some_iff.1 hb).1
  have hlt : decide (((i : Nat) : Int) < ((s.data.toList.length : Nat) : Int)) = true := decide_eq_true (by omega)
  have hbt := b.toNat_lt
  have d1 := index9k (kd := .u8) (dig_get (b.toNat / 16) (by omega))
  have d2 := index9k (kd := .u8) (dig_get (b.toNat % 16) (by omega))
  have hi1 := w1 (i := i) (by omega)
  simp only [lphex_0_eq, rhex_0, rhex_1, rhex_2, rhex_3, rhex_4, rhex_5, rhex_6, rhex_7, rhex_8, rhex_9, Tryd.f74, List.append_eq, List.cons_append, List.nil_append, apure_call1, apure_call2, apure_call3, bft, btf, acodeN, List.getElem?_toArray, List.getElem?_cons_zero, List.getElem?_cons_succ, aopsN, adrawT, agd, cls, astep, aop, afloat, ev, nth_lst, get_lst, aput, setAt_lst, upd_at, init_zero, init_succ, init_nil, Nat.reduceLT, Nat.reduceEqDiff, reduceIte, abuiltin, alen, Option.map_some, Option.map_none, orElse_some, apure_add, apure_eql, apure_neq, List.map_cons, List.map_nil, List.all_cons, List.all_nil, lit2, lit1, lit0, List.isEmpty_nil, Bool.and_self, Bool.and_true, Bool.true_and, Bool.false_and, Bool.and_false, Bool.not_true, Bool.not_false, Bool.or_true, Bool.true_or, Bool.false_or, Bool.or_false, Bool.false_eq_true, if_true, if_false, List.length_map, beq_self_eq_true, und3, und4, und5, und9, h0, h3, h10, h11, lss64, hlt, index9 hb, shr4, and8, bh, bl, d1, d2, callWB, w1', w2', add64', hi1]
  exact ⟨_, rfl, by simp only [upd_at, Nat.reduceEqDiff, reduceIte, h0], by simp only [upd_at, Nat.reduceEqDiff, reduceIte, h3], by simp only [upd_at, Nat.reduceEqDiff, reduceIte, h10], by simp only [upd_at, Nat.reduceEqDiff, reduceIte]⟩

theorem lastHex (h10 : F 10 = .int .i64 ((s.data.toList.length : Nat) : Int)) (h11 : F 11 = .int .i64 (i : Nat)) (hi : s.data.toList.length ≤ i) :
    ∃ F', acodeN E self nf lphex_0 (lst F 28) m = some (.exit 0, lst F' 28, m) ∧ F' 3 = F 3 := by
  have hlt : decide (((i : Nat) : Int) < ((s.data.toList.length : Nat) : Int)) = false := decide_eq_false (by omega)
  simp only [lphex_0_eq, rhex_0, rhex_1, rhex_2, rhex_3, rhex_4, rhex_5, rhex_6, rhex_7, rhex_8, rhex_9, Tryd.f74, List.append_eq, List.cons_append, List.nil_append, apure_call1, apure_call2, apure_call3, bft, btf, acodeN, List.getElem?_toArray, List.getElem?_cons_zero, List.getElem?_cons_succ, aopsN, adrawT, agd, cls, astep, aop, afloat, ev, nth_lst, get_lst, aput, setAt_lst, upd_at, init_zero, init_succ, init_nil, Nat.reduceLT, Nat.reduceEqDiff, reduceIte, abuiltin, alen, Option.map_some, Option.map_none, orElse_some, apure_add, apure_eql, apure_neq, List.map_cons, List.map_nil, List.all_cons, List.all_nil, lit2, lit1, lit0, List.isEmpty_nil, Bool.and_self, Bool.and_true, Bool.true_and, Bool.false_and, Bool.and_false, Bool.not_true, Bool.not_false, Bool.or_true, Bool.true_or, Bool.false_or, Bool.or_false, Bool.false_eq_true, if_true, if_false, List.length_map, beq_self_eq_true, und3, und4, und5, und9, h10, h11, lss64, hlt]
  exact ⟨_, rfl, by simp only [upd_at, Nat.reduceEqDiff, reduceIte]⟩
end
theorem cap_nil : apC1 E.P .cap #[35] 3 (.slice none 0 0) = some (.int .i64 0) := by kernel_rfl
theorem len_nil : apC1 E.P .len #[35] 3 (.slice none 0 0) = some (.int .i64 0) := by kernel_rfl
theorem sub64' (a b : Int) : abin .sub .i64 a .i64 b = some (.int .i64 (wrapF .i64 (a - b))) := by kernel_rfl
theorem mul64' (a b : Int) : abin .mul .i64 a .i64 b = some (.int .i64 (wrapF .i64 (a * b))) := by kernel_rfl
theorem sub00 : wrapF .i64 ((0 : Int) - 0) = 0 := rfl
theorem mul20 : wrapF .i64 ((2 : Int) * 0) = 0 := rfl
theorem call109 : callableB E.P 127 = false := by kernel_rfl
theorem ext109 : E.ext 127 = some (.noZero 5) := by kernel_rfl
theorem und35 : E.P.underlying 35 = some (.slice 5) := Tryd.underlying35
theorem addrT35 : addrT E.P 4 35 = true := by kernel_rfl
theorem wr109 : E.wr 127 = false := by kernel_rfl
theorem slice35 {m : Mem} {b n : Nat} {ro : Bool} {cs : List Value} (h : m[b]? = some (.row ro 5 cs)) (hn : 0 < n) : aslice E.P 35 (.slice (some ⟨b, 0, none⟩) n n) none (some (.int .i64 0)) m = some (.slice (some ⟨b, 0, none⟩) 0 n) := by
  obtain ⟨i, z, h1, h2, h3, h4, h5⟩ := info5
  unfold aslice
  simp only [und35, h1, lookRow h]
  unfold abounds abound
  simp only
  rw [if_pos (by omega)]
  simp only
  rw [if_neg (by simp [h3]; omega)]
  simp
theorem copy_none {m : Mem} {b n : Nat} {cs : List Value} (h : m[b]? = some (.row false 5 cs)) : acopy E.P 35 (.slice (some ⟨b, 0, none⟩) 0 n) (.slice none 0 0) m = some (.int .i64 0, m) := by
  obtain ⟨i, z, h1, h2, h3, h4, h5⟩ := info5
  unfold acopy
  simp only [und35, h1, asrc, h, if_true]
  rw [if_pos (by simp)]
  simp only [Nat.min_self, Nat.zero_mul, List.take_nil, List.take_zero, Nat.min_zero]
  have hl : lay cs 0 [] = cs := by simp [lay]
  rw [hl]
  have hs : m.set b (.row false 5 cs) = m := by
    apply List.ext_getElem?
    intro j
    rw [List.getElem?_set]
    split
    · rename_i hj
      subst hj
      split
      · exact h.symm
      · rename_i hno
        exact absurd (List.getElem?_eq_some_iff.1 h).1 hno
    · rfl
  rw [hs]
  rfl

section
variable {self : Self} {nf q n : Nat} {m : Mem}

theorem grow_body (hq : m[q]? = some (.row false 116 [.pointer (some ⟨q, 0, none⟩), .slice none 0 0])) (hn : 0 < n) (hn' : n ≤ 1000000) :
    ∃ m', abody E self nf 117 [.pointer (some ⟨q, 0, none⟩), .int .i64 (n : Nat)] m = some (.tuple ⟨[]⟩, m') ∧ BufC m' q [] n := by
  rw [abody_eqF (by kernel_rfl) Tryd.func117 bodybgrow (by kernel_rfl) (Nat.le_of_ble_eq_true rfl)]
  rw [show Tryd.f117.ntmps = 30 from rfl]
  have hqm := lt_of_at hq
  have hqs : (m.map sealed)[q]? = some (.row true 116 [.pointer (some ⟨q, 0, none⟩), .slice none 0 0]) := by
    rw [List.getElem?_map, hq]
    rfl
  have hc : cellAt (m.map sealed) q 1 = some (.slice none 0 0) := cellAt_row hqs 1
  have hw0 : wrapF .i64 ((0 : Int) + ((n : Nat) : Int)) = ((n : Nat) : Int) := by rw [wrap_i64 (by omega) (by omega)]; omega
  have hx : aext (.noZero 5) [.int .i64 (n : Nat)] m = some (.slice (some ⟨m.length, 0, none⟩) n n, m ++ [.row false 5 (List.replicate n junk)]) := by
    unfold aext
    simp only
    rw [if_pos (by omega)]
    simp
  have hq2 : ((m ++ [Blk.row false 5 (List.replicate n junk)]).map sealed)[q]? = some (.row true 116 [.pointer (some ⟨q, 0, none⟩), .slice none 0 0]) := by
    rw [List.getElem?_map, List.getElem?_append_left hqm, hq]
    rfl
  have hc2 : cellAt ((m ++ [Blk.row false 5 (List.replicate n junk)]).map sealed) q 1 = some (.slice none 0 0) := cellAt_row hq2 1
  have hb2 : ((m ++ [Blk.row false 5 (List.replicate n junk)]).map sealed)[m.length]? = some (.row true 5 (List.replicate n junk)) := by
    rw [List.getElem?_map, List.getElem?_append_right (Nat.le_refl _)]
    simp [sealed]
  have hsl := slice35 hb2 hn
  have hb3 : (m ++ [Blk.row false 5 (List.replicate n junk)])[m.length]? = some (.row false 5 (List.replicate n junk)) := by simp
  have hq3 : (m ++ [Blk.row false 5 (List.replicate n junk)])[q]? = some (.row false 116 [.pointer (some ⟨q, 0, none⟩), .slice none 0 0]) := by
    rw [List.getElem?_append_left hqm]; exact hq
  have hc3 : cellAt (m ++ [Blk.row false 5 (List.replicate n junk)]) q 1 = some (.slice none 0 0) := cellAt_row hq3 1
  have hcp := copy_none (n := n) hb3
  have hst := store35 hq3 (o := 1) (show 1 < 2 by omega) (some ⟨m.length, 0, none⟩) 0 n
  have hdq : decide (q < m.length) = true := decide_eq_true hqm
  have hdbgrow_0 := @dbgrow_0
  simp only [rbgrow_0, Tryd.f117] at hdbgrow_0
  simp only [hdbgrow_0, ↓sbgrow_0, rbgrow_0, rbgrow_1, rbgrow_2, Tryd.f117, List.append_eq, List.cons_append, List.nil_append, apure_call1, apure_call2, apure_call3, bft, btf, acodeN, List.getElem?_toArray, List.getElem?_cons_zero, List.getElem?_cons_succ, aopsN, adrawT, agd, cls, astep, aop, afloat, ev, nth_lst, get_lst, aput, setAt_lst, upd_at, init_zero, init_succ, init_nil, Nat.reduceLT, Nat.reduceEqDiff, reduceIte, abuiltin, alen, Option.map_some, Option.map_none, orElse_some, apure_add, apure_eql, apure_neq, List.map_cons, List.map_nil, List.all_cons, List.all_nil, lit2, lit1, lit0, List.isEmpty_nil, Bool.and_self, Bool.and_true, Bool.true_and, Bool.false_and, Bool.and_false, Bool.not_true, Bool.not_false, Bool.or_true, Bool.true_or, Bool.false_or, Bool.or_false, Bool.false_eq_true, if_true, if_false, List.length_map, beq_self_eq_true, und3, und4, und5, und9, fa86_1, load35, hc, hc2, hc3, cap_nil, len_nil, und35, mul64', mul20, add64', hw0, addrT35, wr109, call109, ext109, hx, earlyOk, belowB, hdq, hsl, hcp, hst, Nat.zero_add, finish, ares, aresL, ares1]
  refine ⟨_, rfl, m.length, List.replicate n junk, hqm, ?_, ?_, by simp, rfl, by simp⟩
  · rw [List.getElem?_set_self (by simp; omega)]
    rfl
  · rw [List.getElem?_set_ne (by omega)]
    exact hb3
end
end Go.Am.Seat

/-
  Numbers of eight words on the abstract machine: shifts and bits (own work).
-/
set_option linter.unusedSimpArgs false
set_option linter.unusedVariables false
namespace Go.Am.Seat
open Go.Proofs Go.Am
set_option maxRecDepth 100000

noncomputable def rup_0 : Array Oper := match Tryd.f89.body with
  | some (.seq (.region _ o _) _) => o
  | _ => #[]
noncomputable def lup_0 : List Oper := match Tryd.f89.body with
  | some (.seq (.region _ o _) _) => o.toList
  | _ => []
theorem eup_0 : rup_0.toList = lup_0 := rfl
noncomputable def rup_1 : Array Oper := match Tryd.f89.body with
  | some (.seq _ (.seq (.region _ o _) _)) => o
  | _ => #[]
noncomputable def lup_1 : List Oper := match Tryd.f89.body with
  | some (.seq _ (.seq (.region _ o _) _)) => o.toList
  | _ => []
theorem eup_1 : rup_1.toList = lup_1 := rfl
noncomputable def rup_2 : Array Oper := match Tryd.f89.body with
  | some (.seq _ (.seq _ (.seq (.region _ o _) _))) => o
  | _ => #[]
noncomputable def lup_2 : List Oper := match Tryd.f89.body with
  | some (.seq _ (.seq _ (.seq (.region _ o _) _))) => o.toList
  | _ => []
theorem eup_2 : rup_2.toList = lup_2 := rfl
noncomputable def rup_3 : Array Oper := match Tryd.f89.body with
  | some (.seq _ (.seq _ (.seq _ (.seq (.seq (.region _ o _) _) _)))) => o
  | _ => #[]
noncomputable def lup_3 : List Oper := match Tryd.f89.body with
  | some (.seq _ (.seq _ (.seq _ (.seq (.seq (.region _ o _) _) _)))) => o.toList
  | _ => []
theorem eup_3 : rup_3.toList = lup_3 := rfl
noncomputable def lpup_0 : Code := match Tryd.f89.body with
  | some (.seq _ (.seq _ (.seq _ (.seq (.seq _ (.block _ (.loop c))) _)))) => c
  | _ => .skip
noncomputable def rup_4 : Array Oper := match Tryd.f89.body with
  | some (.seq _ (.seq _ (.seq _ (.seq (.seq _ (.block _ (.loop (.seq (.seq (.region _ o _) _) _)))) _)))) => o
  | _ => #[]
noncomputable def lup_4 : List Oper := match Tryd.f89.body with
  | some (.seq _ (.seq _ (.seq _ (.seq (.seq _ (.block _ (.loop (.seq (.seq (.region _ o _) _) _)))) _)))) => o.toList
  | _ => []
theorem eup_4 : rup_4.toList = lup_4 := rfl
noncomputable def rup_6 : Array Oper := match Tryd.f89.body with
  | some (.seq _ (.seq _ (.seq _ (.seq (.seq _ (.block _ (.loop (.seq _ (.seq (.block _ (.seq (.region _ o _) _)) _))))) _)))) => o
  | _ => #[]
noncomputable def lup_6 : List Oper := match Tryd.f89.body with
  | some (.seq _ (.seq _ (.seq _ (.seq (.seq _ (.block _ (.loop (.seq _ (.seq (.block _ (.seq (.region _ o _) _)) _))))) _)))) => o.toList
  | _ => []
theorem eup_6 : rup_6.toList = lup_6 := rfl
noncomputable def rup_7 : Array Oper := match Tryd.f89.body with
  | some (.seq _ (.seq _ (.seq _ (.seq (.seq _ (.block _ (.loop (.seq _ (.seq (.block _ (.seq _ (.seq (.region _ o _) _))) _))))) _)))) => o
  | _ => #[]
noncomputable def lup_7 : List Oper := match Tryd.f89.body with
  | some (.seq _ (.seq _ (.seq _ (.seq (.seq _ (.block _ (.loop (.seq _ (.seq (.block _ (.seq _ (.seq (.region _ o _) _))) _))))) _)))) => o.toList
  | _ => []
theorem eup_7 : rup_7.toList = lup_7 := rfl
noncomputable def rup_8 : Array Oper := match Tryd.f89.body with
  | some (.seq _ (.seq _ (.seq _ (.seq (.seq _ (.block _ (.loop (.seq _ (.seq (.block _ (.seq _ (.seq _ (.cond _ (.region _ o _) _)))) _))))) _)))) => o
  | _ => #[]
noncomputable def lup_8 : List Oper := match Tryd.f89.body with
  | some (.seq _ (.seq _ (.seq _ (.seq (.seq _ (.block _ (.loop (.seq _ (.seq (.block _ (.seq _ (.seq _ (.cond _ (.region _ o _) _)))) _))))) _)))) => o.toList
  | _ => []
theorem eup_8 : rup_8.toList = lup_8 := rfl
theorem dup_8 {self : Self} {B : Nat} {T : List Value} {m : Mem} {lb : List (Nat × Nat)} {ls : Bool} : adrawN E self rup_8 B rup_8.toList 0 T m lb ls = adrawT E self rup_8 B rup_8.toList [(false, false), (false, false), (false, false), (false, false), (false, false), (false, false), (false, false), (false, false), (false, false), (false, false), (false, false), (false, false), (false, false), (false, false), (false, false)] 0 T m lb ls := adraw_tab (by kernel_rfl)
theorem sup_8 : E.sr 8 rup_8 = false := by kernel_rfl
noncomputable def rup_5 : Array Oper := match Tryd.f89.body with
  | some (.seq _ (.seq _ (.seq _ (.seq (.seq _ (.block _ (.loop (.seq _ (.seq _ (.region _ o _)))))) _)))) => o
  | _ => #[]
noncomputable def lup_5 : List Oper := match Tryd.f89.body with
  | some (.seq _ (.seq _ (.seq _ (.seq (.seq _ (.block _ (.loop (.seq _ (.seq _ (.region _ o _)))))) _)))) => o.toList
  | _ => []
theorem eup_5 : rup_5.toList = lup_5 := rfl
theorem lpup_0_eq : lpup_0 = (.seq (.seq (.region 4 rup_4 false) (.cond (.tmp 15) .skip (.exit 0))) (.seq (.block 1 (.seq (.region 6 rup_6 false) (.seq (.region 7 rup_7 false) (.cond (.tmp 29) (.region 8 rup_8 true) .skip)))) (.region 5 rup_5 false))) := rfl
noncomputable def rup_9 : Array Oper := match Tryd.f89.body with
  | some (.seq _ (.seq _ (.seq _ (.seq _ (.seq (.region _ o _) _))))) => o
  | _ => #[]
noncomputable def lup_9 : List Oper := match Tryd.f89.body with
  | some (.seq _ (.seq _ (.seq _ (.seq _ (.seq (.region _ o _) _))))) => o.toList
  | _ => []
theorem eup_9 : rup_9.toList = lup_9 := rfl
theorem bodyup : Tryd.f89.body = some (.seq (.region 0 rup_0 false) (.seq (.region 1 rup_1 false) (.seq (.region 2 rup_2 false) (.seq (.seq (.region 3 rup_3 false) (.block 0 (.loop lpup_0))) (.seq (.region 9 rup_9 false) .ret))))) := rfl
-- ntmps 45
noncomputable def rdn_0 : Array Oper := match Tryd.f92.body with
  | some (.seq (.region _ o _) _) => o
  | _ => #[]
noncomputable def ldn_0 : List Oper := match Tryd.f92.body with
  | some (.seq (.region _ o _) _) => o.toList
  | _ => []
theorem edn_0 : rdn_0.toList = ldn_0 := rfl
noncomputable def rdn_1 : Array Oper := match Tryd.f92.body with
  | some (.seq _ (.seq (.region _ o _) _)) => o
  | _ => #[]
noncomputable def ldn_1 : List Oper := match Tryd.f92.body with
  | some (.seq _ (.seq (.region _ o _) _)) => o.toList
  | _ => []
theorem edn_1 : rdn_1.toList = ldn_1 := rfl
noncomputable def rdn_2 : Array Oper := match Tryd.f92.body with
  | some (.seq _ (.seq _ (.seq (.region _ o _) _))) => o
  | _ => #[]
noncomputable def ldn_2 : List Oper := match Tryd.f92.body with
  | some (.seq _ (.seq _ (.seq (.region _ o _) _))) => o.toList
  | _ => []
theorem edn_2 : rdn_2.toList = ldn_2 := rfl
noncomputable def rdn_3 : Array Oper := match Tryd.f92.body with
  | some (.seq _ (.seq _ (.seq _ (.seq (.seq (.region _ o _) _) _)))) => o
  | _ => #[]
noncomputable def ldn_3 : List Oper := match Tryd.f92.body with
  | some (.seq _ (.seq _ (.seq _ (.seq (.seq (.region _ o _) _) _)))) => o.toList
  | _ => []
theorem edn_3 : rdn_3.toList = ldn_3 := rfl
noncomputable def lpdn_0 : Code := match Tryd.f92.body with
  | some (.seq _ (.seq _ (.seq _ (.seq (.seq _ (.block _ (.loop c))) _)))) => c
  | _ => .skip
noncomputable def rdn_4 : Array Oper := match Tryd.f92.body with
  | some (.seq _ (.seq _ (.seq _ (.seq (.seq _ (.block _ (.loop (.seq (.seq (.region _ o _) _) _)))) _)))) => o
  | _ => #[]
noncomputable def ldn_4 : List Oper := match Tryd.f92.body with
  | some (.seq _ (.seq _ (.seq _ (.seq (.seq _ (.block _ (.loop (.seq (.seq (.region _ o _) _) _)))) _)))) => o.toList
  | _ => []
theorem edn_4 : rdn_4.toList = ldn_4 := rfl
noncomputable def rdn_6 : Array Oper := match Tryd.f92.body with
  | some (.seq _ (.seq _ (.seq _ (.seq (.seq _ (.block _ (.loop (.seq _ (.seq (.block _ (.seq (.region _ o _) _)) _))))) _)))) => o
  | _ => #[]
noncomputable def ldn_6 : List Oper := match Tryd.f92.body with
  | some (.seq _ (.seq _ (.seq _ (.seq (.seq _ (.block _ (.loop (.seq _ (.seq (.block _ (.seq (.region _ o _) _)) _))))) _)))) => o.toList
  | _ => []
theorem edn_6 : rdn_6.toList = ldn_6 := rfl
noncomputable def rdn_7 : Array Oper := match Tryd.f92.body with
  | some (.seq _ (.seq _ (.seq _ (.seq (.seq _ (.block _ (.loop (.seq _ (.seq (.block _ (.seq _ (.seq (.region _ o _) _))) _))))) _)))) => o
  | _ => #[]
noncomputable def ldn_7 : List Oper := match Tryd.f92.body with
  | some (.seq _ (.seq _ (.seq _ (.seq (.seq _ (.block _ (.loop (.seq _ (.seq (.block _ (.seq _ (.seq (.region _ o _) _))) _))))) _)))) => o.toList
  | _ => []
theorem edn_7 : rdn_7.toList = ldn_7 := rfl
noncomputable def rdn_8 : Array Oper := match Tryd.f92.body with
  | some (.seq _ (.seq _ (.seq _ (.seq (.seq _ (.block _ (.loop (.seq _ (.seq (.block _ (.seq _ (.seq _ (.cond _ (.region _ o _) _)))) _))))) _)))) => o
  | _ => #[]
noncomputable def ldn_8 : List Oper := match Tryd.f92.body with
  | some (.seq _ (.seq _ (.seq _ (.seq (.seq _ (.block _ (.loop (.seq _ (.seq (.block _ (.seq _ (.seq _ (.cond _ (.region _ o _) _)))) _))))) _)))) => o.toList
  | _ => []
theorem edn_8 : rdn_8.toList = ldn_8 := rfl
theorem ddn_8 {self : Self} {B : Nat} {T : List Value} {m : Mem} {lb : List (Nat × Nat)} {ls : Bool} : adrawN E self rdn_8 B rdn_8.toList 0 T m lb ls = adrawT E self rdn_8 B rdn_8.toList [(false, false), (false, false), (false, false), (false, false), (false, false), (false, false), (false, false), (false, false), (false, false), (false, false), (false, false), (false, false), (false, false), (false, false), (false, false)] 0 T m lb ls := adraw_tab (by kernel_rfl)
theorem sdn_8 : E.sr 8 rdn_8 = false := by kernel_rfl
noncomputable def rdn_5 : Array Oper := match Tryd.f92.body with
  | some (.seq _ (.seq _ (.seq _ (.seq (.seq _ (.block _ (.loop (.seq _ (.seq _ (.region _ o _)))))) _)))) => o
  | _ => #[]
noncomputable def ldn_5 : List Oper := match Tryd.f92.body with
  | some (.seq _ (.seq _ (.seq _ (.seq (.seq _ (.block _ (.loop (.seq _ (.seq _ (.region _ o _)))))) _)))) => o.toList
  | _ => []
theorem edn_5 : rdn_5.toList = ldn_5 := rfl
theorem lpdn_0_eq : lpdn_0 = (.seq (.seq (.region 4 rdn_4 false) (.cond (.tmp 15) .skip (.exit 0))) (.seq (.block 1 (.seq (.region 6 rdn_6 false) (.seq (.region 7 rdn_7 false) (.cond (.tmp 29) (.region 8 rdn_8 true) .skip)))) (.region 5 rdn_5 false))) := rfl
noncomputable def rdn_9 : Array Oper := match Tryd.f92.body with
  | some (.seq _ (.seq _ (.seq _ (.seq _ (.seq (.region _ o _) _))))) => o
  | _ => #[]
noncomputable def ldn_9 : List Oper := match Tryd.f92.body with
  | some (.seq _ (.seq _ (.seq _ (.seq _ (.seq (.region _ o _) _))))) => o.toList
  | _ => []
theorem edn_9 : rdn_9.toList = ldn_9 := rfl
theorem bodydn : Tryd.f92.body = some (.seq (.region 0 rdn_0 false) (.seq (.region 1 rdn_1 false) (.seq (.region 2 rdn_2 false) (.seq (.seq (.region 3 rdn_3 false) (.block 0 (.loop lpdn_0))) (.seq (.region 9 rdn_9 false) .ret))))) := rfl
-- ntmps 45
-- ntmps 21
-- ntmps 19

/-- Eight words. -/
def rowOf (w : Nat → Nat) : List Value := (List.range 8).map fun j => .int .u64 ((w j : Nat) : Int)
def wide (w : Nat → Nat) : Value := .agg ⟨rowOf w⟩
theorem rowOf_length (w : Nat → Nat) : (rowOf w).length = 8 := by simp [rowOf]
theorem rowOf_get {w : Nat → Nat} {j : Nat} (h : j < 8) : (rowOf w)[j]? = some (.int .u64 ((w j : Nat) : Int)) := by
  unfold rowOf
  rw [List.getElem?_map, List.getElem?_range h]
  rfl
theorem rowOf_set {w : Nat → Nat} {i x : Nat} : (rowOf w).set i (.int .u64 ((x : Nat) : Int)) = rowOf (fun j => if j = i then x else w j) := by
  apply List.ext_getElem?
  intro k
  rw [List.getElem?_set]
  by_cases hk : k < 8
  · rw [rowOf_get hk, rowOf_get hk, rowOf_length]
    by_cases h : i = k
    · subst h; simp [hk]
    · have h' : ¬ k = i := fun e => h e.symm
      simp [h, h']
  · rw [List.getElem?_eq_none (by rw [rowOf_length]; omega), List.getElem?_eq_none (by rw [rowOf_length]; omega), rowOf_length]
    by_cases h : i = k
    · subst h; simp [hk]
    · simp [h]
theorem rowOf_lit (w : Nat → Nat) : (rowOf w).all lit0 = true := by
  unfold rowOf
  rw [List.all_map, List.all_eq_true]
  intro x _
  rfl
theorem rowOf_ok (w : Nat → Nat) : (rowOf w).all cellOk = true := by
  unfold rowOf
  rw [List.all_map, List.all_eq_true]
  intro x _
  rfl
theorem wide_lit (w : Nat → Nat) : lit2 (wide w) = true := rowOf_lit w
theorem rowOf_ext {w w' : Nat → Nat} (h : ∀ j, j < 8 → w j = w' j) : rowOf w = rowOf w' := by
  unfold rowOf
  apply List.map_congr_left
  intro j hj
  rw [h j (List.mem_range.1 hj)]

theorem info24 : ∃ i, E.P.info? 24 = some i ∧ i.size = 8 := by
  have h : (E.P.info? 24).map (·.size) = some 8 := by kernel_rfl
  exact Option.map_eq_some_iff.1 h
theorem info22 : ∃ i, E.P.info? 22 = some i ∧ i.size = 1 := by
  have h : (E.P.info? 22).map (·.size) = some 1 := by kernel_rfl
  exact Option.map_eq_some_iff.1 h
theorem und24 : E.P.underlying 24 = some (.array 8 22) := Tryd.underlying24
theorem und22 : E.P.underlying 22 = some (.int .u64) := Tryd.underlying22
theorem box24 (w : Nat → Nat) (m : Mem) : abox E.P 24 (wide w) m = some (.pointer (some ⟨m.length, 0, none⟩), m ++ [.row false 24 (rowOf w)]) := by
  obtain ⟨i, h1, _⟩ := info24
  unfold abox wide
  simp only [h1, vcells, rowOf_ok, if_true]
theorem alloc24 (m : Mem) : aalloc E.P 24 m = some (.pointer (some ⟨m.length, 0, none⟩), m ++ [.row false 24 (rowOf fun _ => 0)]) := by kernel_rfl
theorem load24 {m : Mem} {p : Nat} {ro : Bool} {w : Nat → Nat} {e : TypeId} (h : m[p]? = some (.row ro e (rowOf w))) : aload E.P 24 (.pointer (some ⟨p, 0, none⟩)) m = some (wide w) := by
  obtain ⟨i, h1, h2⟩ := info24
  unfold aload
  simp only [lookRow h, und24, aggD, h1, h2]
  rw [if_pos (by rw [rowOf_length]; omega), List.drop_zero, List.take_of_length_le (by rw [rowOf_length]; omega)]
  rfl
theorem store24 {m : Mem} {p : Nat} {w : Nat → Nat} {e : TypeId} {cs : List Value} (h : m[p]? = some (.row false e cs)) (hl : cs.length = 8) : astore E.P 24 (.pointer (some ⟨p, 0, none⟩)) (wide w) m = some (m.set p (.row false e (rowOf w))) := by
  obtain ⟨i, h1, h2⟩ := info24
  unfold astore wide
  simp only [h, vcells, rowOf_ok, if_true, h1, h2]
  rw [if_pos ⟨rowOf_length w, by rw [rowOf_length]; omega⟩]
  congr 2
  have : lay cs 0 (rowOf w) = rowOf w := by
    unfold lay
    split
    · rename_i v hv
      have := congrArg List.length hv
      rw [rowOf_length] at this
      simp at this
    · rw [List.take_zero, List.nil_append, List.drop_of_length_le (by rw [rowOf_length]; omega), List.append_nil]
  rw [this]
theorem ix24 {p k : Nat} (h : k < 8) : aindexAddr E.P 24 (.pointer (some ⟨p, 0, none⟩)) (.int .i64 (k : Nat)) = some (.pointer (some ⟨p, k, none⟩)) := by
  obtain ⟨i, h1, h2⟩ := info22
  unfold aindexAddr
  simp only [und24, h1, h2]
  rw [if_pos (by omega)]
  simp
theorem load22 (b o : Nat) (m : Mem) : aload E.P 22 (.pointer (some ⟨b, o, none⟩)) m = cellAt m b o := aload_cell und22 rfl b o m
theorem store22 {m : Mem} {p k x : Nat} {w : Nat → Nat} (h : m[p]? = some (.row false 24 (rowOf w))) (hk : k < 8) : astore E.P 22 (.pointer (some ⟨p, k, none⟩)) (.int .u64 ((x : Nat) : Int)) m = some (m.set p (.row false 24 (rowOf (fun j => if j = k then x else w j)))) := by
  obtain ⟨i, h1, h2⟩ := info22
  rw [astore_cell h1 h2 h (by rw [rowOf_length]; exact hk) rfl, rowOf_set]

theorem shlN {x n : Nat} (hn : n ≤ 64) : abin .shl .u64 ((x : Nat) : Int) .i64 ((n : Nat) : Int) = some (.int .u64 ((x * 2 ^ n % 18446744073709551616 : Nat) : Int)) := by
  unfold abin
  simp only
  rw [if_neg (by omega), Int.toNat_natCast, show IntKind.u64.bits = 64 from rfl, Nat.min_eq_left hn]
  simp only [wrapF]
  congr 2
theorem shrN {x n : Nat} (hn : n ≤ 64) : abin .shr .u64 ((x : Nat) : Int) .i64 ((n : Nat) : Int) = some (.int .u64 ((x / 2 ^ n : Nat) : Int)) := by
  unfold abin
  simp only
  rw [if_neg (by omega), Int.toNat_natCast, show IntKind.u64.bits = 64 from rfl, Nat.min_eq_left hn, Int.fdiv_eq_ediv_of_nonneg _ (by exact Int.natCast_nonneg _)]
  congr 2
theorem orN {x y : Nat} (hx : x < 18446744073709551616) (hy : y < 18446744073709551616) : abin .or .u64 ((x : Nat) : Int) .u64 ((y : Nat) : Int) = some (.int .u64 ((x ||| y : Nat) : Int)) := by
  unfold abin abits
  simp only [if_true, Option.map_some, pow2]
  have e1 : (((x : Nat) : Int) % 18446744073709551616).toNat = x := by omega
  have e2 : (((y : Nat) : Int) % 18446744073709551616).toNat = y := by omega
  have h : x ||| y < 2 ^ 64 := Nat.or_lt_two_pow (by omega) (by omega)
  rw [e1, e2]
  simp only [wrapF]
  congr 2
  omega
theorem and1 {x : Nat} (hx : x < 18446744073709551616) : abin .and .u64 ((x : Nat) : Int) .u64 1 = some (.int .u64 ((x % 2 : Nat) : Int)) := by
  unfold abin abits
  simp only [if_true, Option.map_some, pow2]
  have e1 : (((x : Nat) : Int) % 18446744073709551616).toNat = x := by omega
  have e2 : ((1 : Int) % 18446744073709551616).toNat = 2 ^ 1 - 1 := rfl
  rw [e1, e2, Nat.and_two_pow_sub_one_eq_mod]
  simp only [wrapF]
  congr 2
  omega
theorem gtr64' (a b : Int) : abin .gtr .i64 a .i64 b = some (.bool (decide (a > b))) := by kernel_rfl
theorem wsub {a b : Nat} (h : b ≤ a) (ha : a < 1000000) : wrapF .i64 (((a : Nat) : Int) - ((b : Nat) : Int)) = ((a - b : Nat) : Int) := by
  rw [wrap_i64 (by omega) (by omega)]; omega
theorem wsub1 {a : Nat} (h : 1 ≤ a) (ha : a < 1000000) : wrapF .i64 (((a : Nat) : Int) - 1) = ((a - 1 : Nat) : Int) := by
  rw [wrap_i64 (by omega) (by omega)]; omega
theorem w64sub {a : Nat} (h : a ≤ 64) : wrapF .i64 ((64 : Int) - ((a : Nat) : Int)) = ((64 - a : Nat) : Int) := by
  rw [wrap_i64 (by omega) (by omega)]; omega

/-- A word of a number shifted up, and down. -/
def upW (w : Nat → Nat) (far near a : Nat) : Nat := if a < far then 0 else if far < a then (w (a - far) * 2 ^ near % 18446744073709551616) ||| (w (a - far - 1) / 2 ^ (64 - near)) else w (a - far) * 2 ^ near % 18446744073709551616
def dnW (w : Nat → Nat) (far near a : Nat) : Nat := if a + far < 8 then (if a + far + 1 < 8 then (w (a + far) / 2 ^ near) ||| (w (a + far + 1) * 2 ^ (64 - near) % 18446744073709551616) else w (a + far) / 2 ^ near) else 0

theorem div_lt64 {x n : Nat} (h : x < 18446744073709551616) : x / 2 ^ n < 18446744073709551616 := Nat.lt_of_le_of_lt (Nat.div_le_self _ _) h

section
variable {self : Self} {nf : Nat} {M : Mem} {F : Nat → Value} {p q : Nat} {w out : Nat → Nat} {far near i : Nat} {rp : Bool}

theorem set_twice {M : Mem} {q : Nat} {a b : Blk} : (M.set q a).set q b = M.set q b := by simp

theorem iterUp (h2 : F 2 = .pointer (some ⟨p, 0, none⟩)) (h7 : F 7 = .pointer (some ⟨q, 0, none⟩)) (h5 : F 5 = .int .i64 (far : Nat)) (h6 : F 6 = .int .i64 (near : Nat)) (h8 : F 8 = .int .i64 (i : Nat))
    (hp : M[p]? = some (.row rp 24 (rowOf w))) (hq : M[q]? = some (.row false 24 (rowOf out))) (hpq : p ≠ q) (hfi : far ≤ i) (hi : i < 8) (hn : near < 64) (hw : ∀ j, w j < 18446744073709551616) :
    ∃ F', acodeN E self nf lpup_0 (lst F 45) M = some (.normal, lst F' 45, M.set q (.row false 24 (rowOf (fun j => if j = i then upW w far near i else out j)))) ∧ F' 2 = F 2 ∧ F' 4 = F 4 ∧ F' 5 = F 5 ∧ F' 6 = F 6 ∧ F' 7 = F 7 ∧ F' 8 = .int .i64 ((i + 1 : Nat) : Int) := by
  have hlt : decide (((i : Nat) : Int) < 8) = true := decide_eq_true (by omega)
  have hqm := lt_of_at hq
  have e1 := wsub hfi (by omega)
  have e2 := w1 (i := i) (by omega)
  have e3 := w64sub (a := near) (by omega)
  have c1 : cellAt M p (i - far) = some (.int .u64 ((w (i - far) : Nat) : Int)) := by rw [cellAt_row hp, rowOf_get (by omega)]
  have i1 := ix24 (p := p) (k := i - far) (by omega)
  have i2 := ix24 (p := q) (k := i) hi
  have s1 := shlN (x := w (i - far)) (n := near) (by omega)
  have t1 := store22 (x := w (i - far) * 2 ^ near % 18446744073709551616) hq hi
  by_cases hg : far < i
  · have hgt : decide (((i : Nat) : Int) > ((far : Nat) : Int)) = true := decide_eq_true (by omega)
    generalize hM1 : M.set q (.row false 24 (rowOf (fun j => if j = i then w (i - far) * 2 ^ near % 18446744073709551616 else out j))) = M1 at t1
    have hq1 : M1[q]? = some (.row false 24 (rowOf (fun j => if j = i then w (i - far) * 2 ^ near % 18446744073709551616 else out j))) := by rw [← hM1, List.getElem?_set_self hqm]
    have hp1 : M1[p]? = some (.row rp 24 (rowOf w)) := by rw [← hM1, List.getElem?_set_ne (fun e => hpq e.symm)]; exact hp
    have hq1s : (M1.map sealed)[q]? = some (.row true 24 (rowOf (fun j => if j = i then w (i - far) * 2 ^ near % 18446744073709551616 else out j))) := by rw [List.getElem?_map, hq1]; rfl
    have hp1s : (M1.map sealed)[p]? = some (.row true 24 (rowOf w)) := by rw [List.getElem?_map, hp1]; rfl
    have c2 : cellAt (M1.map sealed) q i = some (.int .u64 ((w (i - far) * 2 ^ near % 18446744073709551616 : Nat) : Int)) := by rw [cellAt_row hq1s, rowOf_get hi]; simp
    have c3 : cellAt (M1.map sealed) p (i - far - 1) = some (.int .u64 ((w (i - far - 1) : Nat) : Int)) := by rw [cellAt_row hp1s, rowOf_get (by omega)]
    have i3 := ix24 (p := p) (k := i - far - 1) (by omega)
    have e4 := wsub1 (a := i - far) (by omega) (by omega)
    have s2 := shrN (x := w (i - far - 1)) (n := 64 - near) (by omega)
    have s3 := orN (x := w (i - far) * 2 ^ near % 18446744073709551616) (y := w (i - far - 1) / 2 ^ (64 - near)) (Nat.mod_lt _ (by omega)) (div_lt64 (hw _))
    have t2 := store22 (x := (w (i - far) * 2 ^ near % 18446744073709551616) ||| (w (i - far - 1) / 2 ^ (64 - near))) hq1 hi
    have hfin : M1.set q (.row false 24 (rowOf fun j => if j = i then w (i - far) * 2 ^ near % 18446744073709551616 ||| w (i - far - 1) / 2 ^ (64 - near) else if j = i then w (i - far) * 2 ^ near % 18446744073709551616 else out j)) = M.set q (.row false 24 (rowOf (fun j => if j = i then upW w far near i else out j))) := by
      rw [← hM1, set_twice]
      have this : (rowOf fun j => if j = i then w (i - far) * 2 ^ near % 18446744073709551616 ||| w (i - far - 1) / 2 ^ (64 - near) else if j = i then w (i - far) * 2 ^ near % 18446744073709551616 else out j) = rowOf (fun j => if j = i then upW w far near i else out j) := by
        apply rowOf_ext
        intro j _
        by_cases hj : j = i
        · simp only [hj, if_true]
          unfold upW
          rw [if_neg (by omega), if_pos hg]
        · simp only [hj, if_false]
      rw [this]
    simp only [lpup_0_eq, ↓dup_8, ↓sup_8, eup_0, eup_1, eup_2, eup_3, eup_4, eup_5, eup_6, eup_7, eup_8, eup_9, lup_0, lup_1, lup_2, lup_3, lup_4, lup_5, lup_6, lup_7, lup_8, lup_9, agd_none, gdAt, gdV_bool, gdV_undef, Tryd.f89, List.append_eq, List.cons_append, List.nil_append, apure_call1, apure_call2, apure_call3, bft, btf, acodeN, List.getElem?_toArray, List.getElem?_cons_zero, List.getElem?_cons_succ, aopsN, adrawT, cls, astep, aop, afloat, ev, nth_lst, get_lst, aput, setAt_lst, upd_at, init_zero, init_succ, init_nil, Nat.reduceLT, Nat.reduceEqDiff, reduceIte, abuiltin, alen, Option.map_some, Option.map_none, orElse_some, apure_add, apure_eql, apure_neq, List.map_cons, List.map_nil, List.all_cons, List.all_nil, lit2, lit1, lit0, List.isEmpty_nil, Bool.and_self, Bool.and_true, Bool.true_and, Bool.false_and, Bool.and_false, Bool.not_true, Bool.not_false, Bool.or_true, Bool.true_or, Bool.false_or, Bool.or_false, Bool.false_eq_true, if_true, if_false, List.length_map, beq_self_eq_true, und3, und4, und5, und9, h2, h5, h6, h7, h8, lss64, hlt, sub64', e1, i1, load22, c1, s1, i2, t1, gtr64', hgt, c2, e4, i3, c3, e3, s2, s3, t2, add64', e2, hfin]
    exact ⟨_, rfl, by simp only [upd_at, Nat.reduceEqDiff, reduceIte, h2, h5, h6, h7], by simp only [upd_at, Nat.reduceEqDiff, reduceIte, h2, h5, h6, h7], by simp only [upd_at, Nat.reduceEqDiff, reduceIte, h2, h5, h6, h7], by simp only [upd_at, Nat.reduceEqDiff, reduceIte, h2, h5, h6, h7], by simp only [upd_at, Nat.reduceEqDiff, reduceIte, h2, h5, h6, h7], by simp only [upd_at, Nat.reduceEqDiff, reduceIte, h2, h5, h6, h7]⟩
  · have hgt : decide (((i : Nat) : Int) > ((far : Nat) : Int)) = false := decide_eq_false (by omega)
    have hfin : M.set q (.row false 24 (rowOf fun j => if j = i then w (i - far) * 2 ^ near % 18446744073709551616 else out j)) = M.set q (.row false 24 (rowOf (fun j => if j = i then upW w far near i else out j))) := by
      have this : (rowOf fun j => if j = i then w (i - far) * 2 ^ near % 18446744073709551616 else out j) = rowOf (fun j => if j = i then upW w far near i else out j) := by
        apply rowOf_ext
        intro j _
        by_cases hj : j = i
        · simp only [hj, if_true]
          unfold upW
          rw [if_neg (by omega), if_neg hg]
        · simp only [hj, if_false]
      rw [this]
    simp only [lpup_0_eq, ↓dup_8, ↓sup_8, eup_0, eup_1, eup_2, eup_3, eup_4, eup_5, eup_6, eup_7, eup_8, eup_9, lup_0, lup_1, lup_2, lup_3, lup_4, lup_5, lup_6, lup_7, lup_8, lup_9, agd_none, gdAt, gdV_bool, gdV_undef, Tryd.f89, List.append_eq, List.cons_append, List.nil_append, apure_call1, apure_call2, apure_call3, bft, btf, acodeN, List.getElem?_toArray, List.getElem?_cons_zero, List.getElem?_cons_succ, aopsN, adrawT, cls, astep, aop, afloat, ev, nth_lst, get_lst, aput, setAt_lst, upd_at, init_zero, init_succ, init_nil, Nat.reduceLT, Nat.reduceEqDiff, reduceIte, abuiltin, alen, Option.map_some, Option.map_none, orElse_some, apure_add, apure_eql, apure_neq, List.map_cons, List.map_nil, List.all_cons, List.all_nil, lit2, lit1, lit0, List.isEmpty_nil, Bool.and_self, Bool.and_true, Bool.true_and, Bool.false_and, Bool.and_false, Bool.not_true, Bool.not_false, Bool.or_true, Bool.true_or, Bool.false_or, Bool.or_false, Bool.false_eq_true, if_true, if_false, List.length_map, beq_self_eq_true, und3, und4, und5, und9, h2, h5, h6, h7, h8, lss64, hlt, sub64', e1, i1, load22, c1, s1, i2, t1, gtr64', hgt, add64', e2, hfin]
    exact ⟨_, rfl, by simp only [upd_at, Nat.reduceEqDiff, reduceIte, h2, h5, h6, h7], by simp only [upd_at, Nat.reduceEqDiff, reduceIte, h2, h5, h6, h7], by simp only [upd_at, Nat.reduceEqDiff, reduceIte, h2, h5, h6, h7], by simp only [upd_at, Nat.reduceEqDiff, reduceIte, h2, h5, h6, h7], by simp only [upd_at, Nat.reduceEqDiff, reduceIte, h2, h5, h6, h7], by simp only [upd_at, Nat.reduceEqDiff, reduceIte, h2, h5, h6, h7]⟩

theorem lastUp (h8 : F 8 = .int .i64 (i : Nat)) (hi : 8 ≤ i) : ∃ F', acodeN E self nf lpup_0 (lst F 45) M = some (.exit 0, lst F' 45, M) ∧ F' 4 = F 4 ∧ F' 7 = F 7 := by
  have hlt : decide (((i : Nat) : Int) < 8) = false := decide_eq_false (by omega)
  simp only [lpup_0_eq, ↓dup_8, ↓sup_8, eup_0, eup_1, eup_2, eup_3, eup_4, eup_5, eup_6, eup_7, eup_8, eup_9, lup_0, lup_1, lup_2, lup_3, lup_4, lup_5, lup_6, lup_7, lup_8, lup_9, agd_none, gdAt, gdV_bool, gdV_undef, Tryd.f89, List.append_eq, List.cons_append, List.nil_append, apure_call1, apure_call2, apure_call3, bft, btf, acodeN, List.getElem?_toArray, List.getElem?_cons_zero, List.getElem?_cons_succ, aopsN, adrawT, cls, astep, aop, afloat, ev, nth_lst, get_lst, aput, setAt_lst, upd_at, init_zero, init_succ, init_nil, Nat.reduceLT, Nat.reduceEqDiff, reduceIte, abuiltin, alen, Option.map_some, Option.map_none, orElse_some, apure_add, apure_eql, apure_neq, List.map_cons, List.map_nil, List.all_cons, List.all_nil, lit2, lit1, lit0, List.isEmpty_nil, Bool.and_self, Bool.and_true, Bool.true_and, Bool.false_and, Bool.and_false, Bool.not_true, Bool.not_false, Bool.or_true, Bool.true_or, Bool.false_or, Bool.or_false, Bool.false_eq_true, if_true, if_false, List.length_map, beq_self_eq_true, und3, und4, und5, und9, h8, lss64, hlt]
  exact ⟨_, rfl, by simp only [upd_at, Nat.reduceEqDiff, reduceIte], by simp only [upd_at, Nat.reduceEqDiff, reduceIte]⟩

theorem quo64 (k : Int) : abin .quo .i64 k .i64 64 = some (.int .i64 (wrapF .i64 (k.tdiv 64))) := by kernel_rfl
theorem rem64 (k : Int) : abin .rem .i64 k .i64 64 = some (.int .i64 (k.tmod 64)) := by kernel_rfl
theorem wq64 {n : Nat} (h : n < 1000000) : wrapF .i64 (((n : Nat) : Int).tdiv 64) = ((n / 64 : Nat) : Int) := by
  rw [Int.tdiv_eq_ediv_of_nonneg (by omega), wrap_i64 (by omega) (by omega)]; omega
theorem wrm64 {n : Nat} : ((n : Nat) : Int).tmod 64 = ((n % 64 : Nat) : Int) := by
  rw [Int.tmod_eq_emod_of_nonneg (by omega)]; omega

theorem up_body {m : Mem} {n : Nat} (hn : n < 512) (hw : ∀ j, w j < 18446744073709551616) (hf : 10 < nf) :
    ∃ m', abody E self nf 89 [wide w, .int .i64 (n : Nat)] m = some (wide (upW w (n / 64) (n % 64)), m') := by
  rw [abody_eqF (by kernel_rfl) Tryd.func89 bodyup (by kernel_rfl) (Nat.le_of_ble_eq_true rfl)]
  rw [show Tryd.f89.ntmps = 45 from rfl]
  have e1 := wq64 (n := n) (by omega)
  have e2 := wrm64 (n := n)
  have b1 := box24 w m
  have b2 := alloc24 (m ++ [.row false 24 (rowOf w)])
  have b3 := alloc24 (m ++ [Blk.row false 24 (rowOf w)] ++ [.row false 24 (rowOf fun _ => 0)])
  generalize hM : m ++ [Blk.row false 24 (rowOf w)] ++ [.row false 24 (rowOf fun _ => 0)] ++ [.row false 24 (rowOf fun _ => 0)] = M at b3
  have hp : M[m.length]? = some (.row false 24 (rowOf w)) := by
    rw [← hM, List.getElem?_append_left (by simp), List.getElem?_append_left (by simp)]; simp
  have hr : M[m.length + 1]? = some (.row false 24 (rowOf fun _ => 0)) := by
    rw [← hM, List.getElem?_append_left (by simp), List.getElem?_append_right (by simp)]; simp
  have hq : M[m.length + 2]? = some (.row false 24 (rowOf fun _ => 0)) := by
    rw [← hM, List.getElem?_append_right (by simp)]; simp
  have l1 : (m ++ [Blk.row false 24 (rowOf w)]).length = m.length + 1 := by simp
  have l2 : (m ++ [Blk.row false 24 (rowOf w)] ++ [Blk.row false 24 (rowOf fun _ => 0)]).length = m.length + 2 := by simp
  rw [l1] at b2
  rw [l2] at b3
  have hloop := aloop_inv (body := acodeN E self nf lpup_0) (N := 8 - n / 64)
    (I := fun k T M' => M'[m.length]? = some (.row false 24 (rowOf w)) ∧ M'[m.length + 1]? = some (.row false 24 (rowOf fun _ => 0)) ∧ M'[m.length + 2]? = some (.row false 24 (rowOf fun j => if j < n / 64 + k then upW w (n / 64) (n % 64) j else 0)) ∧
      ∃ F, T = lst F 45 ∧ F 2 = .pointer (some ⟨m.length, 0, none⟩) ∧ F 4 = .pointer (some ⟨m.length + 1, 0, none⟩) ∧ F 5 = .int .i64 ((n / 64 : Nat) : Int) ∧ F 6 = .int .i64 ((n % 64 : Nat) : Int) ∧ F 7 = .pointer (some ⟨m.length + 2, 0, none⟩) ∧ F 8 = .int .i64 ((n / 64 + k : Nat) : Int))
    (Q := fun e T M' => e = .exit 0 ∧ M'[m.length + 1]? = some (.row false 24 (rowOf fun _ => 0)) ∧ M'[m.length + 2]? = some (.row false 24 (rowOf (upW w (n / 64) (n % 64)))) ∧ ∃ F, T = lst F 45 ∧ F 4 = .pointer (some ⟨m.length + 1, 0, none⟩) ∧ F 7 = .pointer (some ⟨m.length + 2, 0, none⟩)) (fun k T M' hk hI => by
      obtain ⟨gp, gr, gq, F, rfl, g2, g4, g5, g6, g7, g8⟩ := hI
      by_cases hlt : n / 64 + k < 8
      · left
        obtain ⟨F', hr', f2, f4, f5, f6, f7, f8⟩ := iterUp (self := self) (nf := nf) g2 g7 g5 g6 g8 gp gq (by omega) (by omega) hlt (by omega) hw
        refine ⟨_, _, hr', by omega, ?_, ?_, ?_, F', rfl, by rw [f2, g2], by rw [f4, g4], by rw [f5, g5], by rw [f6, g6], by rw [f7, g7], by rw [f8]; rfl⟩
        · rw [List.getElem?_set_ne (by omega)]; exact gp
        · rw [List.getElem?_set_ne (by omega)]; exact gr
        · rw [List.getElem?_set_self (lt_of_at gq)]
          congr 2
          apply rowOf_ext
          intro j _
          by_cases hj : j = n / 64 + k
          · rw [if_pos hj, if_pos (by omega), hj]
          · rw [if_neg hj]
            by_cases hj2 : j < n / 64 + k
            · rw [if_pos hj2, if_pos (by omega)]
            · rw [if_neg hj2, if_neg (by omega)]
      · right
        obtain ⟨F', hr', f4, f7⟩ := lastUp (self := self) (nf := nf) (M := M') g8 (by omega)
        refine ⟨_, _, _, hr', by simp, rfl, gr, ?_, F', rfl, by rw [f4, g4], by rw [f7, g7]⟩
        rw [gq]
        congr 2
        apply rowOf_ext
        intro j hj
        rw [if_pos (by omega)])
  obtain ⟨e, T', M2, hl, rfl, hr2, hq2, F', rfl, f4, f7⟩ := hloop (8 - n / 64) 0 nf (lst (upd (upd (upd (upd (upd (upd (upd (upd (upd (upd (upd (init [wide w, .int .i64 (n : Nat)]) 2 (.pointer (some ⟨m.length, 0, none⟩))) 4 (.pointer (some ⟨m.length + 1, 0, none⟩))) 9 (.int .i64 (n : Nat))) 10 (.int .i64 ((n / 64 : Nat) : Int))) 11 (.int .i64 (n : Nat))) 12 (.int .i64 ((n % 64 : Nat) : Int))) 5 (.int .i64 ((n / 64 : Nat) : Int))) 6 (.int .i64 ((n % 64 : Nat) : Int))) 7 (.pointer (some ⟨m.length + 2, 0, none⟩))) 13 (.int .i64 ((n / 64 : Nat) : Int))) 8 (.int .i64 ((n / 64 : Nat) : Int))) 45) M (by omega) (by omega)
    ⟨hp, hr, by
      rw [hq]
      congr 2
      apply rowOf_ext
      intro j _
      by_cases hj : j < n / 64 + 0
      · rw [if_pos hj]
        unfold upW
        rw [if_pos (by omega)]
      · rw [if_neg hj], _, rfl, rfl, rfl, rfl, rfl, rfl, rfl⟩
  have ld := load24 hq2
  have st := store24 (w := upW w (n / 64) (n % 64)) hr2 (rowOf_length _)
  have ld2 : aload E.P 24 (.pointer (some ⟨m.length + 1, 0, none⟩)) (M2.set (m.length + 1) (.row false 24 (rowOf (upW w (n / 64) (n % 64))))) = some (wide (upW w (n / 64) (n % 64))) := load24 (by rw [List.getElem?_set_self (lt_of_at hr2)])
  simp only [↓dup_8, ↓sup_8, eup_0, eup_1, eup_2, eup_3, eup_4, eup_5, eup_6, eup_7, eup_8, eup_9, lup_0, lup_1, lup_2, lup_3, lup_4, lup_5, lup_6, lup_7, lup_8, lup_9, agd_none, gdAt, gdV_bool, gdV_undef, Tryd.f89, List.append_eq, List.cons_append, List.nil_append, apure_call1, apure_call2, apure_call3, bft, btf, acodeN, List.getElem?_toArray, List.getElem?_cons_zero, List.getElem?_cons_succ, aopsN, adrawT, cls, astep, aop, afloat, ev, nth_lst, get_lst, aput, setAt_lst, upd_at, init_zero, init_succ, init_nil, Nat.reduceLT, Nat.reduceEqDiff, reduceIte, abuiltin, alen, Option.map_some, Option.map_none, orElse_some, apure_add, apure_eql, apure_neq, List.map_cons, List.map_nil, List.all_cons, List.all_nil, lit2, lit1, lit0, List.isEmpty_nil, Bool.and_self, Bool.and_true, Bool.true_and, Bool.false_and, Bool.and_false, Bool.not_true, Bool.not_false, Bool.or_true, Bool.true_or, Bool.false_or, Bool.or_false, Bool.false_eq_true, if_true, if_false, List.length_map, beq_self_eq_true, und3, und4, und5, und9, b1, b2, b3, quo64, rem64, e1, e2, hl, f4, f7, ld, st, ld2, finish, ares, aresL, ares1]
  exact ⟨_, rfl⟩
end
end Go.Am.Seat
