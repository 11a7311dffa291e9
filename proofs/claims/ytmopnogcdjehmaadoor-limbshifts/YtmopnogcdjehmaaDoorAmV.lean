/-
  The Builder's methods on the abstract machine, for any bytes (own work).
-/
import Derived.Test.YtmopnogcdjehmaaDoorAmP
import Derived.Test.YtmopnogcdjehmaaDoorAmU
set_option linter.unusedSimpArgs false
set_option linter.unusedVariables false
namespace Go.Am.Seat
open Go.Proofs Go.Am
set_option maxRecDepth 100000

theorem fa86_0 (b o : Nat) : afieldAddr E.P 91 (.pointer (some ⟨b, o, none⟩)) 0 = some (.pointer (some ⟨b, o + 0, none⟩)) := by kernel_rfl
theorem fa86_1 (b o : Nat) : afieldAddr E.P 91 (.pointer (some ⟨b, o, none⟩)) 1 = some (.pointer (some ⟨b, o + 1, none⟩)) := by kernel_rfl
theorem load35 (b o : Nat) (m : Mem) : aload E.P 35 (.pointer (some ⟨b, o, none⟩)) m = cellAt m b o := aload_cell Tryd.underlying35 rfl b o m
theorem load84 (b o : Nat) (m : Mem) : aload E.P 89 (.pointer (some ⟨b, o, none⟩)) m = cellAt m b o := aload_cell Tryd.underlying89 rfl b o m
theorem build35 (c : Int) (m : Mem) : abuildSlice E.P 35 1 [(0, .int .u8 c)] m = some (.slice (some ⟨m.length, 0, none⟩) 1 1, m ++ [.row false 5 [.int .u8 c]]) := by kernel_rfl
theorem call79 : callableB E.P 91 = true := by kernel_rfl
theorem wr79 : E.wr 91 = true := by kernel_rfl
theorem call94 : callableB E.P 108 = false := by kernel_rfl
theorem ext94 : E.ext 108 = some .same := by kernel_rfl
theorem conv84 (q : Nat) : aconv E.P 89 134 (.pointer (some ⟨q, 0, none⟩)) = none := by kernel_rfl
theorem conv127 (q : Nat) : aconv E.P 134 89 (.pointer (some ⟨q, 0, none⟩)) = none := by kernel_rfl
theorem convB84 (q : Nat) (m : Mem) : aconvB E.P 89 134 (.pointer (some ⟨q, 0, none⟩)) m = none := by kernel_rfl
theorem convB127 (q : Nat) (m : Mem) : aconvB E.P 134 89 (.pointer (some ⟨q, 0, none⟩)) m = none := by kernel_rfl
theorem info86 : ∃ i, E.P.info? 91 = some i ∧ i.size ≠ 0 := by
  have h : (E.P.info? 91).map (·.size) = some 2 := by kernel_rfl
  obtain ⟨i, h1, h2⟩ := Option.map_eq_some_iff.1 h
  exact ⟨i, h1, by omega⟩
theorem info84 : ∃ i, E.P.info? 89 = some i ∧ i.size = 1 := by
  have h : (E.P.info? 89).map (·.size) = some 1 := by kernel_rfl
  exact Option.map_eq_some_iff.1 h
theorem info35 : ∃ i, E.P.info? 35 = some i ∧ i.size = 1 := by
  have h : (E.P.info? 35).map (·.size) = some 1 := by kernel_rfl
  exact Option.map_eq_some_iff.1 h
theorem aeq84 (a : Addr) : aeq E.P 89 (.pointer (some a)) (.pointer (some a)) = some true := by
  obtain ⟨i, h1, h2⟩ := info86
  exact aeq_same Tryd.underlying89 h1 h2 a
theorem aeq84n (a : Addr) : aeq E.P 89 (.pointer (some a)) (.pointer none) = some false := by kernel_rfl
theorem ptr84 {m : Mem} {q : Nat} {cs : List Value} (h : m[q]? = some (.row false 91 cs)) (hc : cs.length = 2) : aptr E.P 89 134 (.pointer (some ⟨q, 0, none⟩)) m = some (.pointer (some ⟨q, 0, none⟩)) := by
  obtain ⟨i, h1, h2⟩ := info86
  exact aptr_to Tryd.underlying89 Tryd.underlying134 h1 h2 h (by omega)
theorem ptr127 {m : Mem} {q : Nat} {cs : List Value} (h : m[q]? = some (.row false 91 cs)) (hc : cs.length = 2) : aptr E.P 134 89 (.pointer (some ⟨q, 0, none⟩)) m = some (.pointer (some ⟨q, 0, none⟩)) := by
  obtain ⟨i, h1, h2⟩ := info86
  exact aptr_from Tryd.underlying134 Tryd.underlying89 h1 h2 h (by rw [hc]; kernel_rfl)
theorem store84 {m : Mem} {q o : Nat} {cs : List Value} (h : m[q]? = some (.row false 91 cs)) (ho : o < cs.length) (a : Option Addr) : astore E.P 89 (.pointer (some ⟨q, o, none⟩)) (.pointer a) m = some (m.set q (.row false 91 (cs.set o (.pointer a)))) := by
  obtain ⟨i, h1, h2⟩ := info84
  exact astore_cell h1 h2 h ho rfl
theorem store35 {m : Mem} {q o : Nat} {cs : List Value} (h : m[q]? = some (.row false 91 cs)) (ho : o < cs.length) (a : Option Addr) (n c : Nat) : astore E.P 35 (.pointer (some ⟨q, o, none⟩)) (.slice a n c) m = some (m.set q (.row false 91 (cs.set o (.slice a n c)))) := by
  obtain ⟨i, h1, h2⟩ := info35
  exact astore_cell h1 h2 h ho rfl

section
variable {K : List Fact} {n q : Nat} {m : Mem}

theorem copy_fresh (hK : hasF K 91 = false) {bf : Value} (hq : m[q]? = some (.row false 91 [.pointer none, bf])) :
    runK E mem2 K (n + 1) 91 [.pointer (some ⟨q, 0, none⟩)] m = some (.tuple ⟨[]⟩, m.set q (.row false 91 [.pointer (some ⟨q, 0, none⟩), bf])) := by
  rw [runK_other hK, abody_eqN (by kernel_rfl) Tryd.func91 rfl (by kernel_rfl)]
  rw [show ([Value.pointer (some ⟨q, 0, none⟩)] ++ List.replicate (Tryd.f91.ntmps - [Value.pointer (some ⟨q, 0, none⟩)].length) undef) = [.pointer (some ⟨q, 0, none⟩), undef, undef, undef, undef, undef, undef, undef, undef, undef, undef, undef, undef, undef, undef, undef, undef, undef, undef, undef] from rfl]
  have hc0 : cellAt m q 0 = some (.pointer none) := cellAt_row hq 0
  have hp : ∀ (v2 v3 v4 : Value) (pos : String) (af : Array Edge), apureC E.P [.pointer (some ⟨q, 0, none⟩), undef, v2, v3, v4, .pointer none, undef, undef, undef, undef, undef, undef, undef, undef, undef, undef, undef, undef, undef, undef]
      { dst := some 6, op := .binOp .eql 89 (.tmp 5) (.const (.pointer none)) 89, type := 4, pos := pos, after := af, guard := none } = some (.bool true) := by
    intro v2 v3 v4 pos af
    kernel_rfl
  simp only [acodeN, aopsN, agd, astep, aop, ev, nth_zero, nth_succ, aput, setAt_zero, setAt_succ, Option.map_some, Option.map_none, fa86_0, load84, hc0, hp, Nat.zero_add, Nat.add_zero, call94, ext94, conv84, conv127, convB84, convB127, ptr84 hq rfl, ptr127 hq rfl, apure_convert, apure_binOp, isAddr, List.isEmpty_nil, Bool.and_self, if_true, aext, List.map_cons, List.map_nil, store84 hq (show 0 < 2 by omega)]
  rfl

theorem copy_used (hK : hasF K 91 = false) {bf : Value} (hq : m[q]? = some (.row false 91 [.pointer (some ⟨q, 0, none⟩), bf])) :
    runK E mem2 K (n + 1) 91 [.pointer (some ⟨q, 0, none⟩)] m = some (.tuple ⟨[]⟩, m) := by
  rw [runK_other hK, abody_eqN (by kernel_rfl) Tryd.func91 rfl (by kernel_rfl)]
  rw [show ([Value.pointer (some ⟨q, 0, none⟩)] ++ List.replicate (Tryd.f91.ntmps - [Value.pointer (some ⟨q, 0, none⟩)].length) undef) = [.pointer (some ⟨q, 0, none⟩), undef, undef, undef, undef, undef, undef, undef, undef, undef, undef, undef, undef, undef, undef, undef, undef, undef, undef, undef] from rfl]
  have hc0 : cellAt m q 0 = some (.pointer (some ⟨q, 0, none⟩)) := cellAt_row hq 0
  simp only [acodeN, aopsN, agd, astep, aop, ev, nth_zero, nth_succ, aput, setAt_zero, setAt_succ, Option.map_some, Option.map_none, fa86_0, load84, hc0, Nat.zero_add, Nat.add_zero, apure_binOp, isAddr, aeq84, aeq84n, Bool.not_true]
  rfl

/-- The buffer: nothing yet, or these bytes. -/
def Buf (m : Mem) (q : Nat) (l : List Int) : Prop :=
  (l = [] ∧ m[q]? = some (.row false 91 [.pointer none, .slice none 0 0])) ∨
  (∃ b, q < b ∧ m[q]? = some (.row false 91 [.pointer (some ⟨q, 0, none⟩), .slice (some ⟨b, 0, none⟩) l.length l.length]) ∧ m[b]? = some (.row false 5 (l.map (.int .u8))) ∧ l ≠ [])

/-- What lies ahead of the Builder stays. -/
def Keeps (m : Mem) (q : Nat) (m' : Mem) : Prop := ∀ k, k < q → m'[k]? = m[k]?

theorem Keeps.trans {m1 m2 m3 : Mem} {q : Nat} (h : Keeps m1 q m2) (h' : Keeps m2 q m3) : Keeps m1 q m3 := fun k hk => (h' k hk).trans (h k hk)

theorem info5 : ∃ i z, E.P.info? 5 = some i ∧ i.zero = some z ∧ i.size = 1 ∧ i.bytes = 1 ∧ z.cells.size = 1 := by
  have h : (E.P.info? 5).map (fun i => (i.size, i.bytes)) = some (1, 1) := by kernel_rfl
  have h2 : ((E.P.info? 5).bind (·.zero)).map (·.cells.size) = some 1 := by kernel_rfl
  obtain ⟨i, h1, h3⟩ := Option.map_eq_some_iff.1 h
  rw [h1] at h2
  obtain ⟨z, h4, h5⟩ := Option.map_eq_some_iff.1 h2
  simp only [Prod.mk.injEq] at h3
  exact ⟨i, z, h1, h4, h3.1, h3.2, h5⟩

theorem app_fresh {xT : TypeId} {xd : TypeDesc} (hd : E.P.underlying xT = some xd) (hi : isIntD xd = false) {x : Value} {k : Nat} {new : List Value} (hx : asrc m 1 x = some (k, new)) (ha : new.all cellOk = true) (h0 : k ≠ 0) (hb : k ≤ 1099511627776) :
    aappend E.P 35 xT (.slice none 0 0) x m = some (.slice (some ⟨m.length, 0, none⟩) k k, m ++ [.row false 5 new]) := by
  obtain ⟨i, z, h1, h2, h3, h4, h5⟩ := info5
  unfold aappend
  simp only [show E.P.underlying 35 = some (.slice 5) from Tryd.underlying35, hd, h1, h2, h3, hx, hi, ha, h4, h5]
  rw [if_neg (by simp), if_neg h0, if_pos (by omega)]

theorem app_used {xT : TypeId} {xd : TypeDesc} (hd : E.P.underlying xT = some xd) (hi : isIntD xd = false) {x : Value} {k : Nat} {new cs : List Value} {b : Nat} (hx : asrc m 1 x = some (k, new)) (ha : new.all cellOk = true) (h0 : k ≠ 0) (hb : cs.length + k ≤ 1099511627776)
    (hm : m[b]? = some (.row false 5 cs)) :
    aappend E.P 35 xT (.slice (some ⟨b, 0, none⟩) cs.length cs.length) x m = some (.slice (some ⟨m.length, 0, none⟩) (cs.length + k) (cs.length + k), m.set b .dead ++ [.row false 5 (cs ++ new)]) := by
  obtain ⟨i, z, h1, h2, h3, h4, h5⟩ := info5
  unfold aappend
  simp only [show E.P.underlying 35 = some (.slice 5) from Tryd.underlying35, hd, h1, h2, h3, hx, hi, ha, h4, h5, hm]
  rw [if_neg (by simp), if_neg (by omega), if_pos ⟨trivial, trivial, by omega, by omega⟩]
  simp

theorem app_none {xT : TypeId} {xd : TypeDesc} (hd : E.P.underlying xT = some xd) (hi : isIntD xd = false) {x : Value} {cs : List Value} {b : Nat} (hx : asrc m 1 x = some (0, []))
    (hm : m[b]? = some (.row false 5 cs)) :
    aappend E.P 35 xT (.slice (some ⟨b, 0, none⟩) cs.length cs.length) x m = some (.slice (some ⟨b, 0, none⟩) cs.length cs.length, m) := by
  obtain ⟨i, z, h1, h2, h3, h4, h5⟩ := info5
  unfold aappend
  simp only [show E.P.underlying 35 = some (.slice 5) from Tryd.underlying35, hd, h1, h2, h3, hx, hi, h4, h5, hm]
  rw [if_neg (by simp), if_pos (by omega), if_pos (by simp)]
  have hl : lay cs (0 + cs.length * 1) [] = cs := by simp [lay]
  rw [hl]
  simp only [Nat.add_zero, Option.some.injEq, Prod.mk.injEq, true_and]
  apply List.ext_getElem?
  intro j
  rw [List.getElem?_set]
  split
  · rename_i hj
    subst hj
    split
    · exact hm.symm
    · rename_i hno
      exact absurd (List.getElem?_eq_some_iff.1 hm).1 hno
  · rfl

theorem body63 {self : Self} {c : Int} {m1 m2 m3 : Mem} {bf nb : Value} (hcc : self 91 [.pointer (some ⟨q, 0, none⟩)] m = some (.tuple ⟨[]⟩, m1)) (hq : cellAt m1 q 1 = some bf)
    (happ : aappend E.P 35 35 bf (.slice (some ⟨m1.length, 0, none⟩) 1 1) (m1 ++ [.row false 5 [.int .u8 c]]) = some (nb, m2)) (hst : astore E.P 35 (.pointer (some ⟨q, 1, none⟩)) nb m2 = some m3) :
    abody E self n 68 [.pointer (some ⟨q, 0, none⟩), .int .u8 c] m = some (.nilIface, m3) := by
  rw [abody_eqN (by kernel_rfl) Tryd.func68 rfl (by kernel_rfl)]
  rw [show ([Value.pointer (some ⟨q, 0, none⟩), .int .u8 c] ++ List.replicate (Tryd.f68.ntmps - [Value.pointer (some ⟨q, 0, none⟩), .int .u8 c].length) undef) = [.pointer (some ⟨q, 0, none⟩), .int .u8 c, undef, undef, undef, undef, undef, undef, undef, undef, undef, undef, undef, undef, undef, undef, undef] from rfl]
  simp only [acodeN, aopsN, agd, astep, aop, ev, nth_zero, nth_succ, aput, setAt_zero, setAt_succ, Option.map_some, ainv, fa86_1, load35, build35, call79, wr79, hcc, hq, happ, hst, List.map_cons, List.map_nil, List.all_cons, List.all_nil, lit2, lit1, lit0, abuiltin, List.isEmpty_nil, Bool.and_self, if_true, Nat.zero_add, Bool.false_and, Bool.false_eq_true, if_false]
  rfl

theorem body65 {self : Self} {s : ByteArray} {m1 m2 m3 : Mem} {bf nb : Value} (hcc : self 91 [.pointer (some ⟨q, 0, none⟩)] m = some (.tuple ⟨[]⟩, m1)) (hq : cellAt m1 q 1 = some bf)
    (happ : aappend E.P 35 9 bf (.string s) m1 = some (nb, m2)) (hst : astore E.P 35 (.pointer (some ⟨q, 1, none⟩)) nb m2 = some m3) :
    ∃ v, abody E self n 70 [.pointer (some ⟨q, 0, none⟩), .string s] m = some (v, m3) := by
  rw [abody_eqN (by kernel_rfl) Tryd.func70 rfl (by kernel_rfl)]
  rw [show ([Value.pointer (some ⟨q, 0, none⟩), .string s] ++ List.replicate (Tryd.f70.ntmps - [Value.pointer (some ⟨q, 0, none⟩), .string s].length) undef) = [.pointer (some ⟨q, 0, none⟩), .string s, undef, undef, undef, undef, undef, undef, undef, undef, undef, undef, undef, undef, undef, undef, undef, undef, undef] from rfl]
  simp only [acodeN, aopsN, agd, astep, aop, ev, nth_zero, nth_succ, aput, setAt_zero, setAt_succ, Option.map_some, ainv, fa86_1, load35, call79, wr79, hcc, hq, happ, hst, List.map_cons, List.map_nil, List.all_cons, List.all_nil, lit2, lit1, lit0, abuiltin, List.isEmpty_nil, Bool.and_self, if_true, Nat.zero_add, Bool.false_and, Bool.false_eq_true, if_false, alen, show E.P.underlying 9 = some .string from Tryd.underlying9]
  exact ⟨_, rfl⟩

theorem src_byte (m1 : Mem) (c : Int) : asrc (m1 ++ [.row false 5 [.int .u8 c]]) 1 (.slice (some ⟨m1.length, 0, none⟩) 1 1) = some (1, [.int .u8 c]) := by
  have h : (m1 ++ [Blk.row false 5 [.int .u8 c]])[m1.length]? = some (.row false 5 [.int .u8 c]) := by simp
  unfold asrc
  simp only [lookRow h]
  rfl

theorem lt_of_at {b : Nat} {x : Blk} (h : m[b]? = some x) : b < m.length := (List.getElem?_eq_some_iff.1 h).1

theorem writeByte (hK : hasF K 91 = false) (hK' : hasF K 68 = false) {l : List Int} (c : Int) (hb : Buf m q l) (hl : l.length ≤ 1000000) :
    ∃ m', runK E mem2 K (n + 2) 68 [.pointer (some ⟨q, 0, none⟩), .int .u8 c] m = some (.nilIface, m') ∧ Buf m' q (l ++ [c]) ∧ Keeps m q m' := by
  rw [runK_other hK']
  rcases hb with ⟨rfl, hq⟩ | ⟨b, hqb, hq, hbb, hne⟩
  · have hqm := lt_of_at hq
    have hcc := copy_fresh (n := n) hK hq
    have h1 : (m.set q (.row false 91 [.pointer (some ⟨q, 0, none⟩), .slice none 0 0]))[q]? = some (.row false 91 [.pointer (some ⟨q, 0, none⟩), .slice none 0 0]) := by simp [hqm]
    generalize hm1 : m.set q (.row false 91 [.pointer (some ⟨q, 0, none⟩), .slice none 0 0]) = m1 at hcc h1
    have hlen : m1.length = m.length := by rw [← hm1]; simp
    have happ := app_fresh (m := m1 ++ [.row false 5 [.int .u8 c]]) (xT := 35) Tryd.underlying35 rfl (src_byte m1 c) rfl (by omega) (by omega)
    have h2 : (m1 ++ [.row false 5 [.int .u8 c]] ++ [.row false 5 [.int .u8 c]])[q]? = some (Blk.row false 91 [.pointer (some ⟨q, 0, none⟩), .slice none 0 0]) := by
      rw [List.getElem?_append_left (by simp; omega), List.getElem?_append_left (by omega)]
      exact h1
    have hst := store35 h2 (o := 1) (show 1 < 2 by omega) (some ⟨(m1 ++ [Blk.row false 5 [.int .u8 c]]).length, 0, none⟩) 1 1
    refine ⟨_, body63 hcc (cellAt_row h1 1) happ hst, .inr ⟨m1.length + 1, by omega, ?_, ?_, by simp⟩, fun k hk => ?_⟩
    · rw [List.getElem?_set_self (by simp; omega)]
      simp
    · rw [List.getElem?_set_ne (by omega)]
      rw [List.getElem?_append_right (by simp)]
      simp
    · rw [List.getElem?_set_ne (by omega), List.getElem?_append_left (by simp; omega), List.getElem?_append_left (by omega), ← hm1, List.getElem?_set_ne (by omega)]
  · have hqm := lt_of_at hq
    have hbm := lt_of_at hbb
    have hcc := copy_used (n := n) hK hq
    have hll : (l.map (Value.int .u8)).length = l.length := by simp
    have hb2 : (m ++ [Blk.row false 5 [.int .u8 c]])[b]? = some (.row false 5 (l.map (.int .u8))) := by rw [List.getElem?_append_left hbm]; exact hbb
    have happ := app_used (m := m ++ [.row false 5 [.int .u8 c]]) (xT := 35) Tryd.underlying35 rfl (src_byte m c) rfl (by omega) (by rw [hll]; omega) hb2
    rw [hll] at happ
    have h2 : ((m ++ [Blk.row false 5 [.int .u8 c]]).set b .dead ++ [.row false 5 (l.map (.int .u8) ++ [.int .u8 c])])[q]? = some (Blk.row false 91 [.pointer (some ⟨q, 0, none⟩), .slice (some ⟨b, 0, none⟩) l.length l.length]) := by
      rw [List.getElem?_append_left (by simp; omega), List.getElem?_set_ne (by omega), List.getElem?_append_left (by omega)]
      exact hq
    have hst := store35 h2 (o := 1) (show 1 < 2 by omega) (some ⟨(m ++ [Blk.row false 5 [.int .u8 c]]).length, 0, none⟩) (l.length + 1) (l.length + 1)
    refine ⟨_, body63 hcc (cellAt_row hq 1) happ hst, .inr ⟨m.length + 1, by omega, ?_, ?_, by simp⟩, fun k hk => ?_⟩
    · rw [List.getElem?_set_self (by simp; omega)]
      simp
    · rw [List.getElem?_set_ne (by omega)]
      rw [List.getElem?_append_right (by simp)]
      simp
    · rw [List.getElem?_set_ne (by omega), List.getElem?_append_left (by simp; omega), List.getElem?_set_ne (by omega), List.getElem?_append_left (by omega)]

def bytesI (s : ByteArray) : List Int := s.data.toList.map fun b => (b.toNat : Int)

theorem src_string (s : ByteArray) : asrc m 1 (.string s) = some (s.data.toList.length, (bytesI s).map (.int .u8)) := by
  unfold asrc bytesI
  simp

theorem all_bytes (l : List Int) : (l.map (Value.int .u8)).all cellOk = true := by
  rw [List.all_map, List.all_eq_true]
  intro x _
  rfl

theorem writeString (hK : hasF K 91 = false) (hK' : hasF K 70 = false) {l : List Int} (s : ByteArray) (hb : Buf m q l) (hne : l ≠ []) (hl : l.length ≤ 1000000) (hs : s.data.toList.length ≤ 1000000) :
    ∃ v m', runK E mem2 K (n + 2) 70 [.pointer (some ⟨q, 0, none⟩), .string s] m = some (v, m') ∧ Buf m' q (l ++ bytesI s) ∧ Keeps m q m' := by
  rw [runK_other hK']
  rcases hb with ⟨rfl, hq⟩ | ⟨b, hqb, hq, hbb, _⟩
  · exact absurd rfl hne
  · have hqm := lt_of_at hq
    have hbm := lt_of_at hbb
    have hcc := copy_used (n := n) hK hq
    have hll : (l.map (Value.int .u8)).length = l.length := by simp
    have hbl : (bytesI s).length = s.data.toList.length := by simp [bytesI]
    by_cases h0 : s.data.toList.length = 0
    · have hnil : bytesI s = [] := List.eq_nil_of_length_eq_zero (by omega)
      have hsrc := src_string (m := m) s
      rw [h0, hnil] at hsrc
      have happ := app_none (xT := 9) Tryd.underlying9 rfl hsrc hbb
      rw [hll] at happ
      have hst := store35 hq (o := 1) (show 1 < 2 by omega) (some ⟨b, 0, none⟩) l.length l.length
      obtain ⟨v, hv⟩ := body65 (n := n + 2) hcc (cellAt_row hq 1) happ hst
      refine ⟨v, _, hv, .inr ⟨b, hqb, ?_, ?_, by simp [hne]⟩, fun k hk => ?_⟩
      · rw [List.getElem?_set_self hqm, hnil]
        simp
      · rw [List.getElem?_set_ne (by omega), hnil]
        simpa using hbb
      · rw [List.getElem?_set_ne (by omega)]
    · have happ := app_used (xT := 9) Tryd.underlying9 rfl (src_string (m := m) s) (all_bytes _) h0 (by rw [hll]; omega) hbb
      rw [hll] at happ
      have h2 : (m.set b .dead ++ [.row false 5 (l.map (.int .u8) ++ (bytesI s).map (.int .u8))])[q]? = some (Blk.row false 91 [.pointer (some ⟨q, 0, none⟩), .slice (some ⟨b, 0, none⟩) l.length l.length]) := by
        rw [List.getElem?_append_left (by simp; omega), List.getElem?_set_ne (by omega)]
        exact hq
      have hst := store35 h2 (o := 1) (show 1 < 2 by omega) (some ⟨m.length, 0, none⟩) (l.length + s.data.toList.length) (l.length + s.data.toList.length)
      obtain ⟨v, hv⟩ := body65 (n := n + 2) hcc (cellAt_row hq 1) happ hst
      refine ⟨v, _, hv, .inr ⟨m.length, by omega, ?_, ?_, by simp [hne]⟩, fun k hk => ?_⟩
      · rw [List.getElem?_set_self (by simp; omega)]
        simp [hbl]
      · rw [List.getElem?_set_ne (by omega)]
        rw [List.getElem?_append_right (by simp)]
        simp
      · rw [List.getElem?_set_ne (by omega), List.getElem?_append_left (by simp; omega), List.getElem?_set_ne (by omega)]
end
end Go.Am.Seat
