/-
  Texts of my own, put together: V, W, X, Y, O, O2, O3, O4, M1, M2, M3, M4, M5.
-/
import Derived.Test.YtmllcnlfocbdjaaGrWireReads9
import Derived.Test.YtmllcnlfocbdjaaGrWireReads7
import Derived.Lib.UnsafeStr
import Derived.Test.YtmllcnlfocbdjaaGrWireReads8
/-
  The Builder's methods on the abstract machine, for any bytes (own work).
-/
set_option linter.unusedSimpArgs false
set_option linter.unusedVariables false
namespace Go.Am.Seat
open Go.Proofs Go.Am
set_option maxRecDepth 100000

theorem fa86_0 (b o : Nat) : afieldAddr E.P 76 (.pointer (some ⟨b, o, none⟩)) 0 = some (.pointer (some ⟨b, o + 0, none⟩)) := by kernel_rfl
theorem fa86_1 (b o : Nat) : afieldAddr E.P 76 (.pointer (some ⟨b, o, none⟩)) 1 = some (.pointer (some ⟨b, o + 1, none⟩)) := by kernel_rfl
theorem load35 (b o : Nat) (m : Mem) : aload E.P 48 (.pointer (some ⟨b, o, none⟩)) m = cellAt m b o := aload_cell Try.underlying48 rfl b o m
theorem load84 (b o : Nat) (m : Mem) : aload E.P 74 (.pointer (some ⟨b, o, none⟩)) m = cellAt m b o := aload_cell Try.underlying74 rfl b o m
theorem build35 (c : Int) (m : Mem) : abuildSlice E.P 48 1 [(0, .int .u8 c)] m = some (.slice (some ⟨m.length, 0, none⟩) 1 1, m ++ [.row false 5 [.int .u8 c]]) := by kernel_rfl
theorem call79 : callableB E.P 52 = true := by kernel_rfl
theorem wr79 : E.wr 52 = true := by kernel_rfl
theorem call94 : callableB E.P 54 = false := by kernel_rfl
theorem ext94 : E.ext 54 = some .same := by kernel_rfl
theorem conv84 (q : Nat) : aconv E.P 74 95 (.pointer (some ⟨q, 0, none⟩)) = none := by kernel_rfl
theorem conv127 (q : Nat) : aconv E.P 95 74 (.pointer (some ⟨q, 0, none⟩)) = none := by kernel_rfl
theorem convB84 (q : Nat) (m : Mem) : aconvB E.P 74 95 (.pointer (some ⟨q, 0, none⟩)) m = none := by kernel_rfl
theorem convB127 (q : Nat) (m : Mem) : aconvB E.P 95 74 (.pointer (some ⟨q, 0, none⟩)) m = none := by kernel_rfl
theorem info86 : ∃ i, E.P.info? 76 = some i ∧ i.size ≠ 0 := by
  have h : (E.P.info? 76).map (·.size) = some 2 := by kernel_rfl
  obtain ⟨i, h1, h2⟩ := Option.map_eq_some_iff.1 h
  exact ⟨i, h1, by omega⟩
theorem info84 : ∃ i, E.P.info? 74 = some i ∧ i.size = 1 := by
  have h : (E.P.info? 74).map (·.size) = some 1 := by kernel_rfl
  exact Option.map_eq_some_iff.1 h
theorem info35 : ∃ i, E.P.info? 48 = some i ∧ i.size = 1 := by
  have h : (E.P.info? 48).map (·.size) = some 1 := by kernel_rfl
  exact Option.map_eq_some_iff.1 h
theorem aeq84 (a : Addr) : aeq E.P 74 (.pointer (some a)) (.pointer (some a)) = some true := by
  obtain ⟨i, h1, h2⟩ := info86
  exact aeq_same Try.underlying74 h1 h2 a
theorem aeq84n (a : Addr) : aeq E.P 74 (.pointer (some a)) (.pointer none) = some false := by kernel_rfl
theorem ptr84 {m : Mem} {q : Nat} {cs : List Value} (h : m[q]? = some (.row false 76 cs)) (hc : cs.length = 2) : aptr E.P 74 95 (.pointer (some ⟨q, 0, none⟩)) m = some (.pointer (some ⟨q, 0, none⟩)) := by
  obtain ⟨i, h1, h2⟩ := info86
  exact aptr_to Try.underlying74 Try.underlying95 h1 h2 h (by omega)
theorem ptr127 {m : Mem} {q : Nat} {cs : List Value} (h : m[q]? = some (.row false 76 cs)) (hc : cs.length = 2) : aptr E.P 95 74 (.pointer (some ⟨q, 0, none⟩)) m = some (.pointer (some ⟨q, 0, none⟩)) := by
  obtain ⟨i, h1, h2⟩ := info86
  exact aptr_from Try.underlying95 Try.underlying74 h1 h2 h (by rw [hc]; kernel_rfl)
theorem store84 {m : Mem} {q o : Nat} {cs : List Value} (h : m[q]? = some (.row false 76 cs)) (ho : o < cs.length) (a : Option Addr) : astore E.P 74 (.pointer (some ⟨q, o, none⟩)) (.pointer a) m = some (m.set q (.row false 76 (cs.set o (.pointer a)))) := by
  obtain ⟨i, h1, h2⟩ := info84
  exact astore_cell h1 h2 h ho rfl
theorem store35 {m : Mem} {q o : Nat} {cs : List Value} (h : m[q]? = some (.row false 76 cs)) (ho : o < cs.length) (a : Option Addr) (n c : Nat) : astore E.P 48 (.pointer (some ⟨q, o, none⟩)) (.slice a n c) m = some (m.set q (.row false 76 (cs.set o (.slice a n c)))) := by
  obtain ⟨i, h1, h2⟩ := info35
  exact astore_cell h1 h2 h ho rfl

section
variable {K : List Fact} {n q : Nat} {m : Mem}

theorem copy_fresh (hK : hasF K 52 = false) {bf : Value} (hq : m[q]? = some (.row false 76 [.pointer none, bf])) :
    runK E mem2 K (n + 1) 52 [.pointer (some ⟨q, 0, none⟩)] m = some (.tuple ⟨[]⟩, m.set q (.row false 76 [.pointer (some ⟨q, 0, none⟩), bf])) := by
  rw [runK_other hK, abody_eqN (by kernel_rfl) Try.func52 rfl (by kernel_rfl)]
  rw [show ([Value.pointer (some ⟨q, 0, none⟩)] ++ List.replicate (Try.f52.ntmps - [Value.pointer (some ⟨q, 0, none⟩)].length) undef) = [.pointer (some ⟨q, 0, none⟩), undef, undef, undef, undef, undef, undef, undef, undef, undef, undef, undef, undef, undef, undef, undef, undef, undef, undef, undef] from rfl]
  have hc0 : cellAt m q 0 = some (.pointer none) := cellAt_row hq 0
  have hp : ∀ (v2 v3 v4 : Value) (pos : String) (af : Array Edge), apureC E.P [.pointer (some ⟨q, 0, none⟩), undef, v2, v3, v4, .pointer none, undef, undef, undef, undef, undef, undef, undef, undef, undef, undef, undef, undef, undef, undef]
      { dst := some 6, op := .binOp .eql 74 (.tmp 5) (.const (.pointer none)) 74, type := 4, pos := pos, after := af, guard := none } = some (.bool true) := by
    intro v2 v3 v4 pos af
    kernel_rfl
  simp only [acodeN, aopsN, agd, astep, aop, ev, nth_zero, nth_succ, aput, setAt_zero, setAt_succ, Option.map_some, Option.map_none, fa86_0, load84, hc0, hp, Nat.zero_add, Nat.add_zero, call94, ext94, conv84, conv127, convB84, convB127, ptr84 hq rfl, ptr127 hq rfl, apure_convert, apure_binOp, isAddr, List.isEmpty_nil, Bool.and_self, if_true, aext, List.map_cons, List.map_nil, store84 hq (show 0 < 2 by omega)]
  rfl

theorem copy_used (hK : hasF K 52 = false) {bf : Value} (hq : m[q]? = some (.row false 76 [.pointer (some ⟨q, 0, none⟩), bf])) :
    runK E mem2 K (n + 1) 52 [.pointer (some ⟨q, 0, none⟩)] m = some (.tuple ⟨[]⟩, m) := by
  rw [runK_other hK, abody_eqN (by kernel_rfl) Try.func52 rfl (by kernel_rfl)]
  rw [show ([Value.pointer (some ⟨q, 0, none⟩)] ++ List.replicate (Try.f52.ntmps - [Value.pointer (some ⟨q, 0, none⟩)].length) undef) = [.pointer (some ⟨q, 0, none⟩), undef, undef, undef, undef, undef, undef, undef, undef, undef, undef, undef, undef, undef, undef, undef, undef, undef, undef, undef] from rfl]
  have hc0 : cellAt m q 0 = some (.pointer (some ⟨q, 0, none⟩)) := cellAt_row hq 0
  simp only [acodeN, aopsN, agd, astep, aop, ev, nth_zero, nth_succ, aput, setAt_zero, setAt_succ, Option.map_some, Option.map_none, fa86_0, load84, hc0, Nat.zero_add, Nat.add_zero, apure_binOp, isAddr, aeq84, aeq84n, Bool.not_true]
  rfl

/-- The buffer: nothing yet, or these bytes. -/
def Buf (m : Mem) (q : Nat) (l : List Int) : Prop :=
  (l = [] ∧ m[q]? = some (.row false 76 [.pointer none, .slice none 0 0])) ∨
  (∃ b, q < b ∧ m[q]? = some (.row false 76 [.pointer (some ⟨q, 0, none⟩), .slice (some ⟨b, 0, none⟩) l.length l.length]) ∧ m[b]? = some (.row false 5 (l.map (.int .u8))) ∧ l ≠ [])

/-- What lies ahead of the Builder stays. -/
def Keeps (m : Mem) (q : Nat) (m' : Mem) : Prop := ∀ k, k < q → m'[k]? = m[k]?

theorem Keeps.trans {m1 m2 m3 : Mem} {q : Nat} (h : Keeps m1 q m2) (h' : Keeps m2 q m3) : Keeps m1 q m3 := fun k hk => (h' k hk).trans (h k hk)

theorem info5 : ∃ i z, E.P.info? 5 = some i ∧ i.zero = some z ∧ i.size = 1 ∧ i.bytes = 1 ∧ z.cells.size = 1 := by
  have h : (E.P.info? 5).map (fun i => (i.size, i.bytes)) = some (1, 1) := by kernel_rfl
  have h2 : ((E.P.info? 5).bind (·.zero)).map (·.cells.size) = some 1 := by kernel_rfl
  obtain ⟨i, h1, h3⟩ := Option.map_eq_some_iff.1 h
  rw [h1] at h2
  obtain ⟨z, h4, h5⟩ := Option.map_eq_some_iff.1 h2
  simp only [Prod.mk.injEq] at h3
  exact ⟨i, z, h1, h4, h3.1, h3.2, h5⟩

theorem app_fresh {xT : TypeId} {xd : TypeDesc} (hd : E.P.underlying xT = some xd) (hi : isIntD xd = false) {x : Value} {k : Nat} {new : List Value} (hx : asrc m 1 x = some (k, new)) (ha : new.all cellOk = true) (h0 : k ≠ 0) (hb : k ≤ 1099511627776) :
    aappend E.P 48 xT (.slice none 0 0) x m = some (.slice (some ⟨m.length, 0, none⟩) k k, m ++ [.row false 5 new]) := by
  obtain ⟨i, z, h1, h2, h3, h4, h5⟩ := info5
  unfold aappend
  simp only [show E.P.underlying 48 = some (.slice 5) from Try.underlying48, hd, h1, h2, h3, hx, hi, ha, h4, h5]
  rw [if_neg (by simp), if_neg h0, if_pos (by omega)]

theorem app_used {xT : TypeId} {xd : TypeDesc} (hd : E.P.underlying xT = some xd) (hi : isIntD xd = false) {x : Value} {k : Nat} {new cs : List Value} {b : Nat} (hx : asrc m 1 x = some (k, new)) (ha : new.all cellOk = true) (h0 : k ≠ 0) (hb : cs.length + k ≤ 1099511627776)
    (hm : m[b]? = some (.row false 5 cs)) :
    aappend E.P 48 xT (.slice (some ⟨b, 0, none⟩) cs.length cs.length) x m = some (.slice (some ⟨m.length, 0, none⟩) (cs.length + k) (cs.length + k), m.set b .dead ++ [.row false 5 (cs ++ new)]) := by
  obtain ⟨i, z, h1, h2, h3, h4, h5⟩ := info5
  unfold aappend
  simp only [show E.P.underlying 48 = some (.slice 5) from Try.underlying48, hd, h1, h2, h3, hx, hi, ha, h4, h5, hm]
  rw [if_neg (by simp), if_neg (by omega), if_pos ⟨trivial, trivial, by omega, by omega⟩]
  simp

theorem app_none {xT : TypeId} {xd : TypeDesc} (hd : E.P.underlying xT = some xd) (hi : isIntD xd = false) {x : Value} {cs : List Value} {b : Nat} (hx : asrc m 1 x = some (0, []))
    (hm : m[b]? = some (.row false 5 cs)) :
    aappend E.P 48 xT (.slice (some ⟨b, 0, none⟩) cs.length cs.length) x m = some (.slice (some ⟨b, 0, none⟩) cs.length cs.length, m) := by
  obtain ⟨i, z, h1, h2, h3, h4, h5⟩ := info5
  unfold aappend
  simp only [show E.P.underlying 48 = some (.slice 5) from Try.underlying48, hd, h1, h2, h3, hx, hi, h4, h5, hm]
  rw [if_neg (by simp), if_pos (by omega), if_pos (by simp)]
  have hl : lay cs (0 + cs.length * 1) [] = cs := by simp [lay]
  rw [hl]
  simp only [Nat.add_zero, Option.some.injEq, Prod.mk.injEq, true_and]
  apply List.ext_getElem?
  intro j
  rw [List.getElem?_set]
  split
  · rename_i hj
    subst hj
    split
    · exact hm.symm
    · rename_i hno
      exact absurd (List.getElem?_eq_some_iff.1 hm).1 hno
  · rfl

theorem body65 {self : Self} {s : ByteArray} {m1 m2 m3 : Mem} {bf nb : Value} (hcc : self 52 [.pointer (some ⟨q, 0, none⟩)] m = some (.tuple ⟨[]⟩, m1)) (hq : cellAt m1 q 1 = some bf)
    (happ : aappend E.P 48 9 bf (.string s) m1 = some (nb, m2)) (hst : astore E.P 48 (.pointer (some ⟨q, 1, none⟩)) nb m2 = some m3) :
    ∃ v, abody E self n 35 [.pointer (some ⟨q, 0, none⟩), .string s] m = some (v, m3) := by
  rw [abody_eqN (by kernel_rfl) Try.func35 rfl (by kernel_rfl)]
  rw [show ([Value.pointer (some ⟨q, 0, none⟩), .string s] ++ List.replicate (Try.f35.ntmps - [Value.pointer (some ⟨q, 0, none⟩), .string s].length) undef) = [.pointer (some ⟨q, 0, none⟩), .string s, undef, undef, undef, undef, undef, undef, undef, undef, undef, undef, undef, undef, undef, undef, undef, undef, undef] from rfl]
  simp only [acodeN, aopsN, agd, astep, aop, ev, nth_zero, nth_succ, aput, setAt_zero, setAt_succ, Option.map_some, ainv, fa86_1, load35, call79, wr79, hcc, hq, happ, hst, List.map_cons, List.map_nil, List.all_cons, List.all_nil, lit2, lit1, lit0, abuiltin, List.isEmpty_nil, Bool.and_self, if_true, Nat.zero_add, Bool.false_and, Bool.false_eq_true, if_false, alen, show E.P.underlying 9 = some .string from Try.underlying9]
  exact ⟨_, rfl⟩

theorem src_byte (m1 : Mem) (c : Int) : asrc (m1 ++ [.row false 5 [.int .u8 c]]) 1 (.slice (some ⟨m1.length, 0, none⟩) 1 1) = some (1, [.int .u8 c]) := by
  have h : (m1 ++ [Blk.row false 5 [.int .u8 c]])[m1.length]? = some (.row false 5 [.int .u8 c]) := by simp
  unfold asrc
  simp only [lookRow h]
  rfl

theorem lt_of_at {b : Nat} {x : Blk} (h : m[b]? = some x) : b < m.length := (List.getElem?_eq_some_iff.1 h).1

def bytesI (s : ByteArray) : List Int := s.data.toList.map fun b => (b.toNat : Int)

theorem src_string (s : ByteArray) : asrc m 1 (.string s) = some (s.data.toList.length, (bytesI s).map (.int .u8)) := by
  unfold asrc bytesI
  simp

theorem all_bytes (l : List Int) : (l.map (Value.int .u8)).all cellOk = true := by
  rw [List.all_map, List.all_eq_true]
  intro x _
  rfl

theorem writeString (hK : hasF K 52 = false) (hK' : hasF K 35 = false) {l : List Int} (s : ByteArray) (hb : Buf m q l) (hne : l ≠ []) (hl : l.length ≤ 1000000) (hs : s.data.toList.length ≤ 1000000) :
    ∃ v m', runK E mem2 K (n + 2) 35 [.pointer (some ⟨q, 0, none⟩), .string s] m = some (v, m') ∧ Buf m' q (l ++ bytesI s) ∧ Keeps m q m' := by
  rw [runK_other hK']
  rcases hb with ⟨rfl, hq⟩ | ⟨b, hqb, hq, hbb, _⟩
  · exact absurd rfl hne
  · have hqm := lt_of_at hq
    have hbm := lt_of_at hbb
    have hcc := copy_used (n := n) hK hq
    have hll : (l.map (Value.int .u8)).length = l.length := by simp
    have hbl : (bytesI s).length = s.data.toList.length := by simp [bytesI]
    by_cases h0 : s.data.toList.length = 0
    · have hnil : bytesI s = [] := List.eq_nil_of_length_eq_zero (by omega)
      have hsrc := src_string (m := m) s
      rw [h0, hnil] at hsrc
      have happ := app_none (xT := 9) Try.underlying9 rfl hsrc hbb
      rw [hll] at happ
      have hst := store35 hq (o := 1) (show 1 < 2 by omega) (some ⟨b, 0, none⟩) l.length l.length
      obtain ⟨v, hv⟩ := body65 (n := n + 2) hcc (cellAt_row hq 1) happ hst
      refine ⟨v, _, hv, .inr ⟨b, hqb, ?_, ?_, by simp [hne]⟩, fun k hk => ?_⟩
      · rw [List.getElem?_set_self hqm, hnil]
        simp
      · rw [List.getElem?_set_ne (by omega), hnil]
        simpa using hbb
      · rw [List.getElem?_set_ne (by omega)]
    · have happ := app_used (xT := 9) Try.underlying9 rfl (src_string (m := m) s) (all_bytes _) h0 (by rw [hll]; omega) hbb
      rw [hll] at happ
      have h2 : (m.set b .dead ++ [.row false 5 (l.map (.int .u8) ++ (bytesI s).map (.int .u8))])[q]? = some (Blk.row false 76 [.pointer (some ⟨q, 0, none⟩), .slice (some ⟨b, 0, none⟩) l.length l.length]) := by
        rw [List.getElem?_append_left (by simp; omega), List.getElem?_set_ne (by omega)]
        exact hq
      have hst := store35 h2 (o := 1) (show 1 < 2 by omega) (some ⟨m.length, 0, none⟩) (l.length + s.data.toList.length) (l.length + s.data.toList.length)
      obtain ⟨v, hv⟩ := body65 (n := n + 2) hcc (cellAt_row hq 1) happ hst
      refine ⟨v, _, hv, .inr ⟨m.length, by omega, ?_, ?_, by simp [hne]⟩, fun k hk => ?_⟩
      · rw [List.getElem?_set_self (by simp; omega)]
        simp [hbl]
      · rw [List.getElem?_set_ne (by omega)]
        rw [List.getElem?_append_right (by simp)]
        simp
      · rw [List.getElem?_set_ne (by omega), List.getElem?_append_left (by simp; omega), List.getElem?_set_ne (by omega)]
end
end Go.Am.Seat

/-
  The Builder's String on the abstract machine (own work).
-/
set_option linter.unusedSimpArgs false
set_option linter.unusedVariables false
namespace Go.Am.Seat
open Go.Proofs Go.Am
set_option maxRecDepth 100000

noncomputable def ops64 : Array Oper := match Try.f36.body with
  | some (.seq _ (.seq (.region _ ops _) _)) => ops
  | _ => #[]
noncomputable def ops64a : Array Oper := match Try.f36.body with
  | some (.seq (.region _ ops _) _) => ops
  | _ => #[]
theorem body64 : Try.f36.body = some (.seq (.region 0 ops64a false) (.seq (.region 1 ops64 true) .ret)) := rfl

theorem bytesOf_map : ∀ (l : List Int), bytesOf (l.map (.int .u8)) = some (l.map fun n => UInt8.ofNat n.toNat)
  | [] => rfl
  | a :: l => by
    simp only [List.map_cons, bytesOf, bytesOf_map l]

theorem E_strict : E.strict = true := rfl

section
variable {K : List Fact} {n q : Nat} {m : Mem}

theorem usString {b : Nat} {l : List Int} (hb : m[b]? = some (.row false 5 (l.map (.int .u8)))) (h0 : l ≠ []) (hl : l.length ≤ 10000000) :
    ausString E.P 94 (.pointer (some ⟨b, 0, none⟩)) (.int .i64 (l.length : Nat)) m = some (.string ⟨(l.map fun n => UInt8.ofNat n.toNat).toArray⟩, m.set b (.row true 5 (l.map (.int .u8)))) := by
  have hlen : 0 < l.length := List.length_pos_iff.2 h0
  unfold ausString
  simp only [hb, show E.P.underlying 94 = some (.pointer 5) from Try.underlying94]
  rw [if_neg (by omega), if_pos (by omega)]
  have hc : E.P.cellsOf 5 = 1 := by kernel_rfl
  have hlies : liesAt E.P E.P.depth 5 ((l.map (Value.int .u8)).length / E.P.cellsOf 5) 0 5 ((l.length : Nat) : Int).toNat = true := Lib.liesAt_bytes hc _ _ (by rw [hc]; simp)
  rw [if_pos ⟨hlies, by simp⟩]
  have ht : ((l.map (Value.int .u8)).drop 0).take ((l.length : Nat) : Int).toNat = l.map (.int .u8) := by
    rw [List.drop_zero, List.take_of_length_le (by simp)]
  rw [ht, bytesOf_map]

theorem stringOf (hK : hasF K 36 = false) {l : List Int} (hb : Buf m q l) (hne : l ≠ []) (hl : l.length ≤ 10000000) :
    ∃ m', runK E mem2 K (n + 1) 36 [.pointer (some ⟨q, 0, none⟩)] m = some (.string ⟨(l.map fun n => UInt8.ofNat n.toNat).toArray⟩, m') := by
  rw [runK_other hK, abody_eqN (by kernel_rfl) Try.func36 body64 (by kernel_rfl)]
  rcases hb with ⟨rfl, hq⟩ | ⟨b, hqb, hq, hbb, _⟩
  · exact absurd rfl hne
  rw [show ([Value.pointer (some ⟨q, 0, none⟩)] ++ List.replicate (Try.f36.ntmps - [Value.pointer (some ⟨q, 0, none⟩)].length) undef) = [.pointer (some ⟨q, 0, none⟩), undef, undef, undef, undef, undef, undef, undef, undef, undef, undef, undef, undef, undef] from rfl]
  have hqs : (m.map sealed)[q]? = some (.row true 76 [.pointer (some ⟨q, 0, none⟩), .slice (some ⟨b, 0, none⟩) l.length l.length]) := by
    rw [List.getElem?_map, hq]
    rfl
  have hc : cellAt (m.map sealed) q 1 = some (.slice (some ⟨b, 0, none⟩) l.length l.length) := cellAt_row hqs 1
  have hl0 : ¬ l.length = 0 := fun h => hne (List.eq_nil_of_length_eq_zero h)
  have e3 : earlyB E.P E.wr ops64 3 = false := by kernel_rfl
  have e4 : earlyB E.P E.wr ops64 4 = false := by kernel_rfl
  have e8 : earlyB E.P E.wr ops64 8 = false := by kernel_rfl
  have l3 : looseB E.P E.wr ops64 3 = false := by kernel_rfl
  have l4 : looseB E.P E.wr ops64 4 = false := by kernel_rfl
  have l8 : looseB E.P E.wr ops64 8 = false := by kernel_rfl
  have hops : ops64.toList = ops64.toList := rfl
  conv at hops => rhs; simp only [ops64, Try.f36]
  have hopsa : ops64a.toList = ops64a.toList := rfl
  conv at hopsa => rhs; simp only [ops64a, Try.f36]
  simp only [acodeN, aopsN, hopsa, hops, adrawN, agd, cls, astep, aop, afloat, ev, nth_zero, nth_succ, aput, setAt_zero, setAt_succ, Option.map_some, fa86_1, load35, hc, e3, e4, e8, l3, l4, l8, abuiltin, List.map_cons, List.map_nil, Nat.zero_add, Bool.not_false, Bool.or_true, Bool.true_or, if_true, List.length_map, if_neg hl0, alen, show E.P.underlying 48 = some (.slice 5) from Try.underlying48, usString hbb hne hl]
  exact ⟨_, rfl⟩
end
end Go.Am.Seat

/-
  Counted on the abstract machine, for any texts (own work).
-/
set_option linter.unusedSimpArgs false
set_option linter.unusedVariables false
namespace Go.Am.Seat
open Go.Proofs Go.Am
set_option maxRecDepth 100000

theorem load9 (b o : Nat) (m : Mem) : aload E.P 9 (.pointer (some ⟨b, o, none⟩)) m = cellAt m b o := aload_cell Try.underlying9 rfl b o m
theorem call64 : callableB E.P 36 = true := by kernel_rfl
theorem call65 : callableB E.P 35 = true := by kernel_rfl
theorem wr64 : E.wr 36 = true := by kernel_rfl
theorem wr65 : E.wr 35 = true := by kernel_rfl
theorem shr8 (k : Int) : abin .shr .u16 k .u64 8 = some (.int .u16 (k.fdiv 256)) := by kernel_rfl
theorem add1 (k : Int) : abin .add .i64 k .i64 1 = some (.int .i64 (wrapF .i64 (k + 1))) := by kernel_rfl
theorem lss64 (a b : Int) : abin .lss .i64 a .i64 b = some (.bool (decide (a < b))) := by kernel_rfl

section
variable {self : Self} {nf p q : Nat} {m m1 m2 m3 : Mem}

end
end Go.Am.Seat

/-
  Counted on the abstract machine: all rounds (own work).
-/
set_option linter.unusedSimpArgs false
set_option linter.unusedVariables false
namespace Go.Am.Seat
open Go.Proofs Go.Am
set_option maxRecDepth 100000

/-- One part with its length. -/
def counted1 (s : ByteArray) : List Int := [(((s.data.toList.length : Nat) : Int) % 65536).fdiv 256 % 256, ((s.data.toList.length : Nat) : Int) % 65536 % 256] ++ bytesI s

def Shape (pv : Value) (q : Nat) (L i : Int) (T : List Value) : Prop := ∃ t1 t2 t4 t5 t6 t10 t11 t12 t13 t14 t15 t16 t17 t18 t19 t20 t21 t22 t23 t24 t25 t26 : Value, T = [pv, t1, t2, .pointer (some ⟨q, 0, none⟩), t4, t5, t6, pv, .int .i64 L, .int .i64 i, t10, t11, t12, t13, t14, t15, t16, t17, t18, t19, t20, t21, t22, t23, t24, t25, t26]

theorem idx91 (p L i : Nat) (h : i < L) : aindexAddr E.P 23 (.slice (some ⟨p, 0, none⟩) L L) (.int .i64 (i : Nat)) = some (.pointer (some ⟨p, i, none⟩)) := by
  have h9 : (E.P.info? 9).map (·.size) = some 1 := by kernel_rfl
  obtain ⟨e, h1, h2⟩ := Option.map_eq_some_iff.1 h9
  unfold aindexAddr
  simp only [show E.P.underlying 23 = some (.slice 9) from Try.underlying23, h1]
  rw [if_pos (by omega), h2]
  simp

theorem wrap64 (i : Nat) (h : i < 1000000) : wrapF .i64 ((i : Int) + 1) = ((i + 1 : Nat) : Int) := by
  simp only [wrapF]
  rw [if_neg (by omega)]
  omega

section
variable {K : List Fact} {n nf p q : Nat} {m : Mem}

theorem alloc86 (m : Mem) : aalloc E.P 76 m = some (.pointer (some ⟨m.length, 0, none⟩), m ++ [.row false 76 [.pointer none, .slice none 0 0]]) := by kernel_rfl

end
end Go.Am.Seat

/-
  ref's Hex on the abstract machine (own work).
-/
set_option linter.unusedSimpArgs false
set_option linter.unusedVariables false
namespace Go.Am.Seat
open Go.Proofs Go.Am
set_option maxRecDepth 100000

def hexd (n : Nat) : UInt8 := if n < 10 then UInt8.ofNat (48 + n) else UInt8.ofNat (87 + n)
def hexOf (l : List UInt8) : List UInt8 := l.flatMap fun b => [hexd (b.toNat / 16), hexd (b.toNat % 16)]
def bytesOfL (l : List UInt8) : ByteArray := ⟨l.toArray⟩
theorem bytesOfL_list (l : List UInt8) : (bytesOfL l).data.toList = l := rfl
theorem ba_eq {a b : ByteArray} (h : a.data.toList = b.data.toList) : a = b := by
  obtain ⟨⟨a⟩⟩ := a
  obtain ⟨⟨b⟩⟩ := b
  simp only at h
  rw [h]
theorem ba_append (a b : ByteArray) : (a ++ b).data.toList = a.data.toList ++ b.data.toList := by
  rw [ByteArray.data_append]; simp
theorem ba_size (a : ByteArray) : a.size = a.data.toList.length := rfl
abbrev digitsS : ByteArray := ⟨#[48, 49, 50, 51, 52, 53, 54, 55, 56, 57, 97, 98, 99, 100, 101, 102]⟩
theorem dig_slice : ∀ k : Nat, k < 16 → sliceS digitsS (k : Nat) ((k + 1 : Nat) : Int) = some (.string (bytesOfL [hexd k]))
  | 0, _ => by rfl
  | 1, _ => by rfl
  | 2, _ => by rfl
  | 3, _ => by rfl
  | 4, _ => by rfl
  | 5, _ => by rfl
  | 6, _ => by rfl
  | 7, _ => by rfl
  | 8, _ => by rfl
  | 9, _ => by rfl
  | 10, _ => by rfl
  | 11, _ => by rfl
  | 12, _ => by rfl
  | 13, _ => by rfl
  | 14, _ => by rfl
  | 15, _ => by rfl
  | k + 16, h => absurd h (by omega)

theorem und9 : E.P.underlying 9 = some .string := Try.underlying9
theorem und5 : E.P.underlying 5 = some (.int .u8) := Try.underlying5
theorem und4 : E.P.underlying 4 = some .bool := Try.underlying4
theorem und3 : E.P.underlying 3 = some (.int .i64) := Try.underlying3
theorem bw3 (b : UInt8) : wrapF .i64 ((b.toNat : Nat) : Int) = ((b.toNat : Nat) : Int) := by
  have := b.toNat_lt
  exact wrap_i64 (by omega) (by omega)
theorem bq3 (b : UInt8) : wrapF .i64 (((b.toNat : Nat) : Int).tdiv 16) = ((b.toNat / 16 : Nat) : Int) := by
  have := b.toNat_lt
  rw [Int.tdiv_eq_ediv_of_nonneg (by omega), wrap_i64 (by omega) (by omega)]
  omega
theorem br3 (b : UInt8) : ((b.toNat : Nat) : Int).tmod 16 = ((b.toNat % 16 : Nat) : Int) := by
  rw [Int.tmod_eq_emod_of_nonneg (by omega)]
  omega
theorem w1 {i : Nat} (h : i < 1000000000) : wrapF .i64 ((i : Int) + 1) = ((i + 1 : Nat) : Int) := by
  rw [wrap_i64 (by omega) (by omega)]
  omega
theorem add64' (a b : Int) : abin .add .i64 a .i64 b = some (.int .i64 (wrapF .i64 (a + b))) := by kernel_rfl
theorem conv5_3 (k : Int) : aconv E.P 5 3 (.int .u8 k) = some (.int .i64 (wrapF .i64 k)) := by kernel_rfl
theorem quo16 (k : Int) : abin .quo .i64 k .i64 16 = some (.int .i64 (wrapF .i64 (k.tdiv 16))) := by kernel_rfl
theorem rem16 (k : Int) : abin .rem .i64 k .i64 16 = some (.int .i64 (k.tmod 16)) := by kernel_rfl
theorem index9 {s : ByteArray} {i : Nat} {b : UInt8} (h : s.data.toList[i]? = some b) : aindex E.P 9 (.string s) (.int .i64 (i : Nat)) = some (.int .u8 (b.toNat : Int)) := by
  unfold aindex
  simp only [und9]
  rw [if_pos (by omega), Int.toNat_natCast, h]

-- ntmps 35

section
variable {self : Self} {nf : Nat} {m : Mem} {F : Nat → Value} {s out : ByteArray} {i : Nat}

theorem hexOf_length (l : List UInt8) : (hexOf l).length = 2 * l.length := by
  induction l with
  | nil => rfl
  | cons a l ih =>
    show ([hexd (a.toNat / 16), hexd (a.toNat % 16)] ++ hexOf l).length = _
    simp [ih]
    omega

theorem hexOf_step {l : List UInt8} {i : Nat} {b : UInt8} (h : l[i]? = some b) : hexOf (l.take (i + 1)) = hexOf (l.take i) ++ [hexd (b.toNat / 16)] ++ [hexd (b.toNat % 16)] := by
  rw [List.take_add_one, h]
  simp [hexOf]

end
end Go.Am.Seat

/-
  Two, digit and Parse on the abstract machine (own work).
-/
set_option linter.unusedSimpArgs false
set_option linter.unusedVariables false
namespace Go.Am.Seat
open Go.Proofs Go.Am
set_option maxRecDepth 100000

-- ntmps 10
-- ntmps 21
-- ntmps 54

theorem geq8 (a b : Int) : abin .geq .u8 a .u8 b = some (.bool (decide (a ≥ b))) := by kernel_rfl
theorem leq8 (a b : Int) : abin .leq .u8 a .u8 b = some (.bool (decide (a ≤ b))) := by kernel_rfl
theorem sub8 (a b : Int) : abin .sub .u8 a .u8 b = some (.int .u8 (wrapF .u8 (a - b))) := by kernel_rfl
theorem add8 (a b : Int) : abin .add .u8 a .u8 b = some (.int .u8 (wrapF .u8 (a + b))) := by kernel_rfl
theorem quo256 (k : Int) : abin .quo .i64 k .i64 256 = some (.int .i64 (wrapF .i64 (k.tdiv 256))) := by kernel_rfl
theorem conv3_5 (k : Int) : aconv E.P 3 5 (.int .i64 k) = some (.int .u8 (k % 256)) := by kernel_rfl
theorem build35_2 (a b : Int) (m : Mem) : abuildSlice E.P 48 2 [(0, .int .u8 a), (1, .int .u8 b)] m = some (.slice (some ⟨m.length, 0, none⟩) 2 2, m ++ [.row false 5 [.int .u8 a, .int .u8 b]]) := by kernel_rfl
theorem aconv35 (a : Addr) (n c : Nat) : aconv E.P 48 9 (.slice (some a) n c) = none := by kernel_rfl
theorem conv35_str {m : Mem} {b n c : Nat} {ro : Bool} {e : TypeId} {l : List Int} {cs : List Value} (hm : m[b]? = some (.row ro e cs)) (hcs : cs.take n = l.map (.int .u8)) (hn : n ≤ cs.length) :
    aconvB E.P 48 9 (.slice (some ⟨b, 0, none⟩) n c) m = some (.string (bytesOfL (l.map fun n => UInt8.ofNat n.toNat)), m) := by
  unfold aconvB
  simp only [show E.P.underlying 48 = some (.slice 5) from Try.underlying48, und9, und5]
  have hs : asrc m 1 (.slice (some ⟨b, 0, none⟩) n c) = some (n, l.map (.int .u8)) := by
    unfold asrc
    simp only [lookRow hm]
    rw [if_pos (by omega), List.drop_zero, Nat.mul_one, hcs]
  rw [hs]
  simp only [bytesOf_map]
  rfl

section
variable {self : Self} {nf : Nat} {m : Mem} {F : Nat → Value} {s out : ByteArray} {i : Nat}

/-- What a digit is. -/
def digitV (c : Nat) : Nat := if 48 ≤ c ∧ c ≤ 57 then c - 48 else if 97 ≤ c ∧ c ≤ 102 then c - 87 else 0
def digitB (c : Nat) : Bool := decide (48 ≤ c ∧ c ≤ 57) || decide (97 ≤ c ∧ c ≤ 102)

theorem dig_mk {x y : Int} {a b : Bool} {m : Mem} (h : x = y) (h' : a = b) : some (Value.tuple ⟨[.int .u8 x, .bool a]⟩, m) = some (Value.tuple ⟨[.int .u8 y, .bool b]⟩, m) := by rw [h, h']

end
end Go.Am.Seat

/-
  Parse on the abstract machine (own work).
-/
set_option linter.unusedSimpArgs false
set_option linter.unusedVariables false
namespace Go.Am.Seat
open Go.Proofs Go.Am
set_option maxRecDepth 100000

theorem shl4 (a : Int) : abin .shl .u8 a .u64 4 = some (.int .u8 (wrapF .u8 (a * 16))) := by kernel_rfl
theorem or8 (a b : Int) : abin .or .u8 a .u8 b = some (.int .u8 (wrapF .u8 (((a % 256).toNat ||| (b % 256).toNat : Nat) : Int))) := by kernel_rfl
theorem rem2 (k : Int) : abin .rem .i64 k .i64 2 = some (.int .i64 (k.tmod 2)) := by kernel_rfl
theorem quo2 (k : Int) : abin .quo .i64 k .i64 2 = some (.int .i64 (wrapF .i64 (k.tdiv 2))) := by kernel_rfl
theorem neq64 (a b : Int) : abin .neq .i64 a .i64 b = some (.bool (a != b)) := by kernel_rfl
theorem byte_or {h l : Nat} (hh : h < 16) (hl : l < 16) : wrapF .u8 (((((wrapF .u8 (((h : Nat) : Int) * 16)) % 256).toNat ||| (((l : Nat) : Int) % 256).toNat : Nat)) : Int) = ((16 * h + l : Nat) : Int) := by
  have e1 : ((wrapF .u8 (((h : Nat) : Int) * 16)) % 256).toNat = 2 ^ 4 * h := by simp only [wrapF]; omega
  have e2 : (((l : Nat) : Int) % 256).toNat = l := by omega
  have e3 : 2 ^ 4 * h ||| l = 2 ^ 4 * h + l := (Nat.two_pow_add_eq_or_of_lt (show l < 2 ^ 4 by omega) h).symm
  rw [e1, e2, e3]
  simp only [wrapF]
  omega

/-- What leads nowhere is asked over the tables alone. -/
theorem ainv_lit {self : Self} {g : FuncId} {args : List Value} {m m1 : Mem} {v : Value} (ha : args.all lit2 = true) (hf : E.fast g = none) (h : self g args ((m.take E.G).map onlyTab) = some (v, m1)) (hv : lit2 v = true) : ainv E self g args m = some (v, m) := by
  unfold ainv
  rw [if_pos ha, hf, h]
  simp only
  unfold acoll
  rw [if_pos hv]

def parOk (t : List UInt8) (k : Nat) : Bool := digitB (t.getD (2 * k) 0).toNat && digitB (t.getD (2 * k + 1) 0).toNat
def parV (t : List UInt8) (k : Nat) : Nat := 16 * digitV (t.getD (2 * k) 0).toNat + digitV (t.getD (2 * k + 1) 0).toNat
theorem digitV_lt (c : Nat) : digitV c < 16 := by
  unfold digitV
  split <;> (try split) <;> omega
def parsed (t : List UInt8) : List UInt8 := (List.range (t.length / 2)).map fun k => UInt8.ofNat (parV t k)

section
variable {self : Self} {nf : Nat} {m : Mem} {F : Nat → Value} {s : ByteArray} {k b cap : Nat} {cs : List Value}

theorem app_inplace {c : Int} (hb : m[b]? = some (.row false 5 cs)) (hk : k < cap) (hc : cs.length = cap) :
    aappend E.P 48 48 (.slice (some ⟨b, 0, none⟩) k cap) (.slice (some ⟨m.length, 0, none⟩) 1 1) (m ++ [.row false 5 [.int .u8 c]]) =
      some (.slice (some ⟨b, 0, none⟩) (k + 1) cap, (m ++ [Blk.row false 5 [.int .u8 c]]).set b (.row false 5 (cs.set k (.int .u8 c)))) := by
  obtain ⟨i, z, h1, h2, h3, h4, h5⟩ := info5
  have hbm := lt_of_at hb
  have hb2 : (m ++ [Blk.row false 5 [.int .u8 c]])[b]? = some (.row false 5 cs) := by rw [List.getElem?_append_left hbm]; exact hb
  unfold aappend
  simp only [show E.P.underlying 48 = some (.slice 5) from Try.underlying48, h1, h2, h3, src_byte, isIntD, h4, h5, hb2]
  rw [if_neg (by simp [cellOk]), if_pos (by omega), if_pos (by simp; omega)]
  simp [lay]

/-- The row so far. -/
def ParI (t : List UInt8) (b cap k : Nat) (m : Mem) : Prop := ∃ cs : List Value, m[b]? = some (.row false 5 cs) ∧ cs.length = cap ∧ cs.take k = ((List.range k).map fun j => ((parV t j : Nat) : Int)).map (.int .u8)

theorem w2 {i : Nat} (h : i < 1000000000) : wrapF .i64 ((i : Int) + 2) = ((i + 2 : Nat) : Int) := by
  rw [wrap_i64 (by omega) (by omega)]
  omega

def allOk (t : List UInt8) : Bool := decide (t.length % 2 = 0) && (List.range (t.length / 2)).all (parOk t)

theorem make35 (c : Nat) (hc : c < 1000000) (m : Mem) : amakeSlice E.P 48 (.int .i64 0) (.int .i64 (c : Nat)) m = some (.slice (some ⟨m.length, 0, none⟩) 0 c, m ++ [.row false 5 (List.replicate c (.int .u8 0))]) := by
  have hz : zero1 E.P 5 = some (.int .u8 0) := by kernel_rfl
  have hi : (E.P.info? 5).map (·.bytes) = some 1 := by kernel_rfl
  obtain ⟨i, h1, h2⟩ := Option.map_eq_some_iff.1 hi
  unfold amakeSlice
  simp only [show E.P.underlying 48 = some (.slice 5) from Try.underlying48, hz, h1, h2]
  rw [wrap_i64 (n := (c : Int)) (by omega) (by omega), wrap_i64 (n := 0) (by omega) (by omega), if_pos (by omega)]
  simp

end
end Go.Am.Seat

/-
  The Builder with room, and Hex on the abstract machine (own work).
-/
set_option linter.unusedSimpArgs false
set_option linter.unusedVariables false
namespace Go.Am.Seat
open Go.Proofs Go.Am
set_option maxRecDepth 100000

-- ntmps 28
noncomputable def rbGrow_0 : Array Oper := match Try.f34.body with
  | some (.seq (.region _ o _) _) => o
  | _ => #[]
noncomputable def rbGrow_1 : Array Oper := match Try.f34.body with
  | some (.seq _ (.seq (.seq (.region _ o _) _) _)) => o
  | _ => #[]
noncomputable def rbGrow_2 : Array Oper := match Try.f34.body with
  | some (.seq _ (.seq (.seq _ (.cond _ (.region _ o _) _)) _)) => o
  | _ => #[]
noncomputable def rbGrow_3 : Array Oper := match Try.f34.body with
  | some (.seq _ (.seq _ (.seq (.region _ o _) _))) => o
  | _ => #[]
theorem dbGrow_3 {self : Self} {B : Nat} {T : List Value} {m : Mem} {lb : List (Nat × Nat)} {ls : Bool} : adrawN E self rbGrow_3 B rbGrow_3.toList 0 T m lb ls = adrawT E self rbGrow_3 B rbGrow_3.toList [(false, false), (false, false), (false, false), (false, false), (false, false), (false, false), (false, false), (false, false), (false, false), (false, false), (false, false), (false, false), (false, false)] 0 T m lb ls := adraw_tab (by kernel_rfl)
theorem sbGrow_3 : E.sr 3 rbGrow_3 = false := by kernel_rfl
noncomputable def rbGrow_4 : Array Oper := match Try.f34.body with
  | some (.seq _ (.seq _ (.seq _ (.cond _ (.region _ o _) _)))) => o
  | _ => #[]
theorem bodybGrow : Try.f34.body = some (.seq (.region 0 rbGrow_0 false) (.seq (.seq (.region 1 rbGrow_1 false) (.cond (.tmp 7) (.region 2 rbGrow_2 false) .skip)) (.seq (.region 3 rbGrow_3 true) (.cond (.tmp 21) (.region 4 rbGrow_4 false) .skip)))) := rfl
-- ntmps 25
noncomputable def rbgrow_0 : Array Oper := match Try.f53.body with
  | some (.seq (.region _ o _) _) => o
  | _ => #[]
theorem dbgrow_0 {self : Self} {B : Nat} {T : List Value} {m : Mem} {lb : List (Nat × Nat)} {ls : Bool} : adrawN E self rbgrow_0 B rbgrow_0.toList 0 T m lb ls = adrawT E self rbgrow_0 B rbgrow_0.toList [(false, false), (false, false), (false, false), (false, false), (false, false), (false, false), (false, false), (false, false), (false, false), (false, false), (false, false), (false, false), (true, false), (false, false), (false, false), (false, false)] 0 T m lb ls := adraw_tab (by kernel_rfl)
theorem sbgrow_0 : E.sr 0 rbgrow_0 = false := by kernel_rfl
noncomputable def rbgrow_1 : Array Oper := match Try.f53.body with
  | some (.seq _ (.seq (.region _ o _) _)) => o
  | _ => #[]
noncomputable def rbgrow_2 : Array Oper := match Try.f53.body with
  | some (.seq _ (.seq _ (.region _ o _))) => o
  | _ => #[]
theorem bodybgrow : Try.f53.body = some (.seq (.region 0 rbgrow_0 true) (.seq (.region 1 rbgrow_1 false) (.region 2 rbgrow_2 false))) := rfl
-- ntmps 30

/-- A Builder with room. -/
def BufC (m : Mem) (q : Nat) (l : List Int) (c : Nat) : Prop :=
  ∃ b cs, q < b ∧ m[q]? = some (.row false 76 [.pointer (some ⟨q, 0, none⟩), .slice (some ⟨b, 0, none⟩) l.length c]) ∧ m[b]? = some (.row false 5 cs) ∧ cs.length = c ∧ cs.take l.length = l.map (.int .u8) ∧ l.length ≤ c

theorem ainv_wr {self : Self} {g : FuncId} {args : List Value} {m : Mem} (hw : E.wr g = true) (ha : args.all lit2 = false) : ainv E self g args m = self g args m := by
  unfold ainv
  rw [ha]
  simp only [Bool.false_eq_true, if_false, hw, if_true]

section
variable {K : List Fact} {n q c : Nat} {m : Mem} {l : List Int}

end

theorem shr4 (a : Int) : abin .shr .u8 a .u64 4 = some (.int .u8 (a.fdiv 16)) := by kernel_rfl
theorem and8 (a b : Int) : abin .and .u8 a .u8 b = some (.int .u8 (wrapF .u8 (((a % 256).toNat &&& (b % 256).toNat : Nat) : Int))) := by kernel_rfl
theorem index9k {kd : IntKind} {s : ByteArray} {i : Nat} {b : UInt8} (h : s.data.toList[i]? = some b) : aindex E.P 9 (.string s) (.int kd (i : Nat)) = some (.int .u8 (b.toNat : Int)) := by
  unfold aindex
  simp only [und9]
  rw [if_pos (by omega), Int.toNat_natCast, h]
theorem dig_get : ∀ k : Nat, k < 16 → digitsS.data.toList[k]? = some (hexd k)
  | 0, _ => by rfl
  | 1, _ => by rfl
  | 2, _ => by rfl
  | 3, _ => by rfl
  | 4, _ => by rfl
  | 5, _ => by rfl
  | 6, _ => by rfl
  | 7, _ => by rfl
  | 8, _ => by rfl
  | 9, _ => by rfl
  | 10, _ => by rfl
  | 11, _ => by rfl
  | 12, _ => by rfl
  | 13, _ => by rfl
  | 14, _ => by rfl
  | 15, _ => by rfl
  | k + 16, h => absurd h (by omega)
theorem bh (b : UInt8) : ((b.toNat : Nat) : Int).fdiv 16 = ((b.toNat / 16 : Nat) : Int) := by
  rw [Int.fdiv_eq_ediv_of_nonneg _ (by omega)]
  omega
theorem bl (b : UInt8) : wrapF .u8 ((((((b.toNat : Nat) : Int) % 256).toNat &&& ((15 : Int) % 256).toNat : Nat)) : Int) = ((b.toNat % 16 : Nat) : Int) := by
  have h := b.toNat_lt
  have e1 : (((b.toNat : Nat) : Int) % 256).toNat = b.toNat := by omega
  have e2 : ((15 : Int) % 256).toNat = 2 ^ 4 - 1 := rfl
  rw [e1, e2, Nat.and_two_pow_sub_one_eq_mod]
  simp only [wrapF]
  omega
theorem callGrow : callableB E.P 34 = true := by kernel_rfl
theorem callgrow : callableB E.P 53 = true := by kernel_rfl
theorem callString : callableB E.P 36 = true := by kernel_rfl
theorem callcc : callableB E.P 52 = true := by kernel_rfl

section
variable {self : Self} {nf q c : Nat} {m : Mem} {F : Nat → Value} {s : ByteArray} {i : Nat}

end
theorem cap_nil : apC1 E.P .cap #[48] 3 (.slice none 0 0) = some (.int .i64 0) := by kernel_rfl
theorem len_nil : apC1 E.P .len #[48] 3 (.slice none 0 0) = some (.int .i64 0) := by kernel_rfl
theorem sub64' (a b : Int) : abin .sub .i64 a .i64 b = some (.int .i64 (wrapF .i64 (a - b))) := by kernel_rfl
theorem mul64' (a b : Int) : abin .mul .i64 a .i64 b = some (.int .i64 (wrapF .i64 (a * b))) := by kernel_rfl
theorem sub00 : wrapF .i64 ((0 : Int) - 0) = 0 := rfl
theorem mul20 : wrapF .i64 ((2 : Int) * 0) = 0 := rfl
theorem call109 : callableB E.P 55 = false := by kernel_rfl
theorem ext109 : E.ext 55 = some (.noZero 5) := by kernel_rfl
theorem und35 : E.P.underlying 48 = some (.slice 5) := Try.underlying48
theorem addrT35 : addrT E.P 4 48 = true := by kernel_rfl
theorem wr109 : E.wr 55 = false := by kernel_rfl
theorem slice35 {m : Mem} {b n : Nat} {ro : Bool} {cs : List Value} (h : m[b]? = some (.row ro 5 cs)) (hn : 0 < n) : aslice E.P 48 (.slice (some ⟨b, 0, none⟩) n n) none (some (.int .i64 0)) m = some (.slice (some ⟨b, 0, none⟩) 0 n) := by
  obtain ⟨i, z, h1, h2, h3, h4, h5⟩ := info5
  unfold aslice
  simp only [und35, h1, lookRow h]
  unfold abounds abound
  simp only
  rw [if_pos (by omega)]
  simp only
  rw [if_neg (by simp [h3]; omega)]
  simp
theorem copy_none {m : Mem} {b n : Nat} {cs : List Value} (h : m[b]? = some (.row false 5 cs)) : acopy E.P 48 (.slice (some ⟨b, 0, none⟩) 0 n) (.slice none 0 0) m = some (.int .i64 0, m) := by
  obtain ⟨i, z, h1, h2, h3, h4, h5⟩ := info5
  unfold acopy
  simp only [und35, h1, asrc, h, if_true]
  rw [if_pos (by simp)]
  simp only [Nat.min_self, Nat.zero_mul, List.take_nil, List.take_zero, Nat.min_zero]
  have hl : lay cs 0 [] = cs := by simp [lay]
  rw [hl]
  have hs : m.set b (.row false 5 cs) = m := by
    apply List.ext_getElem?
    intro j
    rw [List.getElem?_set]
    split
    · rename_i hj
      subst hj
      split
      · exact h.symm
      · rename_i hno
        exact absurd (List.getElem?_eq_some_iff.1 h).1 hno
    · rfl
  rw [hs]
  rfl

section
variable {self : Self} {nf q n : Nat} {m : Mem}

theorem grow_body (hq : m[q]? = some (.row false 76 [.pointer (some ⟨q, 0, none⟩), .slice none 0 0])) (hn : 0 < n) (hn' : n ≤ 1000000) :
    ∃ m', abody E self nf 53 [.pointer (some ⟨q, 0, none⟩), .int .i64 (n : Nat)] m = some (.tuple ⟨[]⟩, m') ∧ BufC m' q [] n := by
  rw [abody_eqF (by kernel_rfl) Try.func53 bodybgrow (by kernel_rfl) (Nat.le_of_ble_eq_true rfl)]
  rw [show Try.f53.ntmps = 30 from rfl]
  have hqm := lt_of_at hq
  have hqs : (m.map sealed)[q]? = some (.row true 76 [.pointer (some ⟨q, 0, none⟩), .slice none 0 0]) := by
    rw [List.getElem?_map, hq]
    rfl
  have hc : cellAt (m.map sealed) q 1 = some (.slice none 0 0) := cellAt_row hqs 1
  have hw0 : wrapF .i64 ((0 : Int) + ((n : Nat) : Int)) = ((n : Nat) : Int) := by rw [wrap_i64 (by omega) (by omega)]; omega
  have hx : aext (.noZero 5) [.int .i64 (n : Nat)] m = some (.slice (some ⟨m.length, 0, none⟩) n n, m ++ [.row false 5 (List.replicate n junk)]) := by
    unfold aext
    simp only
    rw [if_pos (by omega)]
    simp
  have hq2 : ((m ++ [Blk.row false 5 (List.replicate n junk)]).map sealed)[q]? = some (.row true 76 [.pointer (some ⟨q, 0, none⟩), .slice none 0 0]) := by
    rw [List.getElem?_map, List.getElem?_append_left hqm, hq]
    rfl
  have hc2 : cellAt ((m ++ [Blk.row false 5 (List.replicate n junk)]).map sealed) q 1 = some (.slice none 0 0) := cellAt_row hq2 1
  have hb2 : ((m ++ [Blk.row false 5 (List.replicate n junk)]).map sealed)[m.length]? = some (.row true 5 (List.replicate n junk)) := by
    rw [List.getElem?_map, List.getElem?_append_right (Nat.le_refl _)]
    simp [sealed]
  have hsl := slice35 hb2 hn
  have hb3 : (m ++ [Blk.row false 5 (List.replicate n junk)])[m.length]? = some (.row false 5 (List.replicate n junk)) := by simp
  have hq3 : (m ++ [Blk.row false 5 (List.replicate n junk)])[q]? = some (.row false 76 [.pointer (some ⟨q, 0, none⟩), .slice none 0 0]) := by
    rw [List.getElem?_append_left hqm]; exact hq
  have hc3 : cellAt (m ++ [Blk.row false 5 (List.replicate n junk)]) q 1 = some (.slice none 0 0) := cellAt_row hq3 1
  have hcp := copy_none (n := n) hb3
  have hst := store35 hq3 (o := 1) (show 1 < 2 by omega) (some ⟨m.length, 0, none⟩) 0 n
  have hdq : decide (q < m.length) = true := decide_eq_true hqm
  have hdbgrow_0 := @dbgrow_0
  simp only [rbgrow_0, Try.f53] at hdbgrow_0
  simp only [hdbgrow_0, ↓sbgrow_0, rbgrow_0, rbgrow_1, rbgrow_2, Try.f53, List.append_eq, List.cons_append, List.nil_append, apure_call1, apure_call2, apure_call3, bft, btf, acodeN, List.getElem?_toArray, List.getElem?_cons_zero, List.getElem?_cons_succ, aopsN, adrawT, agd, cls, astep, aop, afloat, ev, nth_lst, get_lst, aput, setAt_lst, upd_at, init_zero, init_succ, init_nil, Nat.reduceLT, Nat.reduceEqDiff, reduceIte, abuiltin, alen, Option.map_some, Option.map_none, orElse_some, apure_add, apure_eql, apure_neq, List.map_cons, List.map_nil, List.all_cons, List.all_nil, lit2, lit1, lit0, List.isEmpty_nil, Bool.and_self, Bool.and_true, Bool.true_and, Bool.false_and, Bool.and_false, Bool.not_true, Bool.not_false, Bool.or_true, Bool.true_or, Bool.false_or, Bool.or_false, Bool.false_eq_true, if_true, if_false, List.length_map, beq_self_eq_true, und3, und4, und5, und9, fa86_1, load35, hc, hc2, hc3, cap_nil, len_nil, und35, mul64', mul20, add64', hw0, addrT35, wr109, call109, ext109, hx, earlyOk, belowB, hdq, hsl, hcp, hst, Nat.zero_add, finish, ares, aresL, ares1]
  refine ⟨_, rfl, m.length, List.replicate n junk, hqm, ?_, ?_, by simp, rfl, by simp⟩
  · rw [List.getElem?_set_self (by simp; omega)]
    rfl
  · rw [List.getElem?_set_ne (by omega)]
    exact hb3
end
end Go.Am.Seat

/-
  Numbers of eight words on the abstract machine: shifts and bits (own work).
-/
set_option linter.unusedSimpArgs false
set_option linter.unusedVariables false
namespace Go.Am.Seat
open Go.Proofs Go.Am
set_option maxRecDepth 100000

-- ntmps 45
-- ntmps 45
-- ntmps 21
-- ntmps 19

/-- Eight words. -/
def rowOf (w : Nat → Nat) : List Value := (List.range 8).map fun j => .int .u64 ((w j : Nat) : Int)
def wide (w : Nat → Nat) : Value := .agg ⟨rowOf w⟩
theorem rowOf_length (w : Nat → Nat) : (rowOf w).length = 8 := by simp [rowOf]
theorem rowOf_get {w : Nat → Nat} {j : Nat} (h : j < 8) : (rowOf w)[j]? = some (.int .u64 ((w j : Nat) : Int)) := by
  unfold rowOf
  rw [List.getElem?_map, List.getElem?_range h]
  rfl
theorem rowOf_set {w : Nat → Nat} {i x : Nat} : (rowOf w).set i (.int .u64 ((x : Nat) : Int)) = rowOf (fun j => if j = i then x else w j) := by
  apply List.ext_getElem?
  intro k
  rw [List.getElem?_set]
  by_cases hk : k < 8
  · rw [rowOf_get hk, rowOf_get hk, rowOf_length]
    by_cases h : i = k
    · subst h; simp [hk]
    · have h' : ¬ k = i := fun e => h e.symm
      simp [h, h']
  · rw [List.getElem?_eq_none (by rw [rowOf_length]; omega), List.getElem?_eq_none (by rw [rowOf_length]; omega), rowOf_length]
    by_cases h : i = k
    · subst h; simp [hk]
    · simp [h]
theorem rowOf_lit (w : Nat → Nat) : (rowOf w).all lit0 = true := by
  unfold rowOf
  rw [List.all_map, List.all_eq_true]
  intro x _
  rfl
theorem rowOf_ok (w : Nat → Nat) : (rowOf w).all cellOk = true := by
  unfold rowOf
  rw [List.all_map, List.all_eq_true]
  intro x _
  rfl
theorem wide_lit (w : Nat → Nat) : lit2 (wide w) = true := rowOf_lit w
theorem rowOf_ext {w w' : Nat → Nat} (h : ∀ j, j < 8 → w j = w' j) : rowOf w = rowOf w' := by
  unfold rowOf
  apply List.map_congr_left
  intro j hj
  rw [h j (List.mem_range.1 hj)]

theorem shlN {x n : Nat} (hn : n ≤ 64) : abin .shl .u64 ((x : Nat) : Int) .i64 ((n : Nat) : Int) = some (.int .u64 ((x * 2 ^ n % 18446744073709551616 : Nat) : Int)) := by
  unfold abin
  simp only
  rw [if_neg (by omega), Int.toNat_natCast, show IntKind.u64.bits = 64 from rfl, Nat.min_eq_left hn]
  simp only [wrapF]
  congr 2
theorem shrN {x n : Nat} (hn : n ≤ 64) : abin .shr .u64 ((x : Nat) : Int) .i64 ((n : Nat) : Int) = some (.int .u64 ((x / 2 ^ n : Nat) : Int)) := by
  unfold abin
  simp only
  rw [if_neg (by omega), Int.toNat_natCast, show IntKind.u64.bits = 64 from rfl, Nat.min_eq_left hn, Int.fdiv_eq_ediv_of_nonneg _ (by exact Int.natCast_nonneg _)]
  congr 2
theorem orN {x y : Nat} (hx : x < 18446744073709551616) (hy : y < 18446744073709551616) : abin .or .u64 ((x : Nat) : Int) .u64 ((y : Nat) : Int) = some (.int .u64 ((x ||| y : Nat) : Int)) := by
  unfold abin abits
  simp only [if_true, Option.map_some, pow2]
  have e1 : (((x : Nat) : Int) % 18446744073709551616).toNat = x := by omega
  have e2 : (((y : Nat) : Int) % 18446744073709551616).toNat = y := by omega
  have h : x ||| y < 2 ^ 64 := Nat.or_lt_two_pow (by omega) (by omega)
  rw [e1, e2]
  simp only [wrapF]
  congr 2
  omega
theorem and1 {x : Nat} (hx : x < 18446744073709551616) : abin .and .u64 ((x : Nat) : Int) .u64 1 = some (.int .u64 ((x % 2 : Nat) : Int)) := by
  unfold abin abits
  simp only [if_true, Option.map_some, pow2]
  have e1 : (((x : Nat) : Int) % 18446744073709551616).toNat = x := by omega
  have e2 : ((1 : Int) % 18446744073709551616).toNat = 2 ^ 1 - 1 := rfl
  rw [e1, e2, Nat.and_two_pow_sub_one_eq_mod]
  simp only [wrapF]
  congr 2
  omega
theorem gtr64' (a b : Int) : abin .gtr .i64 a .i64 b = some (.bool (decide (a > b))) := by kernel_rfl
theorem wsub {a b : Nat} (h : b ≤ a) (ha : a < 1000000) : wrapF .i64 (((a : Nat) : Int) - ((b : Nat) : Int)) = ((a - b : Nat) : Int) := by
  rw [wrap_i64 (by omega) (by omega)]; omega
theorem wsub1 {a : Nat} (h : 1 ≤ a) (ha : a < 1000000) : wrapF .i64 (((a : Nat) : Int) - 1) = ((a - 1 : Nat) : Int) := by
  rw [wrap_i64 (by omega) (by omega)]; omega
theorem w64sub {a : Nat} (h : a ≤ 64) : wrapF .i64 ((64 : Int) - ((a : Nat) : Int)) = ((64 - a : Nat) : Int) := by
  rw [wrap_i64 (by omega) (by omega)]; omega

/-- A word of a number shifted up, and down. -/
def upW (w : Nat → Nat) (far near a : Nat) : Nat := if a < far then 0 else if far < a then (w (a - far) * 2 ^ near % 18446744073709551616) ||| (w (a - far - 1) / 2 ^ (64 - near)) else w (a - far) * 2 ^ near % 18446744073709551616
def dnW (w : Nat → Nat) (far near a : Nat) : Nat := if a + far < 8 then (if a + far + 1 < 8 then (w (a + far) / 2 ^ near) ||| (w (a + far + 1) * 2 ^ (64 - near) % 18446744073709551616) else w (a + far) / 2 ^ near) else 0

theorem div_lt64 {x n : Nat} (h : x < 18446744073709551616) : x / 2 ^ n < 18446744073709551616 := Nat.lt_of_le_of_lt (Nat.div_le_self _ _) h

section
variable {self : Self} {nf : Nat} {M : Mem} {F : Nat → Value} {p q : Nat} {w out : Nat → Nat} {far near i : Nat} {rp : Bool}

theorem set_twice {M : Mem} {q : Nat} {a b : Blk} : (M.set q a).set q b = M.set q b := by simp

theorem quo64 (k : Int) : abin .quo .i64 k .i64 64 = some (.int .i64 (wrapF .i64 (k.tdiv 64))) := by kernel_rfl
theorem rem64 (k : Int) : abin .rem .i64 k .i64 64 = some (.int .i64 (k.tmod 64)) := by kernel_rfl
theorem wq64 {n : Nat} (h : n < 1000000) : wrapF .i64 (((n : Nat) : Int).tdiv 64) = ((n / 64 : Nat) : Int) := by
  rw [Int.tdiv_eq_ediv_of_nonneg (by omega), wrap_i64 (by omega) (by omega)]; omega
theorem wrm64 {n : Nat} : ((n : Nat) : Int).tmod 64 = ((n % 64 : Nat) : Int) := by
  rw [Int.tmod_eq_emod_of_nonneg (by omega)]; omega

end
end Go.Am.Seat

/-
  Numbers of eight words on the abstract machine: down, Shift, Bit (own work).
-/
set_option linter.unusedSimpArgs false
set_option linter.unusedVariables false
namespace Go.Am.Seat
open Go.Proofs Go.Am
set_option maxRecDepth 100000

section
variable {self : Self} {nf : Nat} {M : Mem} {F : Nat → Value} {p q : Nat} {w out : Nat → Nat} {far near i : Nat} {rp : Bool}

/-- A bit of a number. -/
def bitW (w : Nat → Nat) (i : Nat) : Bool := (w (i / 64)).testBit (i % 64)

/-- A number shifted. -/
def shW (w : Nat → Nat) (n : Int) : Nat → Nat := if 512 ≤ n ∨ n ≤ -512 then fun _ => 0 else if n < 0 then dnW w ((-n).toNat / 64) ((-n).toNat % 64) else upW w (n.toNat / 64) (n.toNat % 64)

noncomputable def apU (P : Program) (u : UnOp) (t ty : TypeId) (v : Value) : Option Value := apure P [v] { dst := none, op := .unOp u t (.tmp 0), type := ty, pos := "", after := #[], guard := none }
theorem apure_un {P : Program} {T : List Value} {u : UnOp} {t ty : TypeId} {k : Nat} {pos : String} {af : Array Edge} {g : Option (Nat × Bool)} {d : Option Tmp} : apure P T { dst := d, op := .unOp u t (.tmp k), type := ty, pos := pos, after := af, guard := g } = apU P u t ty (nth T k) := by
  unfold apU apure
  simp only [Op.operands, execOp, ev, nth_zero, List.all_cons, List.all_nil]
  rfl
theorem neg3 (n : Int) : apU E.P .neg 3 3 (.int .i64 n) = some (.int .i64 (wrapF .i64 (-n))) := by
  have h : apU E.P .neg 3 3 (.int .i64 n) = some (.int .i64 (IntKind.wrap .i64 (0 - n))) := rfl
  rw [h, wrapF_eq, Int.zero_sub]
theorem geq64 (a b : Int) : abin .geq .i64 a .i64 b = some (.bool (decide (a ≥ b))) := by kernel_rfl
theorem leq64 (a b : Int) : abin .leq .i64 a .i64 b = some (.bool (decide (a ≤ b))) := by kernel_rfl

/-- A bit, whatever its number. -/
def bitI (w : Nat → Nat) (i : Int) : Nat := if 0 ≤ i ∧ i < 512 then (bitW w i.toNat).toNat else 0

/-- What shifting up, and down, makes of bits. -/
theorem upW_lt (hw : ∀ j, w j < 18446744073709551616) (far near a : Nat) : upW w far near a < 18446744073709551616 := by
  unfold upW
  split
  · omega
  · split
    · exact Nat.or_lt_two_pow (n := 64) (Nat.mod_lt _ (by omega)) (div_lt64 (hw _))
    · exact Nat.mod_lt _ (by omega)
theorem dnW_lt (hw : ∀ j, w j < 18446744073709551616) (far near a : Nat) : dnW w far near a < 18446744073709551616 := by
  unfold dnW
  split
  · split
    · exact Nat.or_lt_two_pow (n := 64) (div_lt64 (hw _)) (Nat.mod_lt _ (by omega))
    · exact div_lt64 (hw _)
  · omega

theorem tb_shl {x n r : Nat} : (x * 2 ^ n % 18446744073709551616).testBit r = (decide (r < 64) && (decide (n ≤ r) && x.testBit (r - n))) := by
  rw [show 18446744073709551616 = 2 ^ 64 from rfl, Nat.testBit_mod_two_pow, Nat.testBit_mul_two_pow]
theorem tb_shr {x n r : Nat} : (x / 2 ^ n).testBit r = x.testBit (n + r) := by rw [Nat.testBit_div_two_pow, Nat.add_comm]
theorem tb_high {x r : Nat} (hx : x < 18446744073709551616) (hr : 64 ≤ r) : x.testBit r = false :=
  Nat.testBit_lt_two_pow (Nat.lt_of_lt_of_le hx (show 2 ^ 64 ≤ 2 ^ r from Nat.pow_le_pow_right (by omega) hr))

theorem up_bit (hw : ∀ j, w j < 18446744073709551616) {n i : Nat} (hn : n < 512) (hi : i < 512) : bitW (upW w (n / 64) (n % 64)) i = (decide (n ≤ i) && bitW w (i - n)) := by
  unfold bitW upW
  have hr : i % 64 < 64 := Nat.mod_lt _ (by omega)
  by_cases h1 : i / 64 < n / 64
  · rw [if_pos h1, Nat.zero_testBit, decide_eq_false (by omega), Bool.false_and]
  · rw [if_neg h1]
    by_cases h2 : n / 64 < i / 64
    · rw [if_pos h2, Nat.testBit_or, tb_shl, tb_shr, decide_eq_true hr, decide_eq_true (show n ≤ i by omega), Bool.true_and, Bool.true_and]
      by_cases h3 : n % 64 ≤ i % 64
      · rw [decide_eq_true h3, Bool.true_and, tb_high (hw _) (show 64 ≤ 64 - n % 64 + i % 64 by omega), Bool.or_false]
        rw [show (i - n) / 64 = i / 64 - n / 64 by omega, show (i - n) % 64 = i % 64 - n % 64 by omega]
      · rw [decide_eq_false h3, Bool.false_and, Bool.false_or]
        rw [show (i - n) / 64 = i / 64 - n / 64 - 1 by omega, show (i - n) % 64 = 64 - n % 64 + i % 64 by omega]
    · rw [if_neg h2, tb_shl, decide_eq_true hr, Bool.true_and]
      by_cases h3 : n % 64 ≤ i % 64
      · rw [decide_eq_true h3, decide_eq_true (show n ≤ i by omega)]
        rw [show (i - n) / 64 = i / 64 - n / 64 by omega, show (i - n) % 64 = i % 64 - n % 64 by omega]
      · rw [decide_eq_false h3, decide_eq_false (show ¬ n ≤ i by omega), Bool.false_and, Bool.false_and]

theorem dn_bit (hw : ∀ j, w j < 18446744073709551616) {n i : Nat} (hn : n < 512) (hi : i < 512) : bitW (dnW w (n / 64) (n % 64)) i = (decide (i + n < 512) && bitW w (i + n)) := by
  unfold bitW dnW
  have hr : i % 64 < 64 := Nat.mod_lt _ (by omega)
  by_cases h1 : i / 64 + n / 64 < 8
  · rw [if_pos h1]
    by_cases h2 : i / 64 + n / 64 + 1 < 8
    · rw [if_pos h2, Nat.testBit_or, tb_shr, tb_shl, decide_eq_true hr, Bool.true_and]
      by_cases h3 : n % 64 + i % 64 < 64
      · rw [decide_eq_false (show ¬ 64 - n % 64 ≤ i % 64 by omega), Bool.false_and, Bool.or_false, decide_eq_true (show i + n < 512 by omega), Bool.true_and]
        rw [show (i + n) / 64 = i / 64 + n / 64 by omega, show (i + n) % 64 = n % 64 + i % 64 by omega]
      · rw [tb_high (hw _) (show 64 ≤ n % 64 + i % 64 by omega), Bool.false_or, decide_eq_true (show 64 - n % 64 ≤ i % 64 by omega), Bool.true_and, decide_eq_true (show i + n < 512 by omega), Bool.true_and]
        rw [show (i + n) / 64 = i / 64 + n / 64 + 1 by omega, show (i + n) % 64 = i % 64 - (64 - n % 64) by omega]
    · rw [if_neg h2, tb_shr]
      by_cases h3 : n % 64 + i % 64 < 64
      · rw [decide_eq_true (show i + n < 512 by omega), Bool.true_and]
        rw [show (i + n) / 64 = i / 64 + n / 64 by omega, show (i + n) % 64 = n % 64 + i % 64 by omega]
      · rw [tb_high (hw _) (show 64 ≤ n % 64 + i % 64 by omega), decide_eq_false (show ¬ i + n < 512 by omega), Bool.false_and]
  · rw [if_neg h1, Nat.zero_testBit, decide_eq_false (show ¬ i + n < 512 by omega), Bool.false_and]
end
end Go.Am.Seat

/-
  The document's numbers on the abstract machine: num, Of, trim, Bit (own work).
-/
set_option linter.unusedSimpArgs false
set_option linter.unusedVariables false
namespace Go.Am.Seat
open Go.Proofs Go.Am
set_option maxRecDepth 100000

-- ntmps 24
-- ntmps 20
-- ntmps 21
-- ntmps 31

/-- A row that grows: nothing yet, or these cells. -/
def SL (m : Mem) (e : TypeId) (v : Value) (l : List Value) : Prop :=
  (l = [] ∧ v = .slice none 0 0) ∨ (∃ b, v = .slice (some ⟨b, 0, none⟩) l.length l.length ∧ m[b]? = some (.row false e l) ∧ l ≠ [])

/-- A row's type. -/
def RowT (sT e : TypeId) : Prop := E.P.underlying sT = some (.slice e) ∧ ∃ i z, E.P.info? e = some i ∧ i.zero = some z ∧ i.size = 1 ∧ i.bytes ≠ 0 ∧ i.bytes ≤ 8 ∧ z.cells.size = 1

theorem rowT_of {sT e : TypeId} (h : E.P.underlying sT = some (.slice e)) {n : Nat} (h1 : (E.P.info? e).map (fun i => (i.size, i.bytes)) = some (1, n)) (h2 : ((E.P.info? e).bind (·.zero)).map (·.cells.size) = some 1) (hn : n ≠ 0) (hn' : n ≤ 8) : RowT sT e := by
  obtain ⟨i, h3, h4⟩ := Option.map_eq_some_iff.1 h1
  rw [h3] at h2
  obtain ⟨z, h5, h6⟩ := Option.map_eq_some_iff.1 h2
  simp only [Prod.mk.injEq] at h4
  exact ⟨h, i, z, h3, h5, h4.1, by omega, by omega, h6⟩
theorem rowU8 : RowT 48 5 := rowT_of und35 (n := 1) (by kernel_rfl) (by kernel_rfl) (by omega) (by omega)
theorem app1 {sT e : TypeId} (hT : RowT sT e) {m : Mem} {v c : Value} {l : List Value} (hc : cellOk c = true) (h : SL m e v l) (hl : l.length ≤ 100000) :
    ∃ v' m', aappend E.P sT sT v (.slice (some ⟨m.length, 0, none⟩) 1 1) (m ++ [.row false e [c]]) = some (v', m') ∧ SL m' e v' (l ++ [c]) ∧ m.length ≤ m'.length ∧ (∀ b L q, v' = .slice (some ⟨b, 0, none⟩) L q → m.length ≤ b) := by
  obtain ⟨hs, i, z, h1, h2, h3, h4, h5, h6⟩ := hT
  have hsrc : asrc (m ++ [Blk.row false e [c]]) 1 (.slice (some ⟨m.length, 0, none⟩) 1 1) = some (1, [c]) := by
    have h : (m ++ [Blk.row false e [c]])[m.length]? = some (.row false e [c]) := by simp
    unfold asrc
    simp only [lookRow h]
    rfl
  rcases h with ⟨rfl, rfl⟩ | ⟨b, rfl, hb, hne⟩
  · refine ⟨.slice (some ⟨(m ++ [Blk.row false e [c]]).length, 0, none⟩) 1 1, m ++ [.row false e [c]] ++ [.row false e [c]], ?_, .inr ⟨_, rfl, by simp, by simp⟩, by simp, fun b L q h => by cases h; simp⟩
    unfold aappend
    simp only [hs, h1, h2, h3, hsrc, isIntD, h6]
    rw [if_neg (by simp [hc, h4]), if_neg (by omega), if_pos (by omega)]
  · have hbm := lt_of_at hb
    have hb2 : (m ++ [Blk.row false e [c]])[b]? = some (.row false e l) := by rw [List.getElem?_append_left hbm]; exact hb
    refine ⟨.slice (some ⟨(m ++ [Blk.row false e [c]]).length, 0, none⟩) (l.length + 1) (l.length + 1), (m ++ [Blk.row false e [c]]).set b .dead ++ [.row false e (l ++ [c])], ?_, .inr ⟨m.length + 1, by simp, by rw [List.getElem?_append_right (by simp)]; simp, by simp⟩, by simp; omega, fun b L q h => by cases h; simp⟩
    unfold aappend
    simp only [hs, h1, h2, h3, hsrc, isIntD, h6, hb2]
    have hr : (2 * (l.length + 1) + 768) * i.bytes ≤ 281474976710656 := by
      have : (2 * (l.length + 1) + 768) * i.bytes ≤ (2 * (l.length + 1) + 768) * 8 := Nat.mul_le_mul_left _ h5
      omega
    rw [if_neg (by simp [hc, h4]), if_neg (by omega), if_pos ⟨trivial, trivial, by omega, hr⟩]
    simp

/-- The bytes of a number. -/
def byW (w : Nat → Nat) (t : Nat) : Nat := w (t / 8) / 2 ^ (8 * (t % 8)) % 256
def byL (w : Nat → Nat) (n : Nat) : List Int := (List.range n).map fun t => ((byW w t : Nat) : Int)

theorem byL_succ (w : Nat → Nat) (n : Nat) : byL w (n + 1) = byL w n ++ [((byW w n : Nat) : Int)] := by
  unfold byL
  rw [List.range_succ, List.map_append]
  rfl
theorem byL_length (w : Nat → Nat) (n : Nat) : (byL w n).length = n := by simp [byL]

theorem shr8u (x : Nat) : abin .shr .u64 ((x : Nat) : Int) .u64 8 = some (.int .u64 ((x / 256 : Nat) : Int)) := by
  have h : ∀ k : Int, abin .shr .u64 k .u64 8 = some (.int .u64 (k.fdiv 256)) := fun k => by kernel_rfl
  rw [h, Int.fdiv_eq_ediv_of_nonneg _ (by omega)]
  congr 2
section
variable {self : Self} {nf : Nat} {m : Mem} {F : Nat → Value} {w : Nat → Nat} {j k x : Nat} {v : Value} {l : List Value}

theorem byW_at {w : Nat → Nat} {j k : Nat} (hk : k < 8) : byW w (8 * j + k) = w j / 2 ^ (8 * k) % 256 := by
  unfold byW
  rw [show (8 * j + k) / 8 = j by omega, show (8 * j + k) % 8 = k by omega]
theorem div_step (x k : Nat) : x / 2 ^ (8 * k) / 256 = x / 2 ^ (8 * (k + 1)) := by
  rw [Nat.div_div_eq_div_mul, show 8 * (k + 1) = 8 * k + 8 by omega, Nat.pow_add]

/-- The bytes as a text. -/
def byS (w : Nat → Nat) : ByteArray := bytesOfL ((byL w 64).map fun n => UInt8.ofNat n.toNat)
end
end Go.Am.Seat

/-
  The document's numbers on the abstract machine: Of, trim, Bit (own work).
-/
set_option linter.unusedSimpArgs false
set_option linter.unusedVariables false
namespace Go.Am.Seat
open Go.Proofs Go.Am
set_option maxRecDepth 100000

theorem info3 : ∃ i, E.P.info? 3 = some i ∧ i.size = 1 := by
  have h : (E.P.info? 3).map (·.size) = some 1 := by kernel_rfl
  exact Option.map_eq_some_iff.1 h
theorem load3 (b o : Nat) (m : Mem) : aload E.P 3 (.pointer (some ⟨b, o, none⟩)) m = cellAt m b o := aload_cell und3 rfl b o m
theorem eql64 (a b : Int) : abin .eql .i64 a .i64 b = some (.bool (a == b)) := by kernel_rfl
/-- Cells of numbers. -/
def cellsN (l : List Nat) : List Value := l.map fun x => .int .i64 ((x : Nat) : Int)
theorem cellsN_get {l : List Nat} {j x : Nat} (h : l[j]? = some x) : (cellsN l)[j]? = some (.int .i64 ((x : Nat) : Int)) := by
  unfold cellsN
  rw [List.getElem?_map, h]
  rfl
theorem cellsN_length (l : List Nat) : (cellsN l).length = l.length := by simp [cellsN]

section
variable {self : Self} {nf : Nat} {m : Mem} {F : Nat → Value} {s : ByteArray} {b L n i : Nat} {l : List Nat} {ro : Bool}

/-- A text's bytes. -/
def natsOf (s : ByteArray) : List Nat := s.data.toList.map (·.toNat)

/-- What is left of a row without the noughts at its end. -/
def TrimAt (l : List Nat) (n : Nat) : Prop := n ≤ l.length ∧ (∀ j, n ≤ j → j < l.length → l[j]? = some 0) ∧ (n = 0 ∨ ∃ x, 0 < x ∧ l[n - 1]? = some x)

theorem quo8 (k : Int) : abin .quo .i64 k .i64 8 = some (.int .i64 (wrapF .i64 (k.tdiv 8))) := by kernel_rfl
theorem rem8 (k : Int) : abin .rem .i64 k .i64 8 = some (.int .i64 (k.tmod 8)) := by kernel_rfl

/-- The document's bit. -/
def rbit (l : List Nat) (n : Nat) (i : Int) : Nat := if 0 ≤ i ∧ i / 8 < (n : Int) then l.getD (i.toNat / 8) 0 / 2 ^ (i.toNat % 8) % 2 else 0

end
end Go.Am.Seat

/-
  Equality of numbers of eight words (own work).
-/
set_option linter.unusedSimpArgs false
set_option linter.unusedVariables false
namespace Go.Am.Seat
open Go.Proofs Go.Am
set_option maxRecDepth 100000

theorem pv_und {t : TypeId} {d : TypeDesc} (h : E.P.underlying t = some d) : pv E.P (underlying t) = some d := by
  unfold underlying
  rw [pv_bind (a := E.P) rfl, h]
  rfl

/-- Equality of two values, whatever temporaries they come from. -/
noncomputable def eqlVal (P : Program) (s : TypeId) (x y : Operand) (u v : Value) : Option Value :=
  if lit2 u && (lit2 v && true) then
    match pv P ((eqGuard .eql s x y u v >>= fun _ => binOp .eql s u v) >>= fun r => pure (Next.value r)) with
    | some (.value r) => if lit2 r then some r else none
    | _ => none
  else none

theorem apure_eqlV {P : Program} {T : List Value} {d : Option Tmp} {s t ty : TypeId} {x y : Operand} {pos : String} {af : Array Edge} {g : Option (Nat × Bool)} :
    apure P T { dst := d, op := .binOp .eql s x y t, type := ty, pos := pos, after := af, guard := g } = eqlVal P s x y (ev T x) (ev T y) := by
  unfold apure eqlVal
  simp only [Op.operands, List.all_cons, List.all_nil, execOp]
  rfl

theorem eqlVal_str {P : Program} {s : TypeId} {x y : Operand} {a c : ByteArray} : eqlVal P s x y (.string a) (.string c) = some (.bool (a.toList == c.toList)) := rfl
theorem eqlVal_bool {x y : Operand} {p q : Bool} : eqlVal E.P 4 x y (.bool p) (.bool q) = some (.bool (p == q)) := rfl
theorem eqlVal_ptr {P : Program} {s : TypeId} {x y : Operand} {a : Addr} {v : Value} : eqlVal P s x y (.pointer (some a)) v = none := rfl
theorem eqlVal_slice {P : Program} {s : TypeId} {x y : Operand} {a : Addr} {n c : Nat} {v : Value} : eqlVal P s x y (.slice (some a) n c) v = none := rfl
theorem eqlVal_int {P : Program} {s : TypeId} {x y : Operand} {k : IntKind} {a b : Int} : eqlVal P s x y (.int k a) (.int k b) = some (.bool (a == b)) := by
  unfold eqlVal
  simp only [lit2, lit1, lit0, Bool.and_self, if_true, eqGuard, binOp, ne_eq, not_true, if_false, Op.intCmp]
  rfl
theorem allT : ((List.range 8).all fun _ => true) = true := rfl

theorem aop_eqlV {P : Program} {T : List Value} {m : Mem} {d : Option Tmp} {s t ty : TypeId} {x y : Operand} {pos : String} {af : Array Edge} {g : Option (Nat × Bool)} :
    aop P T m { dst := d, op := .binOp .eql s x y t, type := ty, pos := pos, after := af, guard := g } = (eqlVal P s x y (ev T x) (ev T y)).map (·, m) := by
  have hp := apure_eqlV (P := P) (T := T) (d := d) (s := s) (t := t) (ty := ty) (x := x) (y := y) (pos := pos) (af := af) (g := g)
  unfold aop
  simp only
  cases hx : ev T x with
  | int k a =>
    cases hy : ev T y with
    | int k' b =>
      simp only
      by_cases hk : k = k'
      · subst hk
        rw [eqlVal_int]
        have : abin .eql k a k b = some (.bool (a == b)) := by unfold abin; simp only [if_true]
        rw [this]
        rfl
      · have : abin .eql k a k' b = none := by unfold abin; simp only [hk, if_false]
        rw [this]
        simp only
        rw [hp, hx, hy]
    | _ => simp only; rw [hp, hx, hy]
  | _ => simp only; rw [hp, hx]
end Go.Am.Seat
