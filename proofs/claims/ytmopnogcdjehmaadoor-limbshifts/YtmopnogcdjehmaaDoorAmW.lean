/-
  The Builder's String on the abstract machine (own work).
-/
import Derived.Test.YtmopnogcdjehmaaDoorAmV
import Derived.Lib.UnsafeStr
set_option linter.unusedSimpArgs false
set_option linter.unusedVariables false
namespace Go.Am.Seat
open Go.Proofs Go.Am
set_option maxRecDepth 100000

noncomputable def ops64 : Array Oper := match Tryd.f69.body with
  | some (.seq _ (.seq (.region _ ops _) _)) => ops
  | _ => #[]
noncomputable def ops64a : Array Oper := match Tryd.f69.body with
  | some (.seq (.region _ ops _) _) => ops
  | _ => #[]
theorem body64 : Tryd.f69.body = some (.seq (.region 0 ops64a false) (.seq (.region 1 ops64 true) .ret)) := rfl

theorem bytesOf_map : ∀ (l : List Int), bytesOf (l.map (.int .u8)) = some (l.map fun n => UInt8.ofNat n.toNat)
  | [] => rfl
  | a :: l => by
    simp only [List.map_cons, bytesOf, bytesOf_map l]

theorem E_strict : E.strict = true := rfl

section
variable {K : List Fact} {n q : Nat} {m : Mem}

theorem usString {b : Nat} {l : List Int} (hb : m[b]? = some (.row false 5 (l.map (.int .u8)))) (h0 : l ≠ []) (hl : l.length ≤ 10000000) :
    ausString E.P 118 (.pointer (some ⟨b, 0, none⟩)) (.int .i64 (l.length : Nat)) m = some (.string ⟨(l.map fun n => UInt8.ofNat n.toNat).toArray⟩, m.set b (.row true 5 (l.map (.int .u8)))) := by
  have hlen : 0 < l.length := List.length_pos_iff.2 h0
  unfold ausString
  simp only [hb, show E.P.underlying 118 = some (.pointer 5) from Tryd.underlying118]
  rw [if_neg (by omega), if_pos (by omega)]
  have hc : E.P.cellsOf 5 = 1 := by kernel_rfl
  have hlies : liesAt E.P E.P.depth 5 ((l.map (Value.int .u8)).length / E.P.cellsOf 5) 0 5 ((l.length : Nat) : Int).toNat = true := Lib.liesAt_bytes hc _ _ (by rw [hc]; simp)
  rw [if_pos ⟨hlies, by simp⟩]
  have ht : ((l.map (Value.int .u8)).drop 0).take ((l.length : Nat) : Int).toNat = l.map (.int .u8) := by
    rw [List.drop_zero, List.take_of_length_le (by simp)]
  rw [ht, bytesOf_map]

theorem stringOf (hK : hasF K 69 = false) {l : List Int} (hb : Buf m q l) (hne : l ≠ []) (hl : l.length ≤ 10000000) :
    ∃ m', runK E mem2 K (n + 1) 69 [.pointer (some ⟨q, 0, none⟩)] m = some (.string ⟨(l.map fun n => UInt8.ofNat n.toNat).toArray⟩, m') := by
  rw [runK_other hK, abody_eqN (by kernel_rfl) Tryd.func69 body64 (by kernel_rfl)]
  rcases hb with ⟨rfl, hq⟩ | ⟨b, hqb, hq, hbb, _⟩
  · exact absurd rfl hne
  rw [show ([Value.pointer (some ⟨q, 0, none⟩)] ++ List.replicate (Tryd.f69.ntmps - [Value.pointer (some ⟨q, 0, none⟩)].length) undef) = [.pointer (some ⟨q, 0, none⟩), undef, undef, undef, undef, undef, undef, undef, undef, undef, undef, undef, undef, undef] from rfl]
  have hqs : (m.map sealed)[q]? = some (.row true 91 [.pointer (some ⟨q, 0, none⟩), .slice (some ⟨b, 0, none⟩) l.length l.length]) := by
    rw [List.getElem?_map, hq]
    rfl
  have hc : cellAt (m.map sealed) q 1 = some (.slice (some ⟨b, 0, none⟩) l.length l.length) := cellAt_row hqs 1
  have hl0 : ¬ l.length = 0 := fun h => hne (List.eq_nil_of_length_eq_zero h)
  have e3 : earlyB E.P E.wr ops64 3 = false := by kernel_rfl
  have e4 : earlyB E.P E.wr ops64 4 = false := by kernel_rfl
  have e8 : earlyB E.P E.wr ops64 8 = false := by kernel_rfl
  have l3 : looseB E.P E.wr ops64 3 = false := by kernel_rfl
  have l4 : looseB E.P E.wr ops64 4 = false := by kernel_rfl
  have l8 : looseB E.P E.wr ops64 8 = false := by kernel_rfl
  have hops : ops64.toList = ops64.toList := rfl
  conv at hops => rhs; simp only [ops64, Tryd.f69]
  have hopsa : ops64a.toList = ops64a.toList := rfl
  conv at hopsa => rhs; simp only [ops64a, Tryd.f69]
  simp only [acodeN, aopsN, hopsa, hops, adrawN, agd, cls, astep, aop, afloat, ev, nth_zero, nth_succ, aput, setAt_zero, setAt_succ, Option.map_some, fa86_1, load35, hc, e3, e4, e8, l3, l4, l8, abuiltin, List.map_cons, List.map_nil, Nat.zero_add, Bool.not_false, Bool.or_true, Bool.true_or, if_true, List.length_map, if_neg hl0, alen, show E.P.underlying 35 = some (.slice 5) from Tryd.underlying35, usString hbb hne hl]
  exact ⟨_, rfl⟩
end
end Go.Am.Seat
