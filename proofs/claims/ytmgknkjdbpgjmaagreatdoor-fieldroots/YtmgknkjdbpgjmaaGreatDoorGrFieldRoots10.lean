/-
  Texts of my own, put together: V, W, X, Y, O, O2, O3, O4, M1.
-/
import Derived.Test.YtmgknkjdbpgjmaaGreatDoorGrFieldRoots9
import Derived.Test.YtmgknkjdbpgjmaaGreatDoorGrFieldRoots8
import Derived.Lib.UnsafeStr
set_option linter.unusedSimpArgs false
set_option linter.unusedVariables false
set_option maxRecDepth 100000
namespace Go.Am.Seat
open Go.Proofs Go.Am
section
variable {K : List Fact} {n q : Nat} {m : Mem}
def Keeps (m : Mem) (q : Nat) (m' : Mem) : Prop := ∀ k, k < q → m'[k]? = m[k]?
theorem Keeps.trans {m1 m2 m3 : Mem} {q : Nat} (h : Keeps m1 q m2) (h' : Keeps m2 q m3) : Keeps m1 q m3 := fun k hk => (h' k hk).trans (h k hk)
theorem lt_of_at {b : Nat} {x : Blk} (h : m[b]? = some x) : b < m.length := (List.getElem?_eq_some_iff.1 h).1
end
end Go.Am.Seat
namespace Go.Am.Seat
open Go.Proofs Go.Am
theorem bytesOf_map : ∀ (l : List Int), bytesOf (l.map (.int .u8)) = some (l.map fun n => UInt8.ofNat n.toNat)
  | [] => rfl
  | a :: l => by
    simp only [List.map_cons, bytesOf, bytesOf_map l]
section
variable {K : List Fact} {n q : Nat} {m : Mem}
end
end Go.Am.Seat
namespace Go.Am.Seat
open Go.Proofs Go.Am
theorem lss64 (a b : Int) : abin .lss .i64 a .i64 b = some (.bool (decide (a < b))) := by kernel_rfl
section
variable {self : Self} {nf p q : Nat} {m m1 m2 m3 : Mem}
end
end Go.Am.Seat
namespace Go.Am.Seat
open Go.Proofs Go.Am
section
variable {K : List Fact} {n nf p q : Nat} {m : Mem}
end
end Go.Am.Seat
namespace Go.Am.Seat
open Go.Proofs Go.Am
def bytesOfL (l : List UInt8) : ByteArray := ⟨l.toArray⟩
theorem bytesOfL_list (l : List UInt8) : (bytesOfL l).data.toList = l := rfl
theorem und9 : E.P.underlying 9 = some .string := Tryz.underlying9
theorem und5 : E.P.underlying 5 = some (.int .u8) := Tryz.underlying5
theorem und4 : E.P.underlying 4 = some .bool := Tryz.underlying4
theorem und3 : E.P.underlying 3 = some (.int .i64) := Tryz.underlying3
theorem uns : E.P.underlying 3 = some (.int .i64) ∧ E.P.underlying 4 = some .bool ∧ E.P.underlying 5 = some (.int .u8) ∧ E.P.underlying 9 = some .string := ⟨und3, und4, und5, und9⟩
theorem bw3 (b : UInt8) : wrapF .i64 ((b.toNat : Nat) : Int) = ((b.toNat : Nat) : Int) := by
  have := b.toNat_lt
  exact wrap_i64 (by omega) (by omega)
theorem w1 {i : Nat} (h : i < 1000000000) : wrapF .i64 ((i : Int) + 1) = ((i + 1 : Nat) : Int) := by
  rw [wrap_i64 (by omega) (by omega)]
  omega
theorem add64' (a b : Int) : abin .add .i64 a .i64 b = some (.int .i64 (wrapF .i64 (a + b))) := by kernel_rfl
theorem conv5_3 (k : Int) : aconv E.P 5 3 (.int .u8 k) = some (.int .i64 (wrapF .i64 k)) := by kernel_rfl
theorem index9 {s : ByteArray} {i : Nat} {b : UInt8} (h : s.data.toList[i]? = some b) : aindex E.P 9 (.string s) (.int .i64 (i : Nat)) = some (.int .u8 (b.toNat : Int)) := by
  unfold aindex
  simp only [und9]
  rw [if_pos (by omega), Int.toNat_natCast, h]
-- ntmps 35
section
variable {self : Self} {nf : Nat} {m : Mem} {F : Nat → Value} {s out : ByteArray} {i : Nat}
end
end Go.Am.Seat
namespace Go.Am.Seat
open Go.Proofs Go.Am
-- ntmps 10
-- ntmps 21
-- ntmps 54
theorem conv3_5 (k : Int) : aconv E.P 3 5 (.int .i64 k) = some (.int .u8 (k % 256)) := by kernel_rfl
theorem aconv35 (a : Addr) (n c : Nat) : aconv E.P 51 9 (.slice (some a) n c) = none := by kernel_rfl
theorem conv35_str {m : Mem} {b n c : Nat} {ro : Bool} {e : TypeId} {l : List Int} {cs : List Value} (hm : m[b]? = some (.row ro e cs)) (hcs : cs.take n = l.map (.int .u8)) (hn : n ≤ cs.length) :
    aconvB E.P 51 9 (.slice (some ⟨b, 0, none⟩) n c) m = some (.string (bytesOfL (l.map fun n => UInt8.ofNat n.toNat)), m) := by
  unfold aconvB
  simp only [show E.P.underlying 51 = some (.slice 5) from Tryz.underlying51, und9, und5]
  have hs : asrc m 1 (.slice (some ⟨b, 0, none⟩) n c) = some (n, l.map (.int .u8)) := by
    unfold asrc
    simp only [lookRow hm]
    rw [if_pos (by omega), List.drop_zero, Nat.mul_one, hcs]
  rw [hs]
  simp only [bytesOf_map]
  rfl
section
variable {self : Self} {nf : Nat} {m : Mem} {F : Nat → Value} {s out : ByteArray} {i : Nat}
end
end Go.Am.Seat
namespace Go.Am.Seat
open Go.Proofs Go.Am
theorem rem2 (k : Int) : abin .rem .i64 k .i64 2 = some (.int .i64 (k.tmod 2)) := by kernel_rfl
theorem quo2 (k : Int) : abin .quo .i64 k .i64 2 = some (.int .i64 (wrapF .i64 (k.tdiv 2))) := by kernel_rfl
theorem neq64 (a b : Int) : abin .neq .i64 a .i64 b = some (.bool (a != b)) := by kernel_rfl
theorem ainv_lit {self : Self} {g : FuncId} {args : List Value} {m m1 : Mem} {v : Value} (ha : args.all lit2 = true) (hf : E.fast g = none) (h : self g args ((m.take E.G).map onlyTab) = some (v, m1)) (hv : lit2 v = true) : ainv E self g args m = some (v, m) := by
  unfold ainv
  rw [if_pos ha, hf, h]
  simp only
  unfold acoll
  rw [if_pos hv]
section
variable {self : Self} {nf : Nat} {m : Mem} {F : Nat → Value} {s : ByteArray} {k b cap : Nat} {cs : List Value}
theorem w2 {i : Nat} (h : i < 1000000000) : wrapF .i64 ((i : Int) + 2) = ((i + 2 : Nat) : Int) := by
  rw [wrap_i64 (by omega) (by omega)]
  omega
end
end Go.Am.Seat
namespace Go.Am.Seat
open Go.Proofs Go.Am
-- ntmps 28
-- ntmps 25
-- ntmps 30
section
variable {K : List Fact} {n q c : Nat} {m : Mem} {l : List Int}
end
theorem bl (b : UInt8) : wrapF .u8 ((((((b.toNat : Nat) : Int) % 256).toNat &&& ((15 : Int) % 256).toNat : Nat)) : Int) = ((b.toNat % 16 : Nat) : Int) := by
  have h := b.toNat_lt
  have e1 : (((b.toNat : Nat) : Int) % 256).toNat = b.toNat := by omega
  have e2 : ((15 : Int) % 256).toNat = 2 ^ 4 - 1 := rfl
  rw [e1, e2, Nat.and_two_pow_sub_one_eq_mod]
  simp only [wrapF]
  omega
section
variable {self : Self} {nf q c : Nat} {m : Mem} {F : Nat → Value} {s : ByteArray} {i : Nat}
end
theorem sub64' (a b : Int) : abin .sub .i64 a .i64 b = some (.int .i64 (wrapF .i64 (a - b))) := by kernel_rfl
theorem mul64' (a b : Int) : abin .mul .i64 a .i64 b = some (.int .i64 (wrapF .i64 (a * b))) := by kernel_rfl
section
variable {self : Self} {nf q n : Nat} {m : Mem}
end
end Go.Am.Seat
namespace Go.Am.Seat
open Go.Proofs Go.Am
-- ntmps 45
-- ntmps 45
-- ntmps 21
-- ntmps 19
def rowOf (w : Nat → Nat) : List Value := (List.range 8).map fun j => .int .u64 ((w j : Nat) : Int)
def wide (w : Nat → Nat) : Value := .agg ⟨rowOf w⟩
theorem rowOf_get {w : Nat → Nat} {j : Nat} (h : j < 8) : (rowOf w)[j]? = some (.int .u64 ((w j : Nat) : Int)) := by
  unfold rowOf
  rw [List.getElem?_map, List.getElem?_range h]
  rfl
theorem rowOf_lit (w : Nat → Nat) : (rowOf w).all lit0 = true := by
  unfold rowOf
  rw [List.all_map, List.all_eq_true]
  intro x _
  rfl
theorem wide_lit (w : Nat → Nat) : lit2 (wide w) = true := rowOf_lit w
theorem info22 : ∃ i, E.P.info? 25 = some i ∧ i.size = 1 := by
  have h : (E.P.info? 25).map (·.size) = some 1 := by kernel_rfl
  exact Option.map_eq_some_iff.1 h
theorem und24 : E.P.underlying 63 = some (.array 8 25) := Tryz.underlying63
theorem und22 : E.P.underlying 25 = some (.int .u64) := Tryz.underlying25
theorem ix24 {p k : Nat} (h : k < 8) : aindexAddr E.P 63 (.pointer (some ⟨p, 0, none⟩)) (.int .i64 (k : Nat)) = some (.pointer (some ⟨p, k, none⟩)) := by
  obtain ⟨i, h1, h2⟩ := info22
  unfold aindexAddr
  simp only [und24, h1, h2]
  rw [if_pos (by omega)]
  simp
theorem load22 (b o : Nat) (m : Mem) : aload E.P 25 (.pointer (some ⟨b, o, none⟩)) m = cellAt m b o := aload_cell und22 rfl b o m
theorem shrN {x n : Nat} (hn : n ≤ 64) : abin .shr .u64 ((x : Nat) : Int) .i64 ((n : Nat) : Int) = some (.int .u64 ((x / 2 ^ n : Nat) : Int)) := by
  unfold abin
  simp only
  rw [if_neg (by omega), Int.toNat_natCast, show IntKind.u64.bits = 64 from rfl, Nat.min_eq_left hn, Int.fdiv_eq_ediv_of_nonneg _ (by exact Int.natCast_nonneg _)]
  congr 2
theorem orN {x y : Nat} (hx : x < 18446744073709551616) (hy : y < 18446744073709551616) : abin .or .u64 ((x : Nat) : Int) .u64 ((y : Nat) : Int) = some (.int .u64 ((x ||| y : Nat) : Int)) := by
  unfold abin abits
  simp only [if_true, Option.map_some, pow2]
  have e1 : (((x : Nat) : Int) % 18446744073709551616).toNat = x := by omega
  have e2 : (((y : Nat) : Int) % 18446744073709551616).toNat = y := by omega
  have h : x ||| y < 2 ^ 64 := Nat.or_lt_two_pow (by omega) (by omega)
  rw [e1, e2]
  simp only [wrapF]
  congr 2
  omega
theorem and1 {x : Nat} (hx : x < 18446744073709551616) : abin .and .u64 ((x : Nat) : Int) .u64 1 = some (.int .u64 ((x % 2 : Nat) : Int)) := by
  unfold abin abits
  simp only [if_true, Option.map_some, pow2]
  have e1 : (((x : Nat) : Int) % 18446744073709551616).toNat = x := by omega
  have e2 : ((1 : Int) % 18446744073709551616).toNat = 2 ^ 1 - 1 := rfl
  rw [e1, e2, Nat.and_two_pow_sub_one_eq_mod]
  simp only [wrapF]
  congr 2
  omega
theorem gtr64' (a b : Int) : abin .gtr .i64 a .i64 b = some (.bool (decide (a > b))) := by kernel_rfl
theorem wsub1 {a : Nat} (h : 1 ≤ a) (ha : a < 1000000) : wrapF .i64 (((a : Nat) : Int) - 1) = ((a - 1 : Nat) : Int) := by
  rw [wrap_i64 (by omega) (by omega)]; omega
section
variable {self : Self} {nf : Nat} {M : Mem} {F : Nat → Value} {p q : Nat} {w out : Nat → Nat} {far near i : Nat} {rp : Bool}
end
end Go.Am.Seat
