/-
  Texts of my own, put together: V, W, X, Y, O, O2, O3, O4, M1, M2, M3.
-/
import Derived.Test.YtfgincdpgdlfnaaDoorGrLimbTexts9
import Derived.Test.YtfgincdpgdlfnaaDoorGrLimbTexts8
import Derived.Lib.UnsafeStr
set_option linter.unusedSimpArgs false
set_option linter.unusedVariables false
set_option maxRecDepth 100000
namespace Go.Am.Seat
open Go.Proofs Go.Am
theorem build35 (c : Int) (m : Mem) : abuildSlice E.P 41 1 [(0, .int .u8 c)] m = some (.slice (some ⟨m.length, 0, none⟩) 1 1, m ++ [.row false 5 [.int .u8 c]]) := by kernel_rfl
section
variable {K : List Fact} {n q : Nat} {m : Mem}
def Keeps (m : Mem) (q : Nat) (m' : Mem) : Prop := ∀ k, k < q → m'[k]? = m[k]?
theorem Keeps.trans {m1 m2 m3 : Mem} {q : Nat} (h : Keeps m1 q m2) (h' : Keeps m2 q m3) : Keeps m1 q m3 := fun k hk => (h' k hk).trans (h k hk)
theorem lt_of_at {b : Nat} {x : Blk} (h : m[b]? = some x) : b < m.length := (List.getElem?_eq_some_iff.1 h).1
end
end Go.Am.Seat
namespace Go.Am.Seat
open Go.Proofs Go.Am
theorem bytesOf_map : ∀ (l : List Int), bytesOf (l.map (.int .u8)) = some (l.map fun n => UInt8.ofNat n.toNat)
  | [] => rfl
  | a :: l => by
    simp only [List.map_cons, bytesOf, bytesOf_map l]
section
variable {K : List Fact} {n q : Nat} {m : Mem}
end
end Go.Am.Seat
namespace Go.Am.Seat
open Go.Proofs Go.Am
theorem lss64 (a b : Int) : abin .lss .i64 a .i64 b = some (.bool (decide (a < b))) := by kernel_rfl
section
variable {self : Self} {nf p q : Nat} {m m1 m2 m3 : Mem}
end
end Go.Am.Seat
namespace Go.Am.Seat
open Go.Proofs Go.Am
section
variable {K : List Fact} {n nf p q : Nat} {m : Mem}
end
end Go.Am.Seat
namespace Go.Am.Seat
open Go.Proofs Go.Am
def bytesOfL (l : List UInt8) : ByteArray := ⟨l.toArray⟩
theorem bytesOfL_list (l : List UInt8) : (bytesOfL l).data.toList = l := rfl
theorem und9 : E.P.underlying 9 = some .string := Tryd.underlying9
theorem und5 : E.P.underlying 5 = some (.int .u8) := Tryd.underlying5
theorem und4 : E.P.underlying 4 = some .bool := Tryd.underlying4
theorem und3 : E.P.underlying 3 = some (.int .i64) := Tryd.underlying3
theorem uns : E.P.underlying 3 = some (.int .i64) ∧ E.P.underlying 4 = some .bool ∧ E.P.underlying 5 = some (.int .u8) ∧ E.P.underlying 9 = some .string := ⟨und3, und4, und5, und9⟩
theorem bw3 (b : UInt8) : wrapF .i64 ((b.toNat : Nat) : Int) = ((b.toNat : Nat) : Int) := by
  have := b.toNat_lt
  exact wrap_i64 (by omega) (by omega)
theorem w1 {i : Nat} (h : i < 1000000000) : wrapF .i64 ((i : Int) + 1) = ((i + 1 : Nat) : Int) := by
  rw [wrap_i64 (by omega) (by omega)]
  omega
theorem add64' (a b : Int) : abin .add .i64 a .i64 b = some (.int .i64 (wrapF .i64 (a + b))) := by kernel_rfl
theorem conv5_3 (k : Int) : aconv E.P 5 3 (.int .u8 k) = some (.int .i64 (wrapF .i64 k)) := by kernel_rfl
theorem index9 {s : ByteArray} {i : Nat} {b : UInt8} (h : s.data.toList[i]? = some b) : aindex E.P 9 (.string s) (.int .i64 (i : Nat)) = some (.int .u8 (b.toNat : Int)) := by
  unfold aindex
  simp only [und9]
  rw [if_pos (by omega), Int.toNat_natCast, h]
-- ntmps 35
section
variable {self : Self} {nf : Nat} {m : Mem} {F : Nat → Value} {s out : ByteArray} {i : Nat}
end
end Go.Am.Seat
namespace Go.Am.Seat
open Go.Proofs Go.Am
-- ntmps 10
-- ntmps 21
-- ntmps 54
theorem conv3_5 (k : Int) : aconv E.P 3 5 (.int .i64 k) = some (.int .u8 (k % 256)) := by kernel_rfl
theorem aconv35 (a : Addr) (n c : Nat) : aconv E.P 41 9 (.slice (some a) n c) = none := by kernel_rfl
theorem conv35_str {m : Mem} {b n c : Nat} {ro : Bool} {e : TypeId} {l : List Int} {cs : List Value} (hm : m[b]? = some (.row ro e cs)) (hcs : cs.take n = l.map (.int .u8)) (hn : n ≤ cs.length) :
    aconvB E.P 41 9 (.slice (some ⟨b, 0, none⟩) n c) m = some (.string (bytesOfL (l.map fun n => UInt8.ofNat n.toNat)), m) := by
  unfold aconvB
  simp only [show E.P.underlying 41 = some (.slice 5) from Tryd.underlying41, und9, und5]
  have hs : asrc m 1 (.slice (some ⟨b, 0, none⟩) n c) = some (n, l.map (.int .u8)) := by
    unfold asrc
    simp only [lookRow hm]
    rw [if_pos (by omega), List.drop_zero, Nat.mul_one, hcs]
  rw [hs]
  simp only [bytesOf_map]
  rfl
section
variable {self : Self} {nf : Nat} {m : Mem} {F : Nat → Value} {s out : ByteArray} {i : Nat}
end
end Go.Am.Seat
namespace Go.Am.Seat
open Go.Proofs Go.Am
theorem neq64 (a b : Int) : abin .neq .i64 a .i64 b = some (.bool (a != b)) := by kernel_rfl
theorem ainv_lit {self : Self} {g : FuncId} {args : List Value} {m m1 : Mem} {v : Value} (ha : args.all lit2 = true) (hf : E.fast g = none) (h : self g args ((m.take E.G).map onlyTab) = some (v, m1)) (hv : lit2 v = true) : ainv E self g args m = some (v, m) := by
  unfold ainv
  rw [if_pos ha, hf, h]
  simp only
  unfold acoll
  rw [if_pos hv]
section
variable {self : Self} {nf : Nat} {m : Mem} {F : Nat → Value} {s : ByteArray} {k b cap : Nat} {cs : List Value}
theorem w2 {i : Nat} (h : i < 1000000000) : wrapF .i64 ((i : Int) + 2) = ((i + 2 : Nat) : Int) := by
  rw [wrap_i64 (by omega) (by omega)]
  omega
end
end Go.Am.Seat
namespace Go.Am.Seat
open Go.Proofs Go.Am
-- ntmps 28
-- ntmps 25
-- ntmps 30
theorem ainv_wr {self : Self} {g : FuncId} {args : List Value} {m : Mem} (hw : E.wr g = true) (ha : args.all lit2 = false) : ainv E self g args m = self g args m := by
  unfold ainv
  rw [ha]
  simp only [Bool.false_eq_true, if_false, hw, if_true]
section
variable {K : List Fact} {n q c : Nat} {m : Mem} {l : List Int}
end
theorem index9k {kd : IntKind} {s : ByteArray} {i : Nat} {b : UInt8} (h : s.data.toList[i]? = some b) : aindex E.P 9 (.string s) (.int kd (i : Nat)) = some (.int .u8 (b.toNat : Int)) := by
  unfold aindex
  simp only [und9]
  rw [if_pos (by omega), Int.toNat_natCast, h]
theorem bl (b : UInt8) : wrapF .u8 ((((((b.toNat : Nat) : Int) % 256).toNat &&& ((15 : Int) % 256).toNat : Nat)) : Int) = ((b.toNat % 16 : Nat) : Int) := by
  have h := b.toNat_lt
  have e1 : (((b.toNat : Nat) : Int) % 256).toNat = b.toNat := by omega
  have e2 : ((15 : Int) % 256).toNat = 2 ^ 4 - 1 := rfl
  rw [e1, e2, Nat.and_two_pow_sub_one_eq_mod]
  simp only [wrapF]
  omega
section
variable {self : Self} {nf q c : Nat} {m : Mem} {F : Nat → Value} {s : ByteArray} {i : Nat}
end
theorem sub64' (a b : Int) : abin .sub .i64 a .i64 b = some (.int .i64 (wrapF .i64 (a - b))) := by kernel_rfl
theorem mul64' (a b : Int) : abin .mul .i64 a .i64 b = some (.int .i64 (wrapF .i64 (a * b))) := by kernel_rfl
theorem und35 : E.P.underlying 41 = some (.slice 5) := Tryd.underlying41
section
variable {self : Self} {nf q n : Nat} {m : Mem}
end
end Go.Am.Seat
namespace Go.Am.Seat
open Go.Proofs Go.Am
-- ntmps 45
-- ntmps 45
-- ntmps 21
-- ntmps 19
def rowOf (w : Nat → Nat) : List Value := (List.range 8).map fun j => .int .u64 ((w j : Nat) : Int)
def wide (w : Nat → Nat) : Value := .agg ⟨rowOf w⟩
theorem rowOf_length (w : Nat → Nat) : (rowOf w).length = 8 := by simp [rowOf]
theorem rowOf_get {w : Nat → Nat} {j : Nat} (h : j < 8) : (rowOf w)[j]? = some (.int .u64 ((w j : Nat) : Int)) := by
  unfold rowOf
  rw [List.getElem?_map, List.getElem?_range h]
  rfl
theorem rowOf_set {w : Nat → Nat} {i x : Nat} : (rowOf w).set i (.int .u64 ((x : Nat) : Int)) = rowOf (fun j => if j = i then x else w j) := by
  apply List.ext_getElem?
  intro k
  rw [List.getElem?_set]
  by_cases hk : k < 8
  · rw [rowOf_get hk, rowOf_get hk, rowOf_length]
    by_cases h : i = k
    · subst h; simp [hk]
    · have h' : ¬ k = i := fun e => h e.symm
      simp [h, h']
  · rw [List.getElem?_eq_none (by rw [rowOf_length]; omega), List.getElem?_eq_none (by rw [rowOf_length]; omega), rowOf_length]
    by_cases h : i = k
    · subst h; simp [hk]
    · simp [h]
theorem rowOf_lit (w : Nat → Nat) : (rowOf w).all lit0 = true := by
  unfold rowOf
  rw [List.all_map, List.all_eq_true]
  intro x _
  rfl
theorem rowOf_ok (w : Nat → Nat) : (rowOf w).all cellOk = true := by
  unfold rowOf
  rw [List.all_map, List.all_eq_true]
  intro x _
  rfl
theorem wide_lit (w : Nat → Nat) : lit2 (wide w) = true := rowOf_lit w
theorem info24 : ∃ i, E.P.info? 24 = some i ∧ i.size = 8 := by
  have h : (E.P.info? 24).map (·.size) = some 8 := by kernel_rfl
  exact Option.map_eq_some_iff.1 h
theorem info22 : ∃ i, E.P.info? 22 = some i ∧ i.size = 1 := by
  have h : (E.P.info? 22).map (·.size) = some 1 := by kernel_rfl
  exact Option.map_eq_some_iff.1 h
theorem und24 : E.P.underlying 24 = some (.array 8 22) := Tryd.underlying24
theorem und22 : E.P.underlying 22 = some (.int .u64) := Tryd.underlying22
theorem box24 (w : Nat → Nat) (m : Mem) : abox E.P 24 (wide w) m = some (.pointer (some ⟨m.length, 0, none⟩), m ++ [.row false 24 (rowOf w)]) := by
  obtain ⟨i, h1, _⟩ := info24
  unfold abox wide
  simp only [h1, vcells, rowOf_ok, if_true]
theorem alloc24 (m : Mem) : aalloc E.P 24 m = some (.pointer (some ⟨m.length, 0, none⟩), m ++ [.row false 24 (rowOf fun _ => 0)]) := by kernel_rfl
theorem load24 {m : Mem} {p : Nat} {ro : Bool} {w : Nat → Nat} {e : TypeId} (h : m[p]? = some (.row ro e (rowOf w))) : aload E.P 24 (.pointer (some ⟨p, 0, none⟩)) m = some (wide w) := by
  obtain ⟨i, h1, h2⟩ := info24
  unfold aload
  simp only [lookRow h, und24, aggD, h1, h2]
  rw [if_pos (by rw [rowOf_length]; omega), List.drop_zero, List.take_of_length_le (by rw [rowOf_length]; omega)]
  rfl
theorem store24 {m : Mem} {p : Nat} {w : Nat → Nat} {e : TypeId} {cs : List Value} (h : m[p]? = some (.row false e cs)) (hl : cs.length = 8) : astore E.P 24 (.pointer (some ⟨p, 0, none⟩)) (wide w) m = some (m.set p (.row false e (rowOf w))) := by
  obtain ⟨i, h1, h2⟩ := info24
  unfold astore wide
  simp only [h, vcells, rowOf_ok, if_true, h1, h2]
  rw [if_pos ⟨rowOf_length w, by rw [rowOf_length]; omega⟩]
  congr 2
  have : lay cs 0 (rowOf w) = rowOf w := by
    unfold lay
    split
    · rename_i v hv
      have := congrArg List.length hv
      rw [rowOf_length] at this
      simp at this
    · rw [List.take_zero, List.nil_append, List.drop_of_length_le (by rw [rowOf_length]; omega), List.append_nil]
  rw [this]
theorem ix24 {p k : Nat} (h : k < 8) : aindexAddr E.P 24 (.pointer (some ⟨p, 0, none⟩)) (.int .i64 (k : Nat)) = some (.pointer (some ⟨p, k, none⟩)) := by
  obtain ⟨i, h1, h2⟩ := info22
  unfold aindexAddr
  simp only [und24, h1, h2]
  rw [if_pos (by omega)]
  simp
theorem load22 (b o : Nat) (m : Mem) : aload E.P 22 (.pointer (some ⟨b, o, none⟩)) m = cellAt m b o := aload_cell und22 rfl b o m
theorem store22 {m : Mem} {p k x : Nat} {w : Nat → Nat} (h : m[p]? = some (.row false 24 (rowOf w))) (hk : k < 8) : astore E.P 22 (.pointer (some ⟨p, k, none⟩)) (.int .u64 ((x : Nat) : Int)) m = some (m.set p (.row false 24 (rowOf (fun j => if j = k then x else w j)))) := by
  obtain ⟨i, h1, h2⟩ := info22
  rw [astore_cell h1 h2 h (by rw [rowOf_length]; exact hk) rfl, rowOf_set]
theorem shlN {x n : Nat} (hn : n ≤ 64) : abin .shl .u64 ((x : Nat) : Int) .i64 ((n : Nat) : Int) = some (.int .u64 ((x * 2 ^ n % 18446744073709551616 : Nat) : Int)) := by
  unfold abin
  simp only
  rw [if_neg (by omega), Int.toNat_natCast, show IntKind.u64.bits = 64 from rfl, Nat.min_eq_left hn]
  simp only [wrapF]
  congr 2
theorem shrN {x n : Nat} (hn : n ≤ 64) : abin .shr .u64 ((x : Nat) : Int) .i64 ((n : Nat) : Int) = some (.int .u64 ((x / 2 ^ n : Nat) : Int)) := by
  unfold abin
  simp only
  rw [if_neg (by omega), Int.toNat_natCast, show IntKind.u64.bits = 64 from rfl, Nat.min_eq_left hn, Int.fdiv_eq_ediv_of_nonneg _ (by exact Int.natCast_nonneg _)]
  congr 2
theorem orN {x y : Nat} (hx : x < 18446744073709551616) (hy : y < 18446744073709551616) : abin .or .u64 ((x : Nat) : Int) .u64 ((y : Nat) : Int) = some (.int .u64 ((x ||| y : Nat) : Int)) := by
  unfold abin abits
  simp only [if_true, Option.map_some, pow2]
  have e1 : (((x : Nat) : Int) % 18446744073709551616).toNat = x := by omega
  have e2 : (((y : Nat) : Int) % 18446744073709551616).toNat = y := by omega
  have h : x ||| y < 2 ^ 64 := Nat.or_lt_two_pow (by omega) (by omega)
  rw [e1, e2]
  simp only [wrapF]
  congr 2
  omega
theorem gtr64' (a b : Int) : abin .gtr .i64 a .i64 b = some (.bool (decide (a > b))) := by kernel_rfl
theorem wsub1 {a : Nat} (h : 1 ≤ a) (ha : a < 1000000) : wrapF .i64 (((a : Nat) : Int) - 1) = ((a - 1 : Nat) : Int) := by
  rw [wrap_i64 (by omega) (by omega)]; omega
def upW (w : Nat → Nat) (far near a : Nat) : Nat := if a < far then 0 else if far < a then (w (a - far) * 2 ^ near % 18446744073709551616) ||| (w (a - far - 1) / 2 ^ (64 - near)) else w (a - far) * 2 ^ near % 18446744073709551616
section
variable {self : Self} {nf : Nat} {M : Mem} {F : Nat → Value} {p q : Nat} {w out : Nat → Nat} {far near i : Nat} {rp : Bool}
end
end Go.Am.Seat
namespace Go.Am.Seat
open Go.Proofs Go.Am
section
variable {self : Self} {nf : Nat} {M : Mem} {F : Nat → Value} {p q : Nat} {w out : Nat → Nat} {far near i : Nat} {rp : Bool}
theorem build24 (T : List Value) (pos : String) (af : Array Edge) (g : Option (Nat × Bool)) (d : Option Tmp) : apure E.P T { dst := d, op := .build 24 #[], type := 24, pos := pos, after := af, guard := g } = some (wide fun _ => 0) := by kernel_rfl
noncomputable def apU (P : Program) (u : UnOp) (t ty : TypeId) (v : Value) : Option Value := apure P [v] { dst := none, op := .unOp u t (.tmp 0), type := ty, pos := "", after := #[], guard := none }
theorem apure_un {P : Program} {T : List Value} {u : UnOp} {t ty : TypeId} {k : Nat} {pos : String} {af : Array Edge} {g : Option (Nat × Bool)} {d : Option Tmp} : apure P T { dst := d, op := .unOp u t (.tmp k), type := ty, pos := pos, after := af, guard := g } = apU P u t ty (nth T k) := by
  unfold apU apure
  simp only [Op.operands, execOp, ev, nth_zero, List.all_cons, List.all_nil]
  rfl
theorem geq64 (a b : Int) : abin .geq .i64 a .i64 b = some (.bool (decide (a ≥ b))) := by kernel_rfl
end
end Go.Am.Seat
namespace Go.Am.Seat
open Go.Proofs Go.Am
noncomputable def rnum_0 : Array Oper := match Tryd.f7.body with
  | some (.seq (.region _ o _) _) => o
  | _ => #[]
noncomputable def lnum_0 : List Oper := match Tryd.f7.body with
  | some (.seq (.region _ o _) _) => o.toList
  | _ => []
theorem enum_0 : rnum_0.toList = lnum_0 := rfl
noncomputable def rnum_1 : Array Oper := match Tryd.f7.body with
  | some (.seq _ (.seq (.region _ o _) _)) => o
  | _ => #[]
noncomputable def lnum_1 : List Oper := match Tryd.f7.body with
  | some (.seq _ (.seq (.region _ o _) _)) => o.toList
  | _ => []
theorem enum_1 : rnum_1.toList = lnum_1 := rfl
noncomputable def rnum_2 : Array Oper := match Tryd.f7.body with
  | some (.seq _ (.seq _ (.seq (.seq (.region _ o _) _) _))) => o
  | _ => #[]
noncomputable def lnum_2 : List Oper := match Tryd.f7.body with
  | some (.seq _ (.seq _ (.seq (.seq (.region _ o _) _) _))) => o.toList
  | _ => []
theorem enum_2 : rnum_2.toList = lnum_2 := rfl
noncomputable def lpnum_0 : Code := match Tryd.f7.body with
  | some (.seq _ (.seq _ (.seq (.seq _ (.block _ (.loop c))) _))) => c
  | _ => .skip
noncomputable def rnum_3 : Array Oper := match Tryd.f7.body with
  | some (.seq _ (.seq _ (.seq (.seq _ (.block _ (.loop (.seq (.region _ o _) _)))) _))) => o
  | _ => #[]
noncomputable def lnum_3 : List Oper := match Tryd.f7.body with
  | some (.seq _ (.seq _ (.seq (.seq _ (.block _ (.loop (.seq (.region _ o _) _)))) _))) => o.toList
  | _ => []
theorem enum_3 : rnum_3.toList = lnum_3 := rfl
noncomputable def rnum_4 : Array Oper := match Tryd.f7.body with
  | some (.seq _ (.seq _ (.seq (.seq _ (.block _ (.loop (.seq _ (.seq _ (.seq (.block _ (.seq (.region _ o _) _)) _)))))) _))) => o
  | _ => #[]
noncomputable def lnum_4 : List Oper := match Tryd.f7.body with
  | some (.seq _ (.seq _ (.seq (.seq _ (.block _ (.loop (.seq _ (.seq _ (.seq (.block _ (.seq (.region _ o _) _)) _)))))) _))) => o.toList
  | _ => []
theorem enum_4 : rnum_4.toList = lnum_4 := rfl
noncomputable def rnum_5 : Array Oper := match Tryd.f7.body with
  | some (.seq _ (.seq _ (.seq (.seq _ (.block _ (.loop (.seq _ (.seq _ (.seq (.block _ (.seq _ (.seq (.region _ o _) _))) _)))))) _))) => o
  | _ => #[]
noncomputable def lnum_5 : List Oper := match Tryd.f7.body with
  | some (.seq _ (.seq _ (.seq (.seq _ (.block _ (.loop (.seq _ (.seq _ (.seq (.block _ (.seq _ (.seq (.region _ o _) _))) _)))))) _))) => o.toList
  | _ => []
theorem enum_5 : rnum_5.toList = lnum_5 := rfl
noncomputable def lpnum_1 : Code := match Tryd.f7.body with
  | some (.seq _ (.seq _ (.seq (.seq _ (.block _ (.loop (.seq _ (.seq _ (.seq (.block _ (.seq _ (.seq _ (.block _ (.loop c))))) _)))))) _))) => c
  | _ => .skip
noncomputable def rnum_6 : Array Oper := match Tryd.f7.body with
  | some (.seq _ (.seq _ (.seq (.seq _ (.block _ (.loop (.seq _ (.seq _ (.seq (.block _ (.seq _ (.seq _ (.block _ (.loop (.seq (.region _ o _) _)))))) _)))))) _))) => o
  | _ => #[]
noncomputable def lnum_6 : List Oper := match Tryd.f7.body with
  | some (.seq _ (.seq _ (.seq (.seq _ (.block _ (.loop (.seq _ (.seq _ (.seq (.block _ (.seq _ (.seq _ (.block _ (.loop (.seq (.region _ o _) _)))))) _)))))) _))) => o.toList
  | _ => []
theorem enum_6 : rnum_6.toList = lnum_6 := rfl
noncomputable def rnum_7 : Array Oper := match Tryd.f7.body with
  | some (.seq _ (.seq _ (.seq (.seq _ (.block _ (.loop (.seq _ (.seq _ (.seq (.block _ (.seq _ (.seq _ (.block _ (.loop (.seq _ (.seq _ (.seq (.block _ (.seq (.region _ o _) _)) _)))))))) _)))))) _))) => o
  | _ => #[]
noncomputable def lnum_7 : List Oper := match Tryd.f7.body with
  | some (.seq _ (.seq _ (.seq (.seq _ (.block _ (.loop (.seq _ (.seq _ (.seq (.block _ (.seq _ (.seq _ (.block _ (.loop (.seq _ (.seq _ (.seq (.block _ (.seq (.region _ o _) _)) _)))))))) _)))))) _))) => o.toList
  | _ => []
theorem enum_7 : rnum_7.toList = lnum_7 := rfl
noncomputable def rnum_8 : Array Oper := match Tryd.f7.body with
  | some (.seq _ (.seq _ (.seq (.seq _ (.block _ (.loop (.seq _ (.seq _ (.seq (.block _ (.seq _ (.seq _ (.block _ (.loop (.seq _ (.seq _ (.seq (.block _ (.seq _ (.region _ o _))) _)))))))) _)))))) _))) => o
  | _ => #[]
noncomputable def lnum_8 : List Oper := match Tryd.f7.body with
  | some (.seq _ (.seq _ (.seq (.seq _ (.block _ (.loop (.seq _ (.seq _ (.seq (.block _ (.seq _ (.seq _ (.block _ (.loop (.seq _ (.seq _ (.seq (.block _ (.seq _ (.region _ o _))) _)))))))) _)))))) _))) => o.toList
  | _ => []
theorem enum_8 : rnum_8.toList = lnum_8 := rfl
noncomputable def rnum_9 : Array Oper := match Tryd.f7.body with
  | some (.seq _ (.seq _ (.seq (.seq _ (.block _ (.loop (.seq _ (.seq _ (.seq (.block _ (.seq _ (.seq _ (.block _ (.loop (.seq _ (.seq _ (.seq _ (.region _ o _))))))))) _)))))) _))) => o
  | _ => #[]
noncomputable def lnum_9 : List Oper := match Tryd.f7.body with
  | some (.seq _ (.seq _ (.seq (.seq _ (.block _ (.loop (.seq _ (.seq _ (.seq (.block _ (.seq _ (.seq _ (.block _ (.loop (.seq _ (.seq _ (.seq _ (.region _ o _))))))))) _)))))) _))) => o.toList
  | _ => []
theorem enum_9 : rnum_9.toList = lnum_9 := rfl
theorem lpnum_1_eq : lpnum_1 = (.seq (.region 6 rnum_6 false) (.seq (.cond (.tmp 11) .skip (.exit 2)) (.seq (.block 3 (.seq (.region 7 rnum_7 false) (.region 8 rnum_8 false))) (.region 9 rnum_9 false)))) := rfl
noncomputable def rnum_10 : Array Oper := match Tryd.f7.body with
  | some (.seq _ (.seq _ (.seq (.seq _ (.block _ (.loop (.seq _ (.seq _ (.seq _ (.region _ o _))))))) _))) => o
  | _ => #[]
noncomputable def lnum_10 : List Oper := match Tryd.f7.body with
  | some (.seq _ (.seq _ (.seq (.seq _ (.block _ (.loop (.seq _ (.seq _ (.seq _ (.region _ o _))))))) _))) => o.toList
  | _ => []
theorem enum_10 : rnum_10.toList = lnum_10 := rfl
theorem lpnum_0_eq : lpnum_0 = (.seq (.region 3 rnum_3 false) (.seq (.cond (.tmp 8) .skip (.exit 0)) (.seq (.block 1 (.seq (.region 4 rnum_4 false) (.seq (.region 5 rnum_5 false) (.block 2 (.loop lpnum_1))))) (.region 10 rnum_10 false)))) := rfl
noncomputable def rnum_11 : Array Oper := match Tryd.f7.body with
  | some (.seq _ (.seq _ (.seq _ (.seq (.region _ o _) _)))) => o
  | _ => #[]
noncomputable def lnum_11 : List Oper := match Tryd.f7.body with
  | some (.seq _ (.seq _ (.seq _ (.seq (.region _ o _) _)))) => o.toList
  | _ => []
theorem enum_11 : rnum_11.toList = lnum_11 := rfl
theorem bodynum : Tryd.f7.body = some (.seq (.region 0 rnum_0 false) (.seq (.region 1 rnum_1 false) (.seq (.seq (.region 2 rnum_2 false) (.block 0 (.loop lpnum_0))) (.seq (.region 11 rnum_11 false) .ret)))) := rfl
-- ntmps 24
noncomputable def rrof_0 : Array Oper := match Tryd.f8.body with
  | some (.seq (.region _ o _) _) => o
  | _ => #[]
noncomputable def lrof_0 : List Oper := match Tryd.f8.body with
  | some (.seq (.region _ o _) _) => o.toList
  | _ => []
theorem erof_0 : rrof_0.toList = lrof_0 := rfl
noncomputable def rrof_1 : Array Oper := match Tryd.f8.body with
  | some (.seq _ (.seq (.region _ o _) _)) => o
  | _ => #[]
noncomputable def lrof_1 : List Oper := match Tryd.f8.body with
  | some (.seq _ (.seq (.region _ o _) _)) => o.toList
  | _ => []
theorem erof_1 : rrof_1.toList = lrof_1 := rfl
noncomputable def rrof_2 : Array Oper := match Tryd.f8.body with
  | some (.seq _ (.seq _ (.seq (.seq (.region _ o _) _) _))) => o
  | _ => #[]
noncomputable def lrof_2 : List Oper := match Tryd.f8.body with
  | some (.seq _ (.seq _ (.seq (.seq (.region _ o _) _) _))) => o.toList
  | _ => []
theorem erof_2 : rrof_2.toList = lrof_2 := rfl
noncomputable def lprof_0 : Code := match Tryd.f8.body with
  | some (.seq _ (.seq _ (.seq (.seq _ (.block _ (.loop c))) _))) => c
  | _ => .skip
noncomputable def rrof_3 : Array Oper := match Tryd.f8.body with
  | some (.seq _ (.seq _ (.seq (.seq _ (.block _ (.loop (.seq (.seq (.region _ o _) _) _)))) _))) => o
  | _ => #[]
noncomputable def lrof_3 : List Oper := match Tryd.f8.body with
  | some (.seq _ (.seq _ (.seq (.seq _ (.block _ (.loop (.seq (.seq (.region _ o _) _) _)))) _))) => o.toList
  | _ => []
theorem erof_3 : rrof_3.toList = lrof_3 := rfl
noncomputable def rrof_5 : Array Oper := match Tryd.f8.body with
  | some (.seq _ (.seq _ (.seq (.seq _ (.block _ (.loop (.seq _ (.seq (.block _ (.region _ o _)) _))))) _))) => o
  | _ => #[]
noncomputable def lrof_5 : List Oper := match Tryd.f8.body with
  | some (.seq _ (.seq _ (.seq (.seq _ (.block _ (.loop (.seq _ (.seq (.block _ (.region _ o _)) _))))) _))) => o.toList
  | _ => []
theorem erof_5 : rrof_5.toList = lrof_5 := rfl
noncomputable def rrof_4 : Array Oper := match Tryd.f8.body with
  | some (.seq _ (.seq _ (.seq (.seq _ (.block _ (.loop (.seq _ (.seq _ (.region _ o _)))))) _))) => o
  | _ => #[]
noncomputable def lrof_4 : List Oper := match Tryd.f8.body with
  | some (.seq _ (.seq _ (.seq (.seq _ (.block _ (.loop (.seq _ (.seq _ (.region _ o _)))))) _))) => o.toList
  | _ => []
theorem erof_4 : rrof_4.toList = lrof_4 := rfl
theorem lprof_0_eq : lprof_0 = (.seq (.seq (.region 3 rrof_3 false) (.cond (.tmp 8) .skip (.exit 0))) (.seq (.block 1 (.region 5 rrof_5 false)) (.region 4 rrof_4 false))) := rfl
noncomputable def rrof_6 : Array Oper := match Tryd.f8.body with
  | some (.seq _ (.seq _ (.seq _ (.seq (.region _ o _) _)))) => o
  | _ => #[]
noncomputable def lrof_6 : List Oper := match Tryd.f8.body with
  | some (.seq _ (.seq _ (.seq _ (.seq (.region _ o _) _)))) => o.toList
  | _ => []
theorem erof_6 : rrof_6.toList = lrof_6 := rfl
theorem bodyrof : Tryd.f8.body = some (.seq (.region 0 rrof_0 false) (.seq (.region 1 rrof_1 false) (.seq (.seq (.region 2 rrof_2 false) (.block 0 (.loop lprof_0))) (.seq (.region 6 rrof_6 false) .ret)))) := rfl
-- ntmps 20
noncomputable def rtrm_0 : Array Oper := match Tryd.f16.body with
  | some (.seq (.region _ o _) _) => o
  | _ => #[]
noncomputable def ltrm_0 : List Oper := match Tryd.f16.body with
  | some (.seq (.region _ o _) _) => o.toList
  | _ => []
theorem etrm_0 : rtrm_0.toList = ltrm_0 := rfl
noncomputable def rtrm_1 : Array Oper := match Tryd.f16.body with
  | some (.seq _ (.seq (.region _ o _) _)) => o
  | _ => #[]
noncomputable def ltrm_1 : List Oper := match Tryd.f16.body with
  | some (.seq _ (.seq (.region _ o _) _)) => o.toList
  | _ => []
theorem etrm_1 : rtrm_1.toList = ltrm_1 := rfl
noncomputable def lptrm_0 : Code := match Tryd.f16.body with
  | some (.seq _ (.seq _ (.seq (.block _ (.loop c)) _))) => c
  | _ => .skip
noncomputable def rtrm_2 : Array Oper := match Tryd.f16.body with
  | some (.seq _ (.seq _ (.seq (.block _ (.loop (.seq (.seq (.region _ o _) _) _))) _))) => o
  | _ => #[]
noncomputable def ltrm_2 : List Oper := match Tryd.f16.body with
  | some (.seq _ (.seq _ (.seq (.block _ (.loop (.seq (.seq (.region _ o _) _) _))) _))) => o.toList
  | _ => []
theorem etrm_2 : rtrm_2.toList = ltrm_2 := rfl
theorem gtrm_2_2 {T : List Value} {dd : Option Tmp} {op : Op} {ty : TypeId} {pos : String} {af : Array Edge} {want : Bool} : agd rtrm_2 T { dst := dd, op := op, type := ty, pos := pos, after := af, guard := some (2, want) } = gdAt T 8 want := agd_at (by kernel_rfl)
noncomputable def rtrm_3 : Array Oper := match Tryd.f16.body with
  | some (.seq _ (.seq _ (.seq (.block _ (.loop (.seq _ (.block _ (.region _ o _))))) _))) => o
  | _ => #[]
noncomputable def ltrm_3 : List Oper := match Tryd.f16.body with
  | some (.seq _ (.seq _ (.seq (.block _ (.loop (.seq _ (.block _ (.region _ o _))))) _))) => o.toList
  | _ => []
theorem etrm_3 : rtrm_3.toList = ltrm_3 := rfl
theorem lptrm_0_eq : lptrm_0 = (.seq (.seq (.region 2 rtrm_2 false) (.cond (.tmp 15) .skip (.exit 0))) (.block 1 (.region 3 rtrm_3 false))) := rfl
noncomputable def rtrm_4 : Array Oper := match Tryd.f16.body with
  | some (.seq _ (.seq _ (.seq _ (.seq (.region _ o _) _)))) => o
  | _ => #[]
noncomputable def ltrm_4 : List Oper := match Tryd.f16.body with
  | some (.seq _ (.seq _ (.seq _ (.seq (.region _ o _) _)))) => o.toList
  | _ => []
theorem etrm_4 : rtrm_4.toList = ltrm_4 := rfl
theorem bodytrm : Tryd.f16.body = some (.seq (.region 0 rtrm_0 false) (.seq (.region 1 rtrm_1 false) (.seq (.block 0 (.loop lptrm_0)) (.seq (.region 4 rtrm_4 false) .ret)))) := rfl
-- ntmps 21
-- ntmps 31
def SL (m : Mem) (e : TypeId) (v : Value) (l : List Value) : Prop :=
  (l = [] ∧ v = .slice none 0 0) ∨ (∃ b, v = .slice (some ⟨b, 0, none⟩) l.length l.length ∧ m[b]? = some (.row false e l) ∧ l ≠ [])
def RowT (sT e : TypeId) : Prop := E.P.underlying sT = some (.slice e) ∧ ∃ i z, E.P.info? e = some i ∧ i.zero = some z ∧ i.size = 1 ∧ i.bytes ≠ 0 ∧ i.bytes ≤ 8 ∧ z.cells.size = 1
theorem rowT_of {sT e : TypeId} (h : E.P.underlying sT = some (.slice e)) {n : Nat} (h1 : (E.P.info? e).map (fun i => (i.size, i.bytes)) = some (1, n)) (h2 : ((E.P.info? e).bind (·.zero)).map (·.cells.size) = some 1) (hn : n ≠ 0) (hn' : n ≤ 8) : RowT sT e := by
  obtain ⟨i, h3, h4⟩ := Option.map_eq_some_iff.1 h1
  rw [h3] at h2
  obtain ⟨z, h5, h6⟩ := Option.map_eq_some_iff.1 h2
  simp only [Prod.mk.injEq] at h4
  exact ⟨h, i, z, h3, h5, h4.1, by omega, by omega, h6⟩
theorem rowU8 : RowT 41 5 := rowT_of und35 (n := 1) (by kernel_rfl) (by kernel_rfl) (by omega) (by omega)
theorem rowNum : RowT 31 3 := rowT_of Tryd.underlying31 (n := 8) (by kernel_rfl) (by kernel_rfl) (by omega) (by omega)
theorem app1 {sT e : TypeId} (hT : RowT sT e) {m : Mem} {v c : Value} {l : List Value} (hc : cellOk c = true) (h : SL m e v l) (hl : l.length ≤ 100000) :
    ∃ v' m', aappend E.P sT sT v (.slice (some ⟨m.length, 0, none⟩) 1 1) (m ++ [.row false e [c]]) = some (v', m') ∧ SL m' e v' (l ++ [c]) ∧ m.length ≤ m'.length ∧ (∀ b L q, v' = .slice (some ⟨b, 0, none⟩) L q → m.length ≤ b) := by
  obtain ⟨hs, i, z, h1, h2, h3, h4, h5, h6⟩ := hT
  have hsrc : asrc (m ++ [Blk.row false e [c]]) 1 (.slice (some ⟨m.length, 0, none⟩) 1 1) = some (1, [c]) := by
    have h : (m ++ [Blk.row false e [c]])[m.length]? = some (.row false e [c]) := by simp
    unfold asrc
    simp only [lookRow h]
    rfl
  rcases h with ⟨rfl, rfl⟩ | ⟨b, rfl, hb, hne⟩
  · refine ⟨.slice (some ⟨(m ++ [Blk.row false e [c]]).length, 0, none⟩) 1 1, m ++ [.row false e [c]] ++ [.row false e [c]], ?_, .inr ⟨_, rfl, by simp, by simp⟩, by simp, fun b L q h => by cases h; simp⟩
    unfold aappend
    simp only [hs, h1, h2, h3, hsrc, isIntD, h6]
    rw [if_neg (by simp [hc, h4]), if_neg (by omega), if_pos (by omega)]
  · have hbm := lt_of_at hb
    have hb2 : (m ++ [Blk.row false e [c]])[b]? = some (.row false e l) := by rw [List.getElem?_append_left hbm]; exact hb
    refine ⟨.slice (some ⟨(m ++ [Blk.row false e [c]]).length, 0, none⟩) (l.length + 1) (l.length + 1), (m ++ [Blk.row false e [c]]).set b .dead ++ [.row false e (l ++ [c])], ?_, .inr ⟨m.length + 1, by simp, by rw [List.getElem?_append_right (by simp)]; simp, by simp⟩, by simp; omega, fun b L q h => by cases h; simp⟩
    unfold aappend
    simp only [hs, h1, h2, h3, hsrc, isIntD, h6, hb2]
    have hr : (2 * (l.length + 1) + 768) * i.bytes ≤ 281474976710656 := by
      have : (2 * (l.length + 1) + 768) * i.bytes ≤ (2 * (l.length + 1) + 768) * 8 := Nat.mul_le_mul_left _ h5
      omega
    rw [if_neg (by simp [hc, h4]), if_neg (by omega), if_pos ⟨trivial, trivial, by omega, hr⟩]
    simp
def byW (w : Nat → Nat) (t : Nat) : Nat := w (t / 8) / 2 ^ (8 * (t % 8)) % 256
def byL (w : Nat → Nat) (n : Nat) : List Int := (List.range n).map fun t => ((byW w t : Nat) : Int)
theorem byL_succ (w : Nat → Nat) (n : Nat) : byL w (n + 1) = byL w n ++ [((byW w n : Nat) : Int)] := by
  unfold byL
  rw [List.range_succ, List.map_append]
  rfl
theorem byL_length (w : Nat → Nat) (n : Nat) : (byL w n).length = n := by simp [byL]
theorem conv22_5 (x : Nat) : aconv E.P 22 5 (.int .u64 ((x : Nat) : Int)) = some (.int .u8 ((x % 256 : Nat) : Int)) := by
  have h : ∀ k : Int, aconv E.P 22 5 (.int .u64 k) = some (.int .u8 (k % 256)) := fun k => by kernel_rfl
  rw [h]
  congr 2
theorem shr8u (x : Nat) : abin .shr .u64 ((x : Nat) : Int) .u64 8 = some (.int .u64 ((x / 256 : Nat) : Int)) := by
  have h : ∀ k : Int, abin .shr .u64 k .u64 8 = some (.int .u64 (k.fdiv 256)) := fun k => by kernel_rfl
  rw [h, Int.fdiv_eq_ediv_of_nonneg _ (by omega)]
  congr 2
theorem index24 {w : Nat → Nat} {j : Nat} (h : j < 8) : aindex E.P 24 (wide w) (.int .i64 (j : Nat)) = some (.int .u64 ((w j : Nat) : Int)) := by
  obtain ⟨i, h1, h2⟩ := info22
  unfold aindex wide
  simp only [und24, h1, h2, und22, aggD]
  rw [if_pos (by omega)]
  simp only [Int.toNat_natCast, Nat.mul_one]
  exact rowOf_get h
section
variable {self : Self} {nf : Nat} {m : Mem} {F : Nat → Value} {w : Nat → Nat} {j k x : Nat} {v : Value} {l : List Value}
theorem iterNumI (h3 : F 3 = v) (h5 : F 5 = .int .u64 ((x : Nat) : Int)) (h10 : F 10 = .int .i64 (k : Nat)) (hk : k < 8) (hS : SL m 5 v l) (hl : l.length ≤ 1000) :
    ∃ F' m', acodeN E self nf lpnum_1 (lst F 24) m = some (.normal, lst F' 24, m') ∧ SL m' 5 (F' 3) (l ++ [.int .u8 ((x % 256 : Nat) : Int)]) ∧ F' 5 = .int .u64 ((x / 256 : Nat) : Int) ∧ F' 6 = F 6 ∧ F' 7 = F 7 ∧ F' 10 = .int .i64 ((k + 1 : Nat) : Int) ∧ m.length ≤ m'.length := by
  have hlt : decide (((k : Nat) : Int) < 8) = true := decide_eq_true (by omega)
  have e2 := w1 (i := k) (by omega)
  obtain ⟨v', m', happ, hS', hle, _⟩ := app1 rowU8 (c := .int .u8 ((x % 256 : Nat) : Int)) rfl hS (by omega)
  simp only [lpnum_1_eq, enum_0, enum_1, enum_10, enum_11, enum_2, enum_3, enum_4, enum_5, enum_6, enum_7, enum_8, enum_9, lnum_0, lnum_1, lnum_2, lnum_3, lnum_4, lnum_5, lnum_6, lnum_7, lnum_8, lnum_9, lnum_10, lnum_11, agd_none, gdAt, gdV_bool, gdV_undef, Tryd.f7, List.append_eq, List.cons_append, List.nil_append, apure_call1, apure_call2, apure_call3, bft, btf, acodeN, List.getElem?_toArray, List.getElem?_cons_zero, List.getElem?_cons_succ, aopsN, adrawT, cls, astep, aop, afloat, ev, nth_lst, get_lst, aput, setAt_lst, upd_at, init_zero, init_succ, init_nil, Nat.reduceLT, Nat.reduceEqDiff, reduceIte, abuiltin, alen, Option.map_some, Option.map_none, orElse_some, apure_add, apure_eql, apure_neq, List.map_cons, List.map_nil, List.all_cons, List.all_nil, lit2, lit1, lit0, List.isEmpty_nil, bls, Bool.false_eq_true, if_true, if_false, List.length_map, beq_self_eq_true, uns, h3, h5, h10, lss64, hlt, conv22_5, build35, happ, shr8u, add64', e2]
  exact ⟨_, _, rfl, by simp only [upd_at, Nat.reduceEqDiff, reduceIte]; exact hS', by simp only [upd_at, Nat.reduceEqDiff, reduceIte], by simp only [upd_at, Nat.reduceEqDiff, reduceIte], by simp only [upd_at, Nat.reduceEqDiff, reduceIte], by simp only [upd_at, Nat.reduceEqDiff, reduceIte], hle⟩
theorem lastNumI (h10 : F 10 = .int .i64 (k : Nat)) (hk : 8 ≤ k) : ∃ F', acodeN E self nf lpnum_1 (lst F 24) m = some (.exit 2, lst F' 24, m) ∧ F' 3 = F 3 ∧ F' 6 = F 6 ∧ F' 7 = F 7 := by
  have hlt : decide (((k : Nat) : Int) < 8) = false := decide_eq_false (by omega)
  simp only [lpnum_1_eq, enum_0, enum_1, enum_10, enum_11, enum_2, enum_3, enum_4, enum_5, enum_6, enum_7, enum_8, enum_9, lnum_0, lnum_1, lnum_2, lnum_3, lnum_4, lnum_5, lnum_6, lnum_7, lnum_8, lnum_9, lnum_10, lnum_11, agd_none, gdAt, gdV_bool, gdV_undef, Tryd.f7, List.append_eq, List.cons_append, List.nil_append, apure_call1, apure_call2, apure_call3, bft, btf, acodeN, List.getElem?_toArray, List.getElem?_cons_zero, List.getElem?_cons_succ, aopsN, adrawT, cls, astep, aop, afloat, ev, nth_lst, get_lst, aput, setAt_lst, upd_at, init_zero, init_succ, init_nil, Nat.reduceLT, Nat.reduceEqDiff, reduceIte, abuiltin, alen, Option.map_some, Option.map_none, orElse_some, apure_add, apure_eql, apure_neq, List.map_cons, List.map_nil, List.all_cons, List.all_nil, lit2, lit1, lit0, List.isEmpty_nil, bls, Bool.false_eq_true, if_true, if_false, List.length_map, beq_self_eq_true, uns, h10, lss64, hlt]
  exact ⟨_, rfl, by simp only [upd_at, Nat.reduceEqDiff, reduceIte], by simp only [upd_at, Nat.reduceEqDiff, reduceIte], by simp only [upd_at, Nat.reduceEqDiff, reduceIte]⟩
theorem byW_at {w : Nat → Nat} {j k : Nat} (hk : k < 8) : byW w (8 * j + k) = w j / 2 ^ (8 * k) % 256 := by
  unfold byW
  rw [show (8 * j + k) / 8 = j by omega, show (8 * j + k) % 8 = k by omega]
theorem div_step (x k : Nat) : x / 2 ^ (8 * k) / 256 = x / 2 ^ (8 * (k + 1)) := by
  rw [Nat.div_div_eq_div_mul, show 8 * (k + 1) = 8 * k + 8 by omega, Nat.pow_add]
theorem innerNum (h5 : F 5 = .int .u64 ((w j : Nat) : Int)) (h10 : F 10 = .int .i64 0) (hS : SL m 5 (F 3) ((byL w (8 * j)).map (.int .u8))) (hj : j < 8) (hf : 10 < nf) :
    ∃ F' m', aloop (acodeN E self nf lpnum_1) nf (lst F 24) m = some (.exit 2, lst F' 24, m') ∧ SL m' 5 (F' 3) ((byL w (8 * (j + 1))).map (.int .u8)) ∧ F' 6 = F 6 ∧ F' 7 = F 7 ∧ m.length ≤ m'.length := by
  have hloop := aloop_inv (body := acodeN E self nf lpnum_1) (N := 8)
    (I := fun k T m' => m.length ≤ m'.length ∧ ∃ G, T = lst G 24 ∧ SL m' 5 (G 3) ((byL w (8 * j + k)).map (.int .u8)) ∧ G 5 = .int .u64 ((w j / 2 ^ (8 * k) : Nat) : Int) ∧ G 6 = F 6 ∧ G 7 = F 7 ∧ G 10 = .int .i64 (k : Nat))
    (Q := fun e T m' => m.length ≤ m'.length ∧ e = .exit 2 ∧ ∃ G, T = lst G 24 ∧ SL m' 5 (G 3) ((byL w (8 * (j + 1))).map (.int .u8)) ∧ G 6 = F 6 ∧ G 7 = F 7) (fun k T m' hk hI => by
      obtain ⟨hle, G, rfl, gS, g5, g6, g7, g10⟩ := hI
      by_cases hlt : k < 8
      · left
        obtain ⟨F', m2, hr, fS, f5, f6, f7, f10, hle2⟩ := iterNumI (self := self) (nf := nf) rfl g5 g10 hlt gS (by rw [List.length_map, byL_length]; omega)
        refine ⟨_, _, hr, hlt, Nat.le_trans hle hle2, F', rfl, ?_, ?_, by rw [f6, g6], by rw [f7, g7], f10⟩
        · rw [show 8 * j + (k + 1) = 8 * j + k + 1 by omega, byL_succ, byW_at hlt, List.map_append]
          exact fS
        · rw [f5, div_step]
      · right
        have hk8 : k = 8 := by omega
        subst hk8
        obtain ⟨F', hr, f3, f6, f7⟩ := lastNumI (self := self) (nf := nf) (m := m') g10 (by omega)
        refine ⟨_, _, _, hr, by simp, hle, rfl, F', rfl, ?_, by rw [f6, g6], by rw [f7, g7]⟩
        rw [f3, show 8 * (j + 1) = 8 * j + 8 by omega]
        exact gS)
  obtain ⟨e, T', m', hr, hle, rfl, G, rfl, gS, g6, g7⟩ := hloop 8 0 nf (lst F 24) m (by omega) (by omega) ⟨Nat.le_refl _, F, rfl, hS, by rw [h5]; simp, rfl, rfl, h10⟩
  exact ⟨G, m', hr, gS, g6, g7, hle⟩
theorem iterNum (h6 : F 6 = wide w) (h7 : F 7 = .int .i64 (j : Nat)) (hS : SL m 5 (F 3) ((byL w (8 * j)).map (.int .u8))) (hj : j < 8) (hf : 10 < nf) :
    ∃ F' m', acodeN E self nf lpnum_0 (lst F 24) m = some (.normal, lst F' 24, m') ∧ SL m' 5 (F' 3) ((byL w (8 * (j + 1))).map (.int .u8)) ∧ F' 6 = wide w ∧ F' 7 = .int .i64 ((j + 1 : Nat) : Int) ∧ m.length ≤ m'.length := by
  have hlt : decide (((j : Nat) : Int) < 8) = true := decide_eq_true (by omega)
  have e2 := w1 (i := j) (by omega)
  obtain ⟨F', m', hr, hS', f6, f7, hle⟩ := innerNum (self := self) (nf := nf) (m := m) (w := w) (j := j) (F := upd (upd (upd (upd F 8 (.bool true)) 9 (.int .u64 ((w j : Nat) : Int))) 5 (.int .u64 ((w j : Nat) : Int))) 10 (.int .i64 0)) rfl rfl (by simpa only [upd_at, Nat.reduceEqDiff, reduceIte] using hS) hj hf
  simp only [upd_at, Nat.reduceEqDiff, reduceIte, h6, h7] at f6 f7
  simp only [lpnum_0_eq, enum_0, enum_1, enum_10, enum_11, enum_2, enum_3, enum_4, enum_5, enum_6, enum_7, enum_8, enum_9, lnum_0, lnum_1, lnum_2, lnum_3, lnum_4, lnum_5, lnum_6, lnum_7, lnum_8, lnum_9, lnum_10, lnum_11, agd_none, gdAt, gdV_bool, gdV_undef, Tryd.f7, List.append_eq, List.cons_append, List.nil_append, apure_call1, apure_call2, apure_call3, bft, btf, acodeN, List.getElem?_toArray, List.getElem?_cons_zero, List.getElem?_cons_succ, aopsN, adrawT, cls, astep, aop, afloat, ev, nth_lst, get_lst, aput, setAt_lst, upd_at, init_zero, init_succ, init_nil, Nat.reduceLT, Nat.reduceEqDiff, reduceIte, abuiltin, alen, Option.map_some, Option.map_none, orElse_some, apure_add, apure_eql, apure_neq, List.map_cons, List.map_nil, List.all_cons, List.all_nil, lit2, lit1, lit0, List.isEmpty_nil, bls, Bool.false_eq_true, if_true, if_false, List.length_map, beq_self_eq_true, uns, h6, h7, lss64, hlt, index24 hj, hr, f7, add64', e2]
  exact ⟨_, _, rfl, by simp only [upd_at, Nat.reduceEqDiff, reduceIte]; exact hS', by simp only [upd_at, Nat.reduceEqDiff, reduceIte]; exact f6, by simp only [upd_at, Nat.reduceEqDiff, reduceIte], hle⟩
theorem lastNum (h7 : F 7 = .int .i64 (j : Nat)) (hj : 8 ≤ j) : ∃ F', acodeN E self nf lpnum_0 (lst F 24) m = some (.exit 0, lst F' 24, m) ∧ F' 3 = F 3 := by
  have hlt : decide (((j : Nat) : Int) < 8) = false := decide_eq_false (by omega)
  simp only [lpnum_0_eq, enum_0, enum_1, enum_10, enum_11, enum_2, enum_3, enum_4, enum_5, enum_6, enum_7, enum_8, enum_9, lnum_0, lnum_1, lnum_2, lnum_3, lnum_4, lnum_5, lnum_6, lnum_7, lnum_8, lnum_9, lnum_10, lnum_11, agd_none, gdAt, gdV_bool, gdV_undef, Tryd.f7, List.append_eq, List.cons_append, List.nil_append, apure_call1, apure_call2, apure_call3, bft, btf, acodeN, List.getElem?_toArray, List.getElem?_cons_zero, List.getElem?_cons_succ, aopsN, adrawT, cls, astep, aop, afloat, ev, nth_lst, get_lst, aput, setAt_lst, upd_at, init_zero, init_succ, init_nil, Nat.reduceLT, Nat.reduceEqDiff, reduceIte, abuiltin, alen, Option.map_some, Option.map_none, orElse_some, apure_add, apure_eql, apure_neq, List.map_cons, List.map_nil, List.all_cons, List.all_nil, lit2, lit1, lit0, List.isEmpty_nil, bls, Bool.false_eq_true, if_true, if_false, List.length_map, beq_self_eq_true, uns, h7, lss64, hlt]
  exact ⟨_, rfl, by simp only [upd_at, Nat.reduceEqDiff, reduceIte]⟩
def byS (w : Nat → Nat) : ByteArray := bytesOfL ((byL w 64).map fun n => UInt8.ofNat n.toNat)
theorem callOf : callableB E.P 8 = true := by kernel_rfl
theorem num_body (hf : 10 < nf) (hO : ∀ M : Mem, ainv E self 8 [.string (byS w)] M = some (.slice (some ⟨M.length, 0, none⟩) k 64, M ++ [.row false 3 l])) :
    ∃ m', abody E self nf 7 [wide w] m = some (.slice (some ⟨m'.length, 0, none⟩) k 64, m' ++ [.row false 3 l]) ∧ m.length ≤ m'.length := by
  rw [abody_eqF (by kernel_rfl) Tryd.func7 bodynum (by kernel_rfl) (Nat.le_of_ble_eq_true rfl)]
  rw [show Tryd.f7.ntmps = 24 from rfl]
  have b1 := box24 w m
  have hp : (m ++ [Blk.row false 24 (rowOf w)])[m.length]? = some (.row false 24 (rowOf w)) := by simp
  have lw := load24 hp
  have hloop := aloop_inv (body := acodeN E self nf lpnum_0) (N := 8)
    (I := fun j T m' => m.length ≤ m'.length ∧ ∃ G, T = lst G 24 ∧ SL m' 5 (G 3) ((byL w (8 * j)).map (.int .u8)) ∧ G 6 = wide w ∧ G 7 = .int .i64 (j : Nat))
    (Q := fun e T m' => m.length ≤ m'.length ∧ e = .exit 0 ∧ ∃ G, T = lst G 24 ∧ SL m' 5 (G 3) ((byL w 64).map (.int .u8))) (fun j T m' hj hI => by
      obtain ⟨hle, G, rfl, gS, g6, g7⟩ := hI
      by_cases hlt : j < 8
      · left
        obtain ⟨F', m2, hr, fS, f6, f7, hle2⟩ := iterNum (self := self) (nf := nf) g6 g7 gS hlt hf
        exact ⟨_, _, hr, hlt, Nat.le_trans hle hle2, F', rfl, fS, f6, f7⟩
      · right
        have hj8 : j = 8 := by omega
        subst hj8
        obtain ⟨F', hr, f3⟩ := lastNum (self := self) (nf := nf) (m := m') g7 (by omega)
        exact ⟨_, _, _, hr, by simp, hle, rfl, F', rfl, by rw [f3]; exact gS⟩)
  obtain ⟨e, T', m', hr, hle, rfl, G, rfl, gS⟩ := hloop 8 0 nf (lst (upd (upd (upd (upd (upd (init [wide w]) 1 (.pointer (some ⟨m.length, 0, none⟩))) 2 (.slice none 0 0)) 3 (.slice none 0 0)) 6 (wide w)) 7 (.int .i64 0)) 24) (m ++ [Blk.row false 24 (rowOf w)]) (by omega) (by omega) ⟨by simp, _, rfl, .inl ⟨rfl, rfl⟩, rfl, rfl⟩
  rcases gS with ⟨h0, _⟩ | ⟨b, g3, hb, _⟩
  · have := congrArg List.length h0
    rw [List.length_map, byL_length] at this
    simp at this
  · have hc := conv35_str (c := ((byL w 64).map (Value.int .u8)).length) hb (List.take_of_length_le (Nat.le_refl _)) (Nat.le_refl _)
    rw [List.length_map, byL_length] at hc g3
    have hO := hO m'
    unfold byS at hO
    simp only [enum_0, enum_1, enum_10, enum_11, enum_2, enum_3, enum_4, enum_5, enum_6, enum_7, enum_8, enum_9, lnum_0, lnum_1, lnum_2, lnum_3, lnum_4, lnum_5, lnum_6, lnum_7, lnum_8, lnum_9, lnum_10, lnum_11, agd_none, gdAt, gdV_bool, gdV_undef, Tryd.f7, List.append_eq, List.cons_append, List.nil_append, apure_call1, apure_call2, apure_call3, bft, btf, acodeN, List.getElem?_toArray, List.getElem?_cons_zero, List.getElem?_cons_succ, aopsN, adrawT, cls, astep, aop, afloat, ev, nth_lst, get_lst, aput, setAt_lst, upd_at, init_zero, init_succ, init_nil, Nat.reduceLT, Nat.reduceEqDiff, reduceIte, abuiltin, alen, Option.map_some, Option.map_none, orElse_some, apure_add, apure_eql, apure_neq, List.map_cons, List.map_nil, List.all_cons, List.all_nil, lit2, lit1, lit0, List.isEmpty_nil, bls, Bool.false_eq_true, if_true, if_false, List.length_map, beq_self_eq_true, uns, b1, lw, hr, g3, aconv35, apure_convert, isAddr, hc, callOf, hO, finish, ares, aresL, ares1]
    exact ⟨m', rfl, hle⟩
end
end Go.Am.Seat
