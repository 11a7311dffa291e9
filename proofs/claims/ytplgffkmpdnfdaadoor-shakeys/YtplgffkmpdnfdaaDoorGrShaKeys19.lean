/-
  Texts of my own, put together: HK1, HK2, HK3, HK4, O5, O6.
-/
import Derived.Test.YtplgffkmpdnfdaaDoorGrShaKeys17
import Derived.Test.YtplgffkmpdnfdaaDoorGrShaKeys18
import Derived.Test.YtplgffkmpdnfdaaDoorGrShaKeys10
/-
  ShaKeys: its regions (own work).
-/
set_option linter.unusedSimpArgs false
set_option linter.unusedVariables false
namespace Go.Am.Seat
open Go.Proofs Go.Am
set_option maxRecDepth 100000

noncomputable def rshk_0 : Array Oper := match Tryd.f6.body with
  | some (.seq (.region _ o _) _) => o
  | _ => #[]
noncomputable def lshk_0 : List Oper := match Tryd.f6.body with
  | some (.seq (.region _ o _) _) => o.toList
  | _ => []
theorem eshk_0 : rshk_0.toList = lshk_0 := rfl
noncomputable def rshk_1 : Array Oper := match Tryd.f6.body with
  | some (.seq _ (.seq (.seq (.region _ o _) _) _)) => o
  | _ => #[]
noncomputable def lshk_1 : List Oper := match Tryd.f6.body with
  | some (.seq _ (.seq (.seq (.region _ o _) _) _)) => o.toList
  | _ => []
theorem eshk_1 : rshk_1.toList = lshk_1 := rfl
theorem gshk_1_2 {T : List Value} {dd : Option Tmp} {op : Op} {ty : TypeId} {pos : String} {af : Array Edge} {want : Bool} : agd rshk_1 T { dst := dd, op := op, type := ty, pos := pos, after := af, guard := some (2, want) } = gdAt T 12 want := agd_at (by kernel_rfl)
theorem gshk_1_6 {T : List Value} {dd : Option Tmp} {op : Op} {ty : TypeId} {pos : String} {af : Array Edge} {want : Bool} : agd rshk_1 T { dst := dd, op := op, type := ty, pos := pos, after := af, guard := some (6, want) } = gdAt T 16 want := agd_at (by kernel_rfl)
noncomputable def rshk_2 : Array Oper := match Tryd.f6.body with
  | some (.seq _ (.seq (.seq _ (.cond _ (.seq (.region _ o _) _) _)) _)) => o
  | _ => #[]
noncomputable def lshk_2 : List Oper := match Tryd.f6.body with
  | some (.seq _ (.seq (.seq _ (.cond _ (.seq (.region _ o _) _) _)) _)) => o.toList
  | _ => []
theorem eshk_2 : rshk_2.toList = lshk_2 := rfl
noncomputable def rshk_3 : Array Oper := match Tryd.f6.body with
  | some (.seq _ (.seq _ (.seq (.region _ o _) _))) => o
  | _ => #[]
noncomputable def lshk_3 : List Oper := match Tryd.f6.body with
  | some (.seq _ (.seq _ (.seq (.region _ o _) _))) => o.toList
  | _ => []
theorem eshk_3 : rshk_3.toList = lshk_3 := rfl
noncomputable def rshk_4 : Array Oper := match Tryd.f6.body with
  | some (.seq _ (.seq _ (.seq _ (.seq (.seq (.region _ o _) _) _)))) => o
  | _ => #[]
noncomputable def lshk_4 : List Oper := match Tryd.f6.body with
  | some (.seq _ (.seq _ (.seq _ (.seq (.seq (.region _ o _) _) _)))) => o.toList
  | _ => []
theorem eshk_4 : rshk_4.toList = lshk_4 := rfl
noncomputable def lpshk_0 : Code := match Tryd.f6.body with
  | some (.seq _ (.seq _ (.seq _ (.seq (.seq _ (.block _ (.loop c))) _)))) => c
  | _ => .skip
noncomputable def rshk_5 : Array Oper := match Tryd.f6.body with
  | some (.seq _ (.seq _ (.seq _ (.seq (.seq _ (.block _ (.loop (.seq (.seq (.region _ o _) _) _)))) _)))) => o
  | _ => #[]
noncomputable def lshk_5 : List Oper := match Tryd.f6.body with
  | some (.seq _ (.seq _ (.seq _ (.seq (.seq _ (.block _ (.loop (.seq (.seq (.region _ o _) _) _)))) _)))) => o.toList
  | _ => []
theorem eshk_5 : rshk_5.toList = lshk_5 := rfl
noncomputable def rshk_7 : Array Oper := match Tryd.f6.body with
  | some (.seq _ (.seq _ (.seq _ (.seq (.seq _ (.block _ (.loop (.seq _ (.seq (.block _ (.seq (.region _ o _) _)) _))))) _)))) => o
  | _ => #[]
noncomputable def lshk_7 : List Oper := match Tryd.f6.body with
  | some (.seq _ (.seq _ (.seq _ (.seq (.seq _ (.block _ (.loop (.seq _ (.seq (.block _ (.seq (.region _ o _) _)) _))))) _)))) => o.toList
  | _ => []
theorem eshk_7 : rshk_7.toList = lshk_7 := rfl
noncomputable def rshk_8 : Array Oper := match Tryd.f6.body with
  | some (.seq _ (.seq _ (.seq _ (.seq (.seq _ (.block _ (.loop (.seq _ (.seq (.block _ (.seq _ (.seq (.seq (.region _ o _) _) _))) _))))) _)))) => o
  | _ => #[]
noncomputable def lshk_8 : List Oper := match Tryd.f6.body with
  | some (.seq _ (.seq _ (.seq _ (.seq (.seq _ (.block _ (.loop (.seq _ (.seq (.block _ (.seq _ (.seq (.seq (.region _ o _) _) _))) _))))) _)))) => o.toList
  | _ => []
theorem eshk_8 : rshk_8.toList = lshk_8 := rfl
noncomputable def lpshk_1 : Code := match Tryd.f6.body with
  | some (.seq _ (.seq _ (.seq _ (.seq (.seq _ (.block _ (.loop (.seq _ (.seq (.block _ (.seq _ (.seq (.seq _ (.block _ (.loop c))) _))) _))))) _)))) => c
  | _ => .skip
noncomputable def rshk_9 : Array Oper := match Tryd.f6.body with
  | some (.seq _ (.seq _ (.seq _ (.seq (.seq _ (.block _ (.loop (.seq _ (.seq (.block _ (.seq _ (.seq (.seq _ (.block _ (.loop (.seq (.seq (.region _ o _) _) _)))) _))) _))))) _)))) => o
  | _ => #[]
noncomputable def lshk_9 : List Oper := match Tryd.f6.body with
  | some (.seq _ (.seq _ (.seq _ (.seq (.seq _ (.block _ (.loop (.seq _ (.seq (.block _ (.seq _ (.seq (.seq _ (.block _ (.loop (.seq (.seq (.region _ o _) _) _)))) _))) _))))) _)))) => o.toList
  | _ => []
theorem eshk_9 : rshk_9.toList = lshk_9 := rfl
noncomputable def rshk_11 : Array Oper := match Tryd.f6.body with
  | some (.seq _ (.seq _ (.seq _ (.seq (.seq _ (.block _ (.loop (.seq _ (.seq (.block _ (.seq _ (.seq (.seq _ (.block _ (.loop (.seq _ (.seq (.block _ (.region _ o _)) _))))) _))) _))))) _)))) => o
  | _ => #[]
noncomputable def lshk_11 : List Oper := match Tryd.f6.body with
  | some (.seq _ (.seq _ (.seq _ (.seq (.seq _ (.block _ (.loop (.seq _ (.seq (.block _ (.seq _ (.seq (.seq _ (.block _ (.loop (.seq _ (.seq (.block _ (.region _ o _)) _))))) _))) _))))) _)))) => o.toList
  | _ => []
theorem eshk_11 : rshk_11.toList = lshk_11 := rfl
theorem gshk_11_1 {T : List Value} {dd : Option Tmp} {op : Op} {ty : TypeId} {pos : String} {af : Array Edge} {want : Bool} : agd rshk_11 T { dst := dd, op := op, type := ty, pos := pos, after := af, guard := some (1, want) } = gdAt T 30 want := agd_at (by kernel_rfl)
noncomputable def rshk_10 : Array Oper := match Tryd.f6.body with
  | some (.seq _ (.seq _ (.seq _ (.seq (.seq _ (.block _ (.loop (.seq _ (.seq (.block _ (.seq _ (.seq (.seq _ (.block _ (.loop (.seq _ (.seq _ (.region _ o _)))))) _))) _))))) _)))) => o
  | _ => #[]
noncomputable def lshk_10 : List Oper := match Tryd.f6.body with
  | some (.seq _ (.seq _ (.seq _ (.seq (.seq _ (.block _ (.loop (.seq _ (.seq (.block _ (.seq _ (.seq (.seq _ (.block _ (.loop (.seq _ (.seq _ (.region _ o _)))))) _))) _))))) _)))) => o.toList
  | _ => []
theorem eshk_10 : rshk_10.toList = lshk_10 := rfl
theorem lpshk_1_eq : lpshk_1 = (.seq (.seq (.region 9 rshk_9 false) (.cond (.tmp 26) .skip (.exit 2))) (.seq (.block 3 (.region 11 rshk_11 false)) (.region 10 rshk_10 false))) := rfl
noncomputable def rshk_12 : Array Oper := match Tryd.f6.body with
  | some (.seq _ (.seq _ (.seq _ (.seq (.seq _ (.block _ (.loop (.seq _ (.seq (.block _ (.seq _ (.seq _ (.seq (.seq (.region _ o _) _) _)))) _))))) _)))) => o
  | _ => #[]
noncomputable def lshk_12 : List Oper := match Tryd.f6.body with
  | some (.seq _ (.seq _ (.seq _ (.seq (.seq _ (.block _ (.loop (.seq _ (.seq (.block _ (.seq _ (.seq _ (.seq (.seq (.region _ o _) _) _)))) _))))) _)))) => o.toList
  | _ => []
theorem eshk_12 : rshk_12.toList = lshk_12 := rfl
noncomputable def rshk_13 : Array Oper := match Tryd.f6.body with
  | some (.seq _ (.seq _ (.seq _ (.seq (.seq _ (.block _ (.loop (.seq _ (.seq (.block _ (.seq _ (.seq _ (.seq _ (.seq (.region _ o _) _))))) _))))) _)))) => o
  | _ => #[]
noncomputable def lshk_13 : List Oper := match Tryd.f6.body with
  | some (.seq _ (.seq _ (.seq _ (.seq (.seq _ (.block _ (.loop (.seq _ (.seq (.block _ (.seq _ (.seq _ (.seq _ (.seq (.region _ o _) _))))) _))))) _)))) => o.toList
  | _ => []
theorem eshk_13 : rshk_13.toList = lshk_13 := rfl
noncomputable def lpshk_2 : Code := match Tryd.f6.body with
  | some (.seq _ (.seq _ (.seq _ (.seq (.seq _ (.block _ (.loop (.seq _ (.seq (.block _ (.seq _ (.seq _ (.seq _ (.seq _ (.seq (.block _ (.loop c)) _)))))) _))))) _)))) => c
  | _ => .skip
noncomputable def rshk_14 : Array Oper := match Tryd.f6.body with
  | some (.seq _ (.seq _ (.seq _ (.seq (.seq _ (.block _ (.loop (.seq _ (.seq (.block _ (.seq _ (.seq _ (.seq _ (.seq _ (.seq (.block _ (.loop (.seq (.seq (.region _ o _) _) _))) _)))))) _))))) _)))) => o
  | _ => #[]
noncomputable def lshk_14 : List Oper := match Tryd.f6.body with
  | some (.seq _ (.seq _ (.seq _ (.seq (.seq _ (.block _ (.loop (.seq _ (.seq (.block _ (.seq _ (.seq _ (.seq _ (.seq _ (.seq (.block _ (.loop (.seq (.seq (.region _ o _) _) _))) _)))))) _))))) _)))) => o.toList
  | _ => []
theorem eshk_14 : rshk_14.toList = lshk_14 := rfl
noncomputable def rshk_15 : Array Oper := match Tryd.f6.body with
  | some (.seq _ (.seq _ (.seq _ (.seq (.seq _ (.block _ (.loop (.seq _ (.seq (.block _ (.seq _ (.seq _ (.seq _ (.seq _ (.seq (.block _ (.loop (.seq _ (.block _ (.region _ o _))))) _)))))) _))))) _)))) => o
  | _ => #[]
noncomputable def lshk_15 : List Oper := match Tryd.f6.body with
  | some (.seq _ (.seq _ (.seq _ (.seq (.seq _ (.block _ (.loop (.seq _ (.seq (.block _ (.seq _ (.seq _ (.seq _ (.seq _ (.seq (.block _ (.loop (.seq _ (.block _ (.region _ o _))))) _)))))) _))))) _)))) => o.toList
  | _ => []
theorem eshk_15 : rshk_15.toList = lshk_15 := rfl
theorem lpshk_2_eq : lpshk_2 = (.seq (.seq (.region 14 rshk_14 false) (.cond (.tmp 47) .skip (.exit 4))) (.block 5 (.region 15 rshk_15 false))) := rfl
noncomputable def rshk_16 : Array Oper := match Tryd.f6.body with
  | some (.seq _ (.seq _ (.seq _ (.seq (.seq _ (.block _ (.loop (.seq _ (.seq (.block _ (.seq _ (.seq _ (.seq _ (.seq _ (.seq _ (.seq (.region _ o _) _))))))) _))))) _)))) => o
  | _ => #[]
noncomputable def lshk_16 : List Oper := match Tryd.f6.body with
  | some (.seq _ (.seq _ (.seq _ (.seq (.seq _ (.block _ (.loop (.seq _ (.seq (.block _ (.seq _ (.seq _ (.seq _ (.seq _ (.seq _ (.seq (.region _ o _) _))))))) _))))) _)))) => o.toList
  | _ => []
theorem eshk_16 : rshk_16.toList = lshk_16 := rfl
noncomputable def rshk_17 : Array Oper := match Tryd.f6.body with
  | some (.seq _ (.seq _ (.seq _ (.seq (.seq _ (.block _ (.loop (.seq _ (.seq (.block _ (.seq _ (.seq _ (.seq _ (.seq _ (.seq _ (.seq _ (.seq (.region _ o _) _)))))))) _))))) _)))) => o
  | _ => #[]
noncomputable def lshk_17 : List Oper := match Tryd.f6.body with
  | some (.seq _ (.seq _ (.seq _ (.seq (.seq _ (.block _ (.loop (.seq _ (.seq (.block _ (.seq _ (.seq _ (.seq _ (.seq _ (.seq _ (.seq _ (.seq (.region _ o _) _)))))))) _))))) _)))) => o.toList
  | _ => []
theorem eshk_17 : rshk_17.toList = lshk_17 := rfl
noncomputable def rshk_18 : Array Oper := match Tryd.f6.body with
  | some (.seq _ (.seq _ (.seq _ (.seq (.seq _ (.block _ (.loop (.seq _ (.seq (.block _ (.seq _ (.seq _ (.seq _ (.seq _ (.seq _ (.seq _ (.seq _ (.seq (.region _ o _) _))))))))) _))))) _)))) => o
  | _ => #[]
noncomputable def lshk_18 : List Oper := match Tryd.f6.body with
  | some (.seq _ (.seq _ (.seq _ (.seq (.seq _ (.block _ (.loop (.seq _ (.seq (.block _ (.seq _ (.seq _ (.seq _ (.seq _ (.seq _ (.seq _ (.seq _ (.seq (.region _ o _) _))))))))) _))))) _)))) => o.toList
  | _ => []
theorem eshk_18 : rshk_18.toList = lshk_18 := rfl
noncomputable def rshk_19 : Array Oper := match Tryd.f6.body with
  | some (.seq _ (.seq _ (.seq _ (.seq (.seq _ (.block _ (.loop (.seq _ (.seq (.block _ (.seq _ (.seq _ (.seq _ (.seq _ (.seq _ (.seq _ (.seq _ (.seq _ (.seq (.region _ o _) _)))))))))) _))))) _)))) => o
  | _ => #[]
noncomputable def lshk_19 : List Oper := match Tryd.f6.body with
  | some (.seq _ (.seq _ (.seq _ (.seq (.seq _ (.block _ (.loop (.seq _ (.seq (.block _ (.seq _ (.seq _ (.seq _ (.seq _ (.seq _ (.seq _ (.seq _ (.seq _ (.seq (.region _ o _) _)))))))))) _))))) _)))) => o.toList
  | _ => []
theorem eshk_19 : rshk_19.toList = lshk_19 := rfl
noncomputable def rshk_20 : Array Oper := match Tryd.f6.body with
  | some (.seq _ (.seq _ (.seq _ (.seq (.seq _ (.block _ (.loop (.seq _ (.seq (.block _ (.seq _ (.seq _ (.seq _ (.seq _ (.seq _ (.seq _ (.seq _ (.seq _ (.seq _ (.seq (.seq (.region _ o _) _) _))))))))))) _))))) _)))) => o
  | _ => #[]
noncomputable def lshk_20 : List Oper := match Tryd.f6.body with
  | some (.seq _ (.seq _ (.seq _ (.seq (.seq _ (.block _ (.loop (.seq _ (.seq (.block _ (.seq _ (.seq _ (.seq _ (.seq _ (.seq _ (.seq _ (.seq _ (.seq _ (.seq _ (.seq (.seq (.region _ o _) _) _))))))))))) _))))) _)))) => o.toList
  | _ => []
theorem eshk_20 : rshk_20.toList = lshk_20 := rfl
theorem gshk_20_8 {T : List Value} {dd : Option Tmp} {op : Op} {ty : TypeId} {pos : String} {af : Array Edge} {want : Bool} : agd rshk_20 T { dst := dd, op := op, type := ty, pos := pos, after := af, guard := some (8, want) } = gdAt T 82 want := agd_at (by kernel_rfl)
noncomputable def rshk_21 : Array Oper := match Tryd.f6.body with
  | some (.seq _ (.seq _ (.seq _ (.seq (.seq _ (.block _ (.loop (.seq _ (.seq (.block _ (.seq _ (.seq _ (.seq _ (.seq _ (.seq _ (.seq _ (.seq _ (.seq _ (.seq _ (.seq (.seq _ (.cond _ (.seq (.region _ o _) _) _)) _))))))))))) _))))) _)))) => o
  | _ => #[]
noncomputable def lshk_21 : List Oper := match Tryd.f6.body with
  | some (.seq _ (.seq _ (.seq _ (.seq (.seq _ (.block _ (.loop (.seq _ (.seq (.block _ (.seq _ (.seq _ (.seq _ (.seq _ (.seq _ (.seq _ (.seq _ (.seq _ (.seq _ (.seq (.seq _ (.cond _ (.seq (.region _ o _) _) _)) _))))))))))) _))))) _)))) => o.toList
  | _ => []
theorem eshk_21 : rshk_21.toList = lshk_21 := rfl
noncomputable def rshk_22 : Array Oper := match Tryd.f6.body with
  | some (.seq _ (.seq _ (.seq _ (.seq (.seq _ (.block _ (.loop (.seq _ (.seq (.block _ (.seq _ (.seq _ (.seq _ (.seq _ (.seq _ (.seq _ (.seq _ (.seq _ (.seq _ (.seq _ (.region _ o _)))))))))))) _))))) _)))) => o
  | _ => #[]
noncomputable def lshk_22 : List Oper := match Tryd.f6.body with
  | some (.seq _ (.seq _ (.seq _ (.seq (.seq _ (.block _ (.loop (.seq _ (.seq (.block _ (.seq _ (.seq _ (.seq _ (.seq _ (.seq _ (.seq _ (.seq _ (.seq _ (.seq _ (.seq _ (.region _ o _)))))))))))) _))))) _)))) => o.toList
  | _ => []
theorem eshk_22 : rshk_22.toList = lshk_22 := rfl
noncomputable def rshk_6 : Array Oper := match Tryd.f6.body with
  | some (.seq _ (.seq _ (.seq _ (.seq (.seq _ (.block _ (.loop (.seq _ (.seq _ (.region _ o _)))))) _)))) => o
  | _ => #[]
noncomputable def lshk_6 : List Oper := match Tryd.f6.body with
  | some (.seq _ (.seq _ (.seq _ (.seq (.seq _ (.block _ (.loop (.seq _ (.seq _ (.region _ o _)))))) _)))) => o.toList
  | _ => []
theorem eshk_6 : rshk_6.toList = lshk_6 := rfl
theorem lpshk_0_eq : lpshk_0 = (.seq (.seq (.region 5 rshk_5 false) (.cond (.tmp 21) .skip (.exit 0))) (.seq (.block 1 (.seq (.region 7 rshk_7 false) (.seq (.seq (.region 8 rshk_8 false) (.block 2 (.loop lpshk_1))) (.seq (.seq (.region 12 rshk_12 false) (.cond (.tmp 37) (.exit 1) .skip)) (.seq (.region 13 rshk_13 false) (.seq (.block 4 (.loop lpshk_2)) (.seq (.region 16 rshk_16 false) (.seq (.region 17 rshk_17 false) (.seq (.region 18 rshk_18 false) (.seq (.region 19 rshk_19 true) (.seq (.seq (.region 20 rshk_20 false) (.cond (.tmp 91) (.seq (.region 21 rshk_21 false) .ret) .skip)) (.region 22 rshk_22 false)))))))))))) (.region 6 rshk_6 false))) := rfl
noncomputable def rshk_23 : Array Oper := match Tryd.f6.body with
  | some (.seq _ (.seq _ (.seq _ (.seq _ (.seq (.region _ o _) _))))) => o
  | _ => #[]
noncomputable def lshk_23 : List Oper := match Tryd.f6.body with
  | some (.seq _ (.seq _ (.seq _ (.seq _ (.seq (.region _ o _) _))))) => o.toList
  | _ => []
theorem eshk_23 : rshk_23.toList = lshk_23 := rfl
theorem bodyshk : Tryd.f6.body = some (.seq (.region 0 rshk_0 false) (.seq (.seq (.region 1 rshk_1 false) (.cond (.tmp 19) (.seq (.region 2 rshk_2 false) .ret) .skip)) (.seq (.region 3 rshk_3 false) (.seq (.seq (.region 4 rshk_4 false) (.block 0 (.loop lpshk_0))) (.seq (.region 23 rshk_23 false) .ret))))) := rfl
-- ntmps 94
noncomputable def rshkey_0 : Array Oper := match Tryd.f33.body with
  | some (.seq (.region _ o _) _) => o
  | _ => #[]
noncomputable def lshkey_0 : List Oper := match Tryd.f33.body with
  | some (.seq (.region _ o _) _) => o.toList
  | _ => []
theorem eshkey_0 : rshkey_0.toList = lshkey_0 := rfl
noncomputable def rshkey_1 : Array Oper := match Tryd.f33.body with
  | some (.seq _ (.seq (.seq (.region _ o _) _) _)) => o
  | _ => #[]
noncomputable def lshkey_1 : List Oper := match Tryd.f33.body with
  | some (.seq _ (.seq (.seq (.region _ o _) _) _)) => o.toList
  | _ => []
theorem eshkey_1 : rshkey_1.toList = lshkey_1 := rfl
theorem gshkey_1_2 {T : List Value} {dd : Option Tmp} {op : Op} {ty : TypeId} {pos : String} {af : Array Edge} {want : Bool} : agd rshkey_1 T { dst := dd, op := op, type := ty, pos := pos, after := af, guard := some (2, want) } = gdAt T 5 want := agd_at (by kernel_rfl)
noncomputable def rshkey_2 : Array Oper := match Tryd.f33.body with
  | some (.seq _ (.seq (.seq _ (.cond _ (.seq (.region _ o _) _) _)) _)) => o
  | _ => #[]
noncomputable def lshkey_2 : List Oper := match Tryd.f33.body with
  | some (.seq _ (.seq (.seq _ (.cond _ (.seq (.region _ o _) _) _)) _)) => o.toList
  | _ => []
theorem eshkey_2 : rshkey_2.toList = lshkey_2 := rfl
noncomputable def rshkey_3 : Array Oper := match Tryd.f33.body with
  | some (.seq _ (.seq _ (.seq (.region _ o _) _))) => o
  | _ => #[]
noncomputable def lshkey_3 : List Oper := match Tryd.f33.body with
  | some (.seq _ (.seq _ (.seq (.region _ o _) _))) => o.toList
  | _ => []
theorem eshkey_3 : rshkey_3.toList = lshkey_3 := rfl
theorem bodyshkey : Tryd.f33.body = some (.seq (.region 0 rshkey_0 false) (.seq (.seq (.region 1 rshkey_1 false) (.cond (.tmp 8) (.seq (.region 2 rshkey_2 false) .ret) .skip)) (.seq (.region 3 rshkey_3 false) .ret))) := rfl
-- ntmps 12

theorem callCmp : callableB E.P 13 = true := by kernel_rfl
theorem callKey : callableB E.P 33 = true := by kernel_rfl

/-- What was there is there. -/
def Kept (m m' : Mem) : Prop := m.length ≤ m'.length ∧ ∀ k, k < m.length → m'[k]? = m[k]?
theorem Kept.refl (m : Mem) : Kept m m := ⟨Nat.le_refl _, fun _ _ => rfl⟩
theorem Kept.trans {a b c : Mem} (h : Kept a b) (h' : Kept b c) : Kept a c := ⟨Nat.le_trans h.1 h'.1, fun k hk => (h'.2 k (by have := h.1; omega)).trans (h.2 k hk)⟩
theorem NumR.keeps {m m' : Mem} {v : Value} {r : Nat} (h : NumR m v m' r) : Kept m m' := ⟨by
  rcases h with ⟨rfl, rfl, rfl⟩ | ⟨L, n, h1, h2, rfl, rfl⟩
  · exact Nat.le_refl _
  · simp, h.kept⟩
theorem Kept.app (m nb : Mem) : Kept m (m ++ nb) := ⟨by simp, fun k hk => List.getElem?_append_left hk⟩
theorem NumA.on {m m' : Mem} {v : Value} {l : List Nat} (h : NumA m v l) (hk : Kept m m') : NumA m' v l := h.keep hk.2
/-- The tables are laid. -/
def KT (m : Mem) : Prop := E.G ≤ m.length ∧ (m.take E.G).map onlyTab = mem2
theorem KT.on {m m' : Mem} (h : KT m) (hk : Kept m m') : KT m' := by
  refine ⟨Nat.le_trans h.1 hk.1, ?_⟩
  rw [← h.2]
  congr 1
  apply List.ext_getElem?
  intro k
  rw [List.getElem?_take, List.getElem?_take]
  by_cases h1 : k < E.G
  · rw [if_pos h1, if_pos h1, hk.2 k (by have := h.1; omega)]
  · rw [if_neg h1, if_neg h1]

theorem make35c (c : Nat) (hc : c < 1000000) (m : Mem) : amakeSlice E.P 35 (.int .i64 (c : Nat)) (.int .i64 (c : Nat)) m = some (.slice (some ⟨m.length, 0, none⟩) c c, m ++ [.row false 5 (List.replicate c (.int .u8 0))]) := by
  have hz : zero1 E.P 5 = some (.int .u8 0) := by kernel_rfl
  have hi : (E.P.info? 5).map (·.bytes) = some 1 := by kernel_rfl
  obtain ⟨i, h1, h2⟩ := Option.map_eq_some_iff.1 hi
  unfold amakeSlice
  simp only [show E.P.underlying 35 = some (.slice 5) from Tryd.underlying35, hz, h1, h2]
  rw [wrap_i64 (n := (c : Int)) (by omega) (by omega), if_pos (by omega)]
  simp
/-- So many noughts, and a one. -/
noncomputable def noughts (c : Nat) : ByteArray := bytesOfL ((List.replicate c (0 : Int)).map fun n => UInt8.ofNat n.toNat)
theorem str_noughts {m : Mem} {b c : Nat} {ro : Bool} (h : m[b]? = some (.row ro 5 (List.replicate c (.int .u8 0)))) : aconvB E.P 35 9 (.slice (some ⟨b, 0, none⟩) c c) m = some (.string (noughts c), m) :=
  conv35_str h (by rw [List.take_of_length_le (by simp), List.map_replicate]) (by simp)
noncomputable def one8 : ByteArray := noughts 8 ++ ⟨#[1]⟩
noncomputable def one24 : ByteArray := noughts 24 ++ ⟨#[1]⟩
theorem one8_val : val (natsOf one8) = 18446744073709551616 := by kernel_rfl
theorem one24_val : val (natsOf one24) = 6277101735386680763835789423207666416102355444464034512896 := by kernel_rfl
theorem one8_len : one8.data.toList.length ≤ 1000 := Nat.le_of_ble_eq_true (by kernel_rfl)
theorem one24_len : one24.data.toList.length ≤ 1000 := Nat.le_of_ble_eq_true (by kernel_rfl)
theorem size8 : (noughts 8).size + (⟨#[1]⟩ : ByteArray).size ≤ 9223372036854775807 := Nat.le_of_ble_eq_true (by kernel_rfl)
theorem size24 : (noughts 24).size + (⟨#[1]⟩ : ByteArray).size ≤ 9223372036854775807 := Nat.le_of_ble_eq_true (by kernel_rfl)
theorem conv3_22 {x : Nat} (h : x < 100000) : aconv E.P 3 22 (.int .i64 ((x : Nat) : Int)) = some (.int .u64 ((x : Nat) : Int)) := by
  have h2 : ∀ k : Int, aconv E.P 3 22 (.int .i64 k) = some (.int .u64 (wrapF .u64 k)) := fun k => by kernel_rfl
  rw [h2]
  have : wrapF .u64 ((x : Nat) : Int) = ((x : Nat) : Int) := by
    simp only [wrapF]
    omega
  rw [this]

section
variable {self : Self} {nf : Nat} {m : Mem} {F : Nat → Value}
theorem shk_16 (co : COf self) : ∃ F' m', acodeN E self nf (.region 16 rshk_16 false) (lst F 94) m = some (.normal, lst F' 94, m') ∧ NumA m' (F' 6) (dig 18446744073709551616) ∧ F' 1 = F 1 ∧ F' 2 = F 2 ∧ F' 5 = F 5 ∧ Kept m m' := by
  have e1 := make35c 8 (by omega) m
  have e2 := str_noughts (m := m ++ [.row false 5 (List.replicate 8 (.int .u8 0))]) (b := m.length) (c := 8) (ro := false) (by simp)
  obtain ⟨v, m', e3, r3⟩ := co (m ++ [.row false 5 (List.replicate 8 (.int .u8 0))]) one8 one8_len
  rw [one8_val] at r3
  have c0 := aconv35
  rw [show (((8 : Nat) : Int)) = 8 from rfl] at e1
  simp only [eshk_0, eshk_1, eshk_10, eshk_11, eshk_12, eshk_13, eshk_14, eshk_15, eshk_16, eshk_17, eshk_18, eshk_19, eshk_2, eshk_20, eshk_21, eshk_22, eshk_23, eshk_3, eshk_4, eshk_5, eshk_6, eshk_7, eshk_8, eshk_9, lshk_0, lshk_1, lshk_2, lshk_3, lshk_4, lshk_5, lshk_6, lshk_7, lshk_8, lshk_9, lshk_10, lshk_11, lshk_12, lshk_13, lshk_14, lshk_15, lshk_16, lshk_17, lshk_18, lshk_19, lshk_20, lshk_21, lshk_22, lshk_23, gshk_11_1, gshk_1_2, gshk_1_6, gshk_20_8, agd_none, gdAt, gdV_bool, gdV_undef, Tryd.f6, List.append_eq, List.cons_append, List.nil_append, apure_call1, apure_call2, apure_call3, bft, btf, acodeN, List.getElem?_toArray, List.getElem?_cons_zero, List.getElem?_cons_succ, aopsN, adrawT, cls, astep, aop, afloat, ev, nth_lst, get_lst, aput, setAt_lst, upd_at, init_zero, init_succ, init_nil, Nat.reduceLT, Nat.reduceEqDiff, reduceIte, len_N, abuiltin_app, Option.map_some, Option.map_none, orElse_some, apure_add, apure_eqlV, eqlVal_str, eqlVal_bool, eqlVal_ptr, eqlVal_slice, eqlVal_wide, eqlVal_int, allT, ↓aop_eqlV, apure_neq, List.map_cons, List.map_nil, List.all_cons, List.all_nil, lit2, lit1, lit0, List.isEmpty_nil, Bool.and_self, Bool.and_true, Bool.true_and, Bool.false_and, Bool.and_false, Bool.not_true, Bool.not_false, Bool.or_true, Bool.true_or, Bool.false_or, Bool.or_false, Bool.false_eq_true, if_true, if_false, List.length_map, beq_self_eq_true, und3, und4, und5, und9, e1, c0, apure_convert, isAddr, e2, size8, callOf]
  unfold one8 at e3
  simp only [e3]
  exact ⟨_, _, rfl, by simp only [upd_at, Nat.reduceEqDiff, reduceIte]; exact r3.is, by simp only [upd_at, Nat.reduceEqDiff, reduceIte], by simp only [upd_at, Nat.reduceEqDiff, reduceIte], by simp only [upd_at, Nat.reduceEqDiff, reduceIte], (Kept.app _ _).trans r3.keeps⟩
end
end Go.Am.Seat

/-
  ShaKeys: its regions of numbers (own work).
-/
set_option linter.unusedSimpArgs false
set_option linter.unusedVariables false
namespace Go.Am.Seat
open Go.Proofs Go.Am
set_option maxRecDepth 100000

theorem dlen {x k : Nat} (h : x < 256 ^ k) (hk : k ≤ 400) : (dig x).length ≤ 400 := Nat.le_trans (dig_len_le h) hk
theorem sr19k : E.sr 19 rshk_19 = true := by kernel_rfl
theorem mk19k : E.mkr 19 rshk_19 = true := by kernel_rfl
theorem dep19k : depB E.P E.wr rshk_19 = true := by kernel_rfl
theorem ch43k : chainB rshk_19 4 4 3 = true := by kernel_rfl
theorem ch72k : chainB rshk_19 4 7 2 = true := by kernel_rfl
theorem ch76k : chainB rshk_19 4 7 6 = true := by kernel_rfl
theorem ch77 : ∀ p : Nat → Bool, ∀ g, belowP p 4 (.func (.func g) #[] #[]) = true := fun _ _ => rfl

section
variable {self : Self} {nf : Nat} {m : Mem} {F : Nat → Value}
theorem shk_17 (cs : CSmall self) (cm : CMul self) (ca : CAdd self) {w n k : Nat} (hw : w < 100) (hk : k < 18446744073709551616) (h1 : F 1 = .int .i64 (n : Nat)) (h5 : F 5 = .int .i64 (w : Nat)) (h6 : NumA m (F 6) (dig 18446744073709551616))
    (ck : ∀ m', Kept m m' → ainv E self 33 [.int .i64 (n : Nat)] m' = some (.int .u64 (k : Nat), m')) :
    ∃ F' m', acodeN E self nf (.region 17 rshk_17 false) (lst F 94) m = some (.normal, lst F' 94, m') ∧ NumA m' (F' 7) (dig (w * 18446744073709551616 + k)) ∧ F' 1 = F 1 ∧ F' 2 = F 2 ∧ Kept m m' := by
  have c1 := conv3_22 (x := w) (by omega)
  obtain ⟨v1, m1, e1, r1⟩ := cs m w (by omega)
  generalize hv6 : F 6 = v6 at h6
  obtain ⟨v2, m2, e2, r2⟩ := cm m1 v1 v6 w 18446744073709551616 r1.is (h6.on r1.keeps) (dlen (k := 1) (by omega) (by omega)) (dlen (k := 9) (by omega) (by omega))
  have e3 := ck m2 (r1.keeps.trans r2.keeps)
  obtain ⟨v4, m4, e4, r4⟩ := cs m2 k hk
  obtain ⟨v5, m5, e5, r5⟩ := ca m4 v2 v4 _ _ (r2.is.on r4.keeps) r4.is (dlen (k := 10) (by omega) (by omega)) (dlen (k := 8) (by omega) (by omega))
  simp only [eshk_0, eshk_1, eshk_10, eshk_11, eshk_12, eshk_13, eshk_14, eshk_15, eshk_16, eshk_17, eshk_18, eshk_19, eshk_2, eshk_20, eshk_21, eshk_22, eshk_23, eshk_3, eshk_4, eshk_5, eshk_6, eshk_7, eshk_8, eshk_9, lshk_0, lshk_1, lshk_2, lshk_3, lshk_4, lshk_5, lshk_6, lshk_7, lshk_8, lshk_9, lshk_10, lshk_11, lshk_12, lshk_13, lshk_14, lshk_15, lshk_16, lshk_17, lshk_18, lshk_19, lshk_20, lshk_21, lshk_22, lshk_23, gshk_11_1, gshk_1_2, gshk_1_6, gshk_20_8, agd_none, gdAt, gdV_bool, gdV_undef, Tryd.f6, List.append_eq, List.cons_append, List.nil_append, apure_call1, apure_call2, apure_call3, bft, btf, acodeN, List.getElem?_toArray, List.getElem?_cons_zero, List.getElem?_cons_succ, aopsN, adrawT, cls, astep, aop, afloat, ev, nth_lst, get_lst, aput, setAt_lst, upd_at, init_zero, init_succ, init_nil, Nat.reduceLT, Nat.reduceEqDiff, reduceIte, len_N, abuiltin_app, Option.map_some, Option.map_none, orElse_some, apure_add, apure_eqlV, eqlVal_str, eqlVal_bool, eqlVal_ptr, eqlVal_slice, eqlVal_wide, eqlVal_int, allT, ↓aop_eqlV, apure_neq, List.map_cons, List.map_nil, List.all_cons, List.all_nil, lit2, lit1, lit0, List.isEmpty_nil, Bool.and_self, Bool.and_true, Bool.true_and, Bool.false_and, Bool.and_false, Bool.not_true, Bool.not_false, Bool.or_true, Bool.true_or, Bool.false_or, Bool.or_false, Bool.false_eq_true, if_true, if_false, List.length_map, beq_self_eq_true, und3, und4, und5, und9, h5, c1, h1, hv6, apure_convert, isAddr, apureC, e1, e2, e3, e4, e5, callSml, callMul, callKey, callAdd]
  exact ⟨_, _, rfl, by simp only [upd_at, Nat.reduceEqDiff, reduceIte]; exact r5.is, by simp only [upd_at, Nat.reduceEqDiff, reduceIte, h1], by simp only [upd_at, Nat.reduceEqDiff, reduceIte], r1.keeps.trans (r2.keeps.trans (r4.keeps.trans r5.keeps))⟩
theorem shk_18 (cs : CSmall self) (ca : CAdd self) {x : Nat} (hx : x < 256 ^ 20) (h7 : NumA m (F 7) (dig x)) :
    ∃ F' m', acodeN E self nf (.region 18 rshk_18 false) (lst F 94) m = some (.normal, lst F' 94, m') ∧ NumA m' (F' 8) (dig (x + 1)) ∧ NumA m' (F' 7) (dig x) ∧ F' 1 = F 1 ∧ F' 2 = F 2 ∧ Kept m m' := by
  obtain ⟨v1, m1, e1, r1⟩ := cs m 1 (by omega)
  generalize hv : F 7 = v at h7
  obtain ⟨v2, m2, e2, r2⟩ := ca m1 v v1 x 1 (h7.on r1.keeps) r1.is (dlen hx (by omega)) (dlen (k := 1) (by omega) (by omega))
  rw [show (((1 : Nat) : Int)) = 1 from rfl] at e1
  simp only [eshk_0, eshk_1, eshk_10, eshk_11, eshk_12, eshk_13, eshk_14, eshk_15, eshk_16, eshk_17, eshk_18, eshk_19, eshk_2, eshk_20, eshk_21, eshk_22, eshk_23, eshk_3, eshk_4, eshk_5, eshk_6, eshk_7, eshk_8, eshk_9, lshk_0, lshk_1, lshk_2, lshk_3, lshk_4, lshk_5, lshk_6, lshk_7, lshk_8, lshk_9, lshk_10, lshk_11, lshk_12, lshk_13, lshk_14, lshk_15, lshk_16, lshk_17, lshk_18, lshk_19, lshk_20, lshk_21, lshk_22, lshk_23, gshk_11_1, gshk_1_2, gshk_1_6, gshk_20_8, agd_none, gdAt, gdV_bool, gdV_undef, Tryd.f6, List.append_eq, List.cons_append, List.nil_append, apure_call1, apure_call2, apure_call3, bft, btf, acodeN, List.getElem?_toArray, List.getElem?_cons_zero, List.getElem?_cons_succ, aopsN, adrawT, cls, astep, aop, afloat, ev, nth_lst, get_lst, aput, setAt_lst, upd_at, init_zero, init_succ, init_nil, Nat.reduceLT, Nat.reduceEqDiff, reduceIte, len_N, abuiltin_app, Option.map_some, Option.map_none, orElse_some, apure_add, apure_eqlV, eqlVal_str, eqlVal_bool, eqlVal_ptr, eqlVal_slice, eqlVal_wide, eqlVal_int, allT, ↓aop_eqlV, apure_neq, List.map_cons, List.map_nil, List.all_cons, List.all_nil, lit2, lit1, lit0, List.isEmpty_nil, Bool.and_self, Bool.and_true, Bool.true_and, Bool.false_and, Bool.and_false, Bool.not_true, Bool.not_false, Bool.or_true, Bool.true_or, Bool.false_or, Bool.or_false, Bool.false_eq_true, if_true, if_false, List.length_map, beq_self_eq_true, und3, und4, und5, und9, hv, e1, e2, callSml, callAdd]
  exact ⟨_, _, rfl, by simp only [upd_at, Nat.reduceEqDiff, reduceIte]; exact r2.is, by simp only [upd_at, Nat.reduceEqDiff, reduceIte, hv]; exact h7.on (r1.keeps.trans r2.keeps), by simp only [upd_at, Nat.reduceEqDiff, reduceIte], by simp only [upd_at, Nat.reduceEqDiff, reduceIte], r1.keeps.trans r2.keeps⟩
theorem shk_19 (cs : CSmall self) (co : COf self) (cm : CMul self) {p x : Nat} (hp : p < 1000) (h2 : F 2 = .int .i64 (p : Nat)) :
    ∃ F' m', amk E self rshk_19 (lst F 94) m = some (lst F' 94, m') ∧ NumA m' (F' 9) (dig (p * 6277101735386680763835789423207666416102355444464034512896)) ∧ F' 1 = F 1 ∧ F' 2 = F 2 ∧ F' 7 = F 7 ∧ F' 8 = F 8 ∧ Kept m m' := by
  suffices key : Ends2 (fun T nb => ∃ F', T = lst F' 94 ∧ NumA (m ++ nb) (F' 9) (dig (p * 6277101735386680763835789423207666416102355444464034512896)) ∧ F' 1 = F 1 ∧ F' 2 = F 2 ∧ F' 7 = F 7 ∧ F' 8 = F 8) (amkUT E self rshk_19 m rshk_19.toList 0 (lst F 94) [] []) by
    obtain ⟨_, nb, h1, F', rfl, h3⟩ := key
    exact ⟨F', m ++ nb, amk_of dep19k h1, h3.1, h3.2.1, h3.2.2.1, h3.2.2.2.1, h3.2.2.2.2, Kept.app _ _⟩
  rw [eshk_19]
  simp only [lshk_19, Tryd.f6]
  refine k_float (.int .i64 (p : Nat)) agd_none (by kernel_rfl) (by kernel_rfl) (by simp only [List.append_eq, List.cons_append, List.nil_append, apure_call1, apure_call2, apure_call3, bft, btf, acodeN, List.getElem?_toArray, List.getElem?_cons_zero, List.getElem?_cons_succ, aopsN, adrawT, cls, astep, aop, afloat, ev, nth_lst, get_lst, aput, setAt_lst, upd_at, init_zero, init_succ, init_nil, Nat.reduceLT, Nat.reduceEqDiff, reduceIte, len_N, abuiltin_app, Option.map_some, Option.map_none, orElse_some, apure_add, apure_eqlV, eqlVal_str, eqlVal_bool, eqlVal_ptr, eqlVal_slice, eqlVal_wide, eqlVal_int, allT, ↓aop_eqlV, apure_neq, List.map_cons, List.map_nil, List.all_cons, List.all_nil, lit2, lit1, lit0, List.isEmpty_nil, Bool.and_self, Bool.and_true, Bool.true_and, Bool.false_and, Bool.and_false, Bool.not_true, Bool.not_false, Bool.or_true, Bool.true_or, Bool.false_or, Bool.or_false, Bool.false_eq_true, if_true, if_false, List.length_map, beq_self_eq_true, und3, und4, und5, und9, h2]) ?_
  simp only [aput, setAt_lst, Nat.reduceLT, if_true, Nat.reduceAdd]
  refine k_float (.int .u64 (p : Nat)) agd_none (by kernel_rfl) (by kernel_rfl) (by simp only [List.append_eq, List.cons_append, List.nil_append, apure_call1, apure_call2, apure_call3, bft, btf, acodeN, List.getElem?_toArray, List.getElem?_cons_zero, List.getElem?_cons_succ, aopsN, adrawT, cls, astep, aop, afloat, ev, nth_lst, get_lst, aput, setAt_lst, upd_at, init_zero, init_succ, init_nil, Nat.reduceLT, Nat.reduceEqDiff, reduceIte, len_N, abuiltin_app, Option.map_some, Option.map_none, orElse_some, apure_add, apure_eqlV, eqlVal_str, eqlVal_bool, eqlVal_ptr, eqlVal_slice, eqlVal_wide, eqlVal_int, allT, ↓aop_eqlV, apure_neq, List.map_cons, List.map_nil, List.all_cons, List.all_nil, lit2, lit1, lit0, List.isEmpty_nil, Bool.and_self, Bool.and_true, Bool.true_and, Bool.false_and, Bool.and_false, Bool.not_true, Bool.not_false, Bool.or_true, Bool.true_or, Bool.false_or, Bool.or_false, Bool.false_eq_true, if_true, if_false, List.length_map, beq_self_eq_true, und3, und4, und5, und9, conv3_22 (show p < 100000 by omega)]) ?_
  simp only [aput, setAt_lst, Nat.reduceLT, if_true, Nat.reduceAdd]
  refine k_num 1 p US.nil agd_none (by kernel_rfl) (by kernel_rfl) (by kernel_rfl) (by simp only [opsP, Op.operands, Call.operands, List.toList_toArray, Array.toList_append, List.cons_append, List.nil_append, List.all_cons, List.all_nil, ev, nth_lst, upd_at, Nat.reduceEqDiff, reduceIte, Nat.reduceLT, if_true, Bool.and_self, ch77]; rfl) (by
      obtain ⟨v, M', h3, h4⟩ := cs ((m ++ maskN rshk_19 2 [] []).map Am.sealed) p (by omega)
      refine ⟨v, M', ?_, h4⟩
      simp only [List.append_eq, List.cons_append, List.nil_append, apure_call1, apure_call2, apure_call3, bft, btf, acodeN, List.getElem?_toArray, List.getElem?_cons_zero, List.getElem?_cons_succ, aopsN, adrawT, cls, astep, aop, afloat, ev, nth_lst, get_lst, aput, setAt_lst, upd_at, init_zero, init_succ, init_nil, Nat.reduceLT, Nat.reduceEqDiff, reduceIte, len_N, abuiltin_app, Option.map_some, Option.map_none, orElse_some, apure_add, apure_eqlV, eqlVal_str, eqlVal_bool, eqlVal_ptr, eqlVal_slice, eqlVal_wide, eqlVal_int, allT, ↓aop_eqlV, apure_neq, List.map_cons, List.map_nil, List.all_cons, List.all_nil, lit2, lit1, lit0, List.isEmpty_nil, Bool.and_self, Bool.and_true, Bool.true_and, Bool.false_and, Bool.and_false, Bool.not_true, Bool.not_false, Bool.or_true, Bool.true_or, Bool.false_or, Bool.or_false, Bool.false_eq_true, if_true, if_false, List.length_map, beq_self_eq_true, und3, und4, und5, und9, callSml]
      exact h3) fun v2 nb2 ow2 n2 us2 k2 => ?_
  simp only [aput, setAt_lst, Nat.reduceLT, if_true, Nat.reduceAdd]
  refine k_row 1 us2 agd_none (by kernel_rfl) (by kernel_rfl) (by kernel_rfl) (by simp only [opsP, Op.operands, Call.operands, List.toList_toArray, Array.toList_append, List.cons_append, List.nil_append, List.all_cons, List.all_nil, ev, nth_lst, upd_at, Nat.reduceEqDiff, reduceIte, Nat.reduceLT, if_true, Bool.and_self, ch77]; rfl) (cs := List.replicate 24 (.int .u8 0)) (e := 5) (ro := false) (k := 24) (d := 24) rfl (by
      have e1 := make35c 24 (by omega) ((m ++ maskN rshk_19 3 nb2 ow2).map Am.sealed)
      rw [show (((24 : Nat) : Int)) = 24 from rfl] at e1
      simp only [List.append_eq, List.cons_append, List.nil_append, apure_call1, apure_call2, apure_call3, bft, btf, acodeN, List.getElem?_toArray, List.getElem?_cons_zero, List.getElem?_cons_succ, aopsN, adrawT, cls, astep, aop, afloat, ev, nth_lst, get_lst, aput, setAt_lst, upd_at, init_zero, init_succ, init_nil, Nat.reduceLT, Nat.reduceEqDiff, reduceIte, len_N, abuiltin_app, Option.map_some, Option.map_none, orElse_some, apure_add, apure_eqlV, eqlVal_str, eqlVal_bool, eqlVal_ptr, eqlVal_slice, eqlVal_wide, eqlVal_int, allT, ↓aop_eqlV, apure_neq, List.map_cons, List.map_nil, List.all_cons, List.all_nil, lit2, lit1, lit0, List.isEmpty_nil, Bool.and_self, Bool.and_true, Bool.true_and, Bool.false_and, Bool.and_false, Bool.not_true, Bool.not_false, Bool.or_true, Bool.true_or, Bool.false_or, Bool.or_false, Bool.false_eq_true, if_true, if_false, List.length_map, beq_self_eq_true, und3, und4, und5, und9]
      rw [List.length_map] at e1
      exact e1) fun b3 nb3 ow3 r3 o3 us3 k3 => ?_
  simp only [aput, setAt_lst, Nat.reduceLT, if_true, Nat.reduceAdd]
  have a3 := row_at (m := m) r3 o3 ch43k
  refine k_lit 0 us3 agd_none (by kernel_rfl) (by kernel_rfl) (by simp only [opsP, Op.operands, Call.operands, List.toList_toArray, Array.toList_append, List.cons_append, List.nil_append, List.all_cons, List.all_nil, ev, nth_lst, upd_at, Nat.reduceEqDiff, reduceIte, Nat.reduceLT, if_true, Bool.and_self, ch77, Bool.and_true]; exact a3.2) (v := .string (noughts 24)) (M' := (m ++ maskN rshk_19 4 nb3 ow3).map Am.sealed) (by
      have c0 := aconv35
      simp only [List.append_eq, List.cons_append, List.nil_append, apure_call1, apure_call2, apure_call3, bft, btf, acodeN, List.getElem?_toArray, List.getElem?_cons_zero, List.getElem?_cons_succ, aopsN, adrawT, cls, astep, aop, afloat, ev, nth_lst, get_lst, aput, setAt_lst, upd_at, init_zero, init_succ, init_nil, Nat.reduceLT, Nat.reduceEqDiff, reduceIte, len_N, abuiltin_app, Option.map_some, Option.map_none, orElse_some, apure_add, apure_eqlV, eqlVal_str, eqlVal_bool, eqlVal_ptr, eqlVal_slice, eqlVal_wide, eqlVal_int, allT, ↓aop_eqlV, apure_neq, List.map_cons, List.map_nil, List.all_cons, List.all_nil, lit2, lit1, lit0, List.isEmpty_nil, Bool.and_self, Bool.and_true, Bool.true_and, Bool.false_and, Bool.and_false, Bool.not_true, Bool.not_false, Bool.or_true, Bool.true_or, Bool.false_or, Bool.or_false, Bool.false_eq_true, if_true, if_false, List.length_map, beq_self_eq_true, und3, und4, und5, und9, c0, apure_convert, isAddr, str_noughts a3.1]) rfl ?_
  simp only [aput, setAt_lst, Nat.reduceLT, if_true, Nat.reduceAdd]
  refine k_float (.string one24) agd_none (by kernel_rfl) (by kernel_rfl) (by simp only [List.append_eq, List.cons_append, List.nil_append, apure_call1, apure_call2, apure_call3, bft, btf, acodeN, List.getElem?_toArray, List.getElem?_cons_zero, List.getElem?_cons_succ, aopsN, adrawT, cls, astep, aop, afloat, ev, nth_lst, get_lst, aput, setAt_lst, upd_at, init_zero, init_succ, init_nil, Nat.reduceLT, Nat.reduceEqDiff, reduceIte, len_N, abuiltin_app, Option.map_some, Option.map_none, orElse_some, apure_add, apure_eqlV, eqlVal_str, eqlVal_bool, eqlVal_ptr, eqlVal_slice, eqlVal_wide, eqlVal_int, allT, ↓aop_eqlV, apure_neq, List.map_cons, List.map_nil, List.all_cons, List.all_nil, lit2, lit1, lit0, List.isEmpty_nil, Bool.and_self, Bool.and_true, Bool.true_and, Bool.false_and, Bool.and_false, Bool.not_true, Bool.not_false, Bool.or_true, Bool.true_or, Bool.false_or, Bool.or_false, Bool.false_eq_true, if_true, if_false, List.length_map, beq_self_eq_true, und3, und4, und5, und9, size24, one24]) ?_
  simp only [aput, setAt_lst, Nat.reduceLT, if_true, Nat.reduceAdd]
  refine k_num 1 6277101735386680763835789423207666416102355444464034512896 us3 agd_none (by kernel_rfl) (by kernel_rfl) (by kernel_rfl) (by simp only [opsP, Op.operands, Call.operands, List.toList_toArray, Array.toList_append, List.cons_append, List.nil_append, List.all_cons, List.all_nil, ev, nth_lst, upd_at, Nat.reduceEqDiff, reduceIte, Nat.reduceLT, if_true, Bool.and_self, ch77]; rfl) (by
      obtain ⟨v, M', h3, h4⟩ := co ((m ++ maskN rshk_19 6 nb3 ow3).map Am.sealed) one24 one24_len
      rw [one24_val] at h4
      refine ⟨v, M', ?_, h4⟩
      simp only [List.append_eq, List.cons_append, List.nil_append, apure_call1, apure_call2, apure_call3, bft, btf, acodeN, List.getElem?_toArray, List.getElem?_cons_zero, List.getElem?_cons_succ, aopsN, adrawT, cls, astep, aop, afloat, ev, nth_lst, get_lst, aput, setAt_lst, upd_at, init_zero, init_succ, init_nil, Nat.reduceLT, Nat.reduceEqDiff, reduceIte, len_N, abuiltin_app, Option.map_some, Option.map_none, orElse_some, apure_add, apure_eqlV, eqlVal_str, eqlVal_bool, eqlVal_ptr, eqlVal_slice, eqlVal_wide, eqlVal_int, allT, ↓aop_eqlV, apure_neq, List.map_cons, List.map_nil, List.all_cons, List.all_nil, lit2, lit1, lit0, List.isEmpty_nil, Bool.and_self, Bool.and_true, Bool.true_and, Bool.false_and, Bool.and_false, Bool.not_true, Bool.not_false, Bool.or_true, Bool.true_or, Bool.false_or, Bool.or_false, Bool.false_eq_true, if_true, if_false, List.length_map, beq_self_eq_true, und3, und4, und5, und9, callOf]
      exact h3) fun v6 nb6 ow6 n6 us6 k6 => ?_
  simp only [aput, setAt_lst, Nat.reduceLT, if_true, Nat.reduceAdd]
  have a2 := (k6 _ _ _ (k3 _ _ _ n2)).at ch72k
  have a6 := n6.at ch76k
  refine k_num 1 (p * 6277101735386680763835789423207666416102355444464034512896) us6 agd_none (by kernel_rfl) (by kernel_rfl) (by kernel_rfl) (by simp only [opsP, Op.operands, Call.operands, List.toList_toArray, Array.toList_append, List.cons_append, List.nil_append, List.all_cons, List.all_nil, ev, nth_lst, upd_at, Nat.reduceEqDiff, reduceIte, Nat.reduceLT, if_true, Bool.and_self, ch77, a2.2, a6.2]) (by
      obtain ⟨v, M', h3, h4⟩ := cm ((m ++ maskN rshk_19 7 nb6 ow6).map Am.sealed) v2 v6 p 6277101735386680763835789423207666416102355444464034512896 a2.1 a6.1 (dlen (k := 2) (by omega) (by omega)) (dlen (k := 25) (by omega) (by omega))
      refine ⟨v, M', ?_, h4⟩
      simp only [List.append_eq, List.cons_append, List.nil_append, apure_call1, apure_call2, apure_call3, bft, btf, acodeN, List.getElem?_toArray, List.getElem?_cons_zero, List.getElem?_cons_succ, aopsN, adrawT, cls, astep, aop, afloat, ev, nth_lst, get_lst, aput, setAt_lst, upd_at, init_zero, init_succ, init_nil, Nat.reduceLT, Nat.reduceEqDiff, reduceIte, len_N, abuiltin_app, Option.map_some, Option.map_none, orElse_some, apure_add, apure_eqlV, eqlVal_str, eqlVal_bool, eqlVal_ptr, eqlVal_slice, eqlVal_wide, eqlVal_int, allT, ↓aop_eqlV, apure_neq, List.map_cons, List.map_nil, List.all_cons, List.all_nil, lit2, lit1, lit0, List.isEmpty_nil, Bool.and_self, Bool.and_true, Bool.true_and, Bool.false_and, Bool.and_false, Bool.not_true, Bool.not_false, Bool.or_true, Bool.true_or, Bool.false_or, Bool.or_false, Bool.false_eq_true, if_true, if_false, List.length_map, beq_self_eq_true, und3, und4, und5, und9, callMul]
      exact h3) fun v7 nb7 ow7 n7 us7 k7 => ?_
  simp only [aput, setAt_lst, Nat.reduceLT, if_true, Nat.reduceAdd]
  refine k_float v7 agd_none (by kernel_rfl) (by kernel_rfl) (by simp only [List.append_eq, List.cons_append, List.nil_append, apure_call1, apure_call2, apure_call3, bft, btf, acodeN, List.getElem?_toArray, List.getElem?_cons_zero, List.getElem?_cons_succ, aopsN, adrawT, cls, astep, aop, afloat, ev, nth_lst, get_lst, aput, setAt_lst, upd_at, init_zero, init_succ, init_nil, Nat.reduceLT, Nat.reduceEqDiff, reduceIte, len_N, abuiltin_app, Option.map_some, Option.map_none, orElse_some, apure_add, apure_eqlV, eqlVal_str, eqlVal_bool, eqlVal_ptr, eqlVal_slice, eqlVal_wide, eqlVal_int, allT, ↓aop_eqlV, apure_neq, List.map_cons, List.map_nil, List.all_cons, List.all_nil, lit2, lit1, lit0, List.isEmpty_nil, Bool.and_self, Bool.and_true, Bool.true_and, Bool.false_and, Bool.and_false, Bool.not_true, Bool.not_false, Bool.or_true, Bool.true_or, Bool.false_or, Bool.or_false, Bool.false_eq_true, if_true, if_false, List.length_map, beq_self_eq_true, und3, und4, und5, und9, id_eq]) ?_
  simp only [aput, setAt_lst, Nat.reduceLT, if_true, Nat.reduceAdd]
  refine k_end ⟨_, rfl, ?_⟩
  simp only [upd_at, Nat.reduceEqDiff, reduceIte]
  exact ⟨n7.end.1, trivial, trivial, trivial, trivial⟩
end
end Go.Am.Seat

/-
  ShaKeys: its loops (own work).
-/
set_option linter.unusedSimpArgs false
set_option linter.unusedVariables false
namespace Go.Am.Seat
open Go.Proofs Go.Am
set_option maxRecDepth 100000

theorem notB (b : Bool) : apU E.P .not 4 4 (.bool b) = some (.bool !b) := by cases b <;> kernel_rfl
theorem rem64s (a : Int) (d : Nat) : abin .rem .i64 a .i64 ((d + 1 : Nat) : Int) = some (.int .i64 (a.tmod ((d + 1 : Nat) : Int))) := by kernel_rfl
theorem mul64s (a b : Int) : abin .mul .i64 a .i64 b = some (.int .i64 (wrapF .i64 (a * b))) := by kernel_rfl

section
variable {self : Self} {nf : Nat} {m : Mem} {F : Nat → Value}
theorem shk_20 (cm : CMul self) (cc : CCmp self) {x y z : Nat} (hx : x < 256 ^ 20) (hy : y < 256 ^ 20) (hz : z < 256 ^ 100) (h7 : NumA m (F 7) (dig x)) (h8 : NumA m (F 8) (dig y)) (h9 : NumA m (F 9) (dig z)) (hle : x * (x * x) ≤ z) (hlt : z < y * (y * y)) :
    ∃ F' m', acodeN E self nf (.region 20 rshk_20 false) (lst F 94) m = some (.normal, lst F' 94, m') ∧ F' 91 = .bool false ∧ F' 1 = F 1 ∧ F' 2 = F 2 ∧ Kept m m' := by
  generalize hv7 : F 7 = v7 at h7
  generalize hv8 : F 8 = v8 at h8
  generalize hv9 : F 9 = v9 at h9
  have p2 : ∀ {a b c d : Nat}, a < 256 ^ c → b < 256 ^ d → a * b < 256 ^ (c + d) := by
    intro a b c d h1 h2
    rw [Nat.pow_add]
    exact Nat.mul_lt_mul'' h1 h2
  obtain ⟨u1, m1, e1, r1⟩ := cm m v7 v7 x x h7 h7 (dlen hx (by omega)) (dlen hx (by omega))
  obtain ⟨u2, m2, e2, r2⟩ := cm m1 v7 u1 x (x * x) (h7.on r1.keeps) r1.is (dlen hx (by omega)) (dlen (p2 hx hx) (by omega))
  have k2 := r1.keeps.trans r2.keeps
  have e3 := cc m2 u2 v9 (x * (x * x)) z r2.is (h9.on k2) (Nat.le_trans (dlen (p2 hx (p2 hx hx)) (by omega)) (by omega)) (Nat.le_trans (dlen hz (by omega)) (by omega))
  obtain ⟨u4, m4, e4, r4⟩ := cm m2 v8 v8 y y (h8.on k2) (h8.on k2) (dlen hy (by omega)) (dlen hy (by omega))
  have k4 := k2.trans r4.keeps
  obtain ⟨u5, m5, e5, r5⟩ := cm m4 v8 u4 y (y * y) (h8.on k4) r4.is (dlen hy (by omega)) (dlen (p2 hy hy) (by omega))
  have k5 := k4.trans r5.keeps
  have e6 := cc m5 u5 v9 (y * (y * y)) z r5.is (h9.on k5) (Nat.le_trans (dlen (p2 hy (p2 hy hy)) (by omega)) (by omega)) (Nat.le_trans (dlen hz (by omega)) (by omega))
  have q1 : decide (cmpN (x * (x * x)) z > 0) = false := decide_eq_false (by unfold cmpN; split <;> (try split) <;> omega)
  have q2 : decide (cmpN (y * (y * y)) z ≤ 0) = false := decide_eq_false (by unfold cmpN; split <;> (try split) <;> omega)
  simp only [eshk_0, eshk_1, eshk_10, eshk_11, eshk_12, eshk_13, eshk_14, eshk_15, eshk_16, eshk_17, eshk_18, eshk_19, eshk_2, eshk_20, eshk_21, eshk_22, eshk_23, eshk_3, eshk_4, eshk_5, eshk_6, eshk_7, eshk_8, eshk_9, lshk_0, lshk_1, lshk_2, lshk_3, lshk_4, lshk_5, lshk_6, lshk_7, lshk_8, lshk_9, lshk_10, lshk_11, lshk_12, lshk_13, lshk_14, lshk_15, lshk_16, lshk_17, lshk_18, lshk_19, lshk_20, lshk_21, lshk_22, lshk_23, gshk_11_1, gshk_1_2, gshk_1_6, gshk_20_8, agd_none, gdAt, gdV_bool, gdV_undef, Tryd.f6, List.append_eq, List.cons_append, List.nil_append, apure_call1, apure_call2, apure_call3, bft, btf, acodeN, List.getElem?_toArray, List.getElem?_cons_zero, List.getElem?_cons_succ, aopsN, adrawT, cls, astep, aop, afloat, ev, nth_lst, get_lst, aput, setAt_lst, upd_at, init_zero, init_succ, init_nil, Nat.reduceLT, Nat.reduceEqDiff, reduceIte, len_N, abuiltin_app, Option.map_some, Option.map_none, orElse_some, apure_add, apure_eqlV, eqlVal_str, eqlVal_bool, eqlVal_ptr, eqlVal_slice, eqlVal_wide, eqlVal_int, allT, ↓aop_eqlV, apure_neq, List.map_cons, List.map_nil, List.all_cons, List.all_nil, lit2, lit1, lit0, List.isEmpty_nil, Bool.and_self, Bool.and_true, Bool.true_and, Bool.false_and, Bool.and_false, Bool.not_true, Bool.not_false, Bool.or_true, Bool.true_or, Bool.false_or, Bool.or_false, Bool.false_eq_true, if_true, if_false, List.length_map, beq_self_eq_true, und3, und4, und5, und9, hv7, hv8, hv9, e1, e2, e3, e4, e5, e6, gtr64', leq64, q1, q2, callMul, callCmp]
  exact ⟨_, _, rfl, by simp only [upd_at, Nat.reduceEqDiff, reduceIte], by simp only [upd_at, Nat.reduceEqDiff, reduceIte], by simp only [upd_at, Nat.reduceEqDiff, reduceIte], k5⟩

/-- No number from 2 on, below d, goes into p. -/
def preP (p d : Nat) : Bool := (List.range d).all fun e => decide (e < 2) || decide (p % e ≠ 0)
def isP (p : Nat) : Bool := preP p p
theorem preP_succ (p d : Nat) (h : 2 ≤ d) : preP p (d + 1) = (preP p d && decide (p % d ≠ 0)) := by
  unfold preP
  rw [List.range_succ, List.all_append]
  have : decide (d < 2) = false := decide_eq_false (by omega)
  simp [this]
theorem shk_l1a {p d : Nat} {t : Bool} (hp : p < 1000) (hd : d + 2 < p) (h2 : F 2 = .int .i64 (p : Nat)) (h3 : F 3 = .bool t) (h4 : F 4 = .int .i64 ((d + 2 : Nat) : Int)) :
    ∃ F', acodeN E self nf lpshk_1 (lst F 94) m = some (.normal, lst F' 94, m) ∧ F' 1 = F 1 ∧ F' 2 = F 2 ∧ F' 3 = .bool (t && decide (p % (d + 2) ≠ 0)) ∧ F' 4 = .int .i64 ((d + 3 : Nat) : Int) := by
  have q1 : decide (((d + 2 : Nat) : Int) < ((p : Nat) : Int)) = true := decide_eq_true (by omega)
  have e1 : wrapF .i64 (((d + 2 : Nat) : Int) + 1) = ((d + 3 : Nat) : Int) := by rw [wrap_i64 (by omega) (by omega)]; omega
  have e2 := rem64s ((p : Nat) : Int) (d + 1)
  have e3 : (((p : Nat) : Int).tmod ((d + 1 + 1 : Nat) : Int)) = ((p % (d + 2) : Nat) : Int) := by
    rw [Int.tmod_eq_emod_of_nonneg (by omega)]
    rfl
  rw [e3, show d + 1 + 1 = d + 2 from rfl] at e2
  have q2 : (((p % (d + 2) : Nat) : Int) != 0) = decide (p % (d + 2) ≠ 0) := by
    by_cases h : p % (d + 2) = 0
    · simp [h]
    · have h' : ((p % (d + 2) : Nat) : Int) ≠ 0 := by omega
      simp only [bne_iff_ne, ne_eq, h', not_false_eq_true, h, decide_true]
  cases t with
  | false =>
    simp only [lpshk_1_eq, eshk_0, eshk_1, eshk_10, eshk_11, eshk_12, eshk_13, eshk_14, eshk_15, eshk_16, eshk_17, eshk_18, eshk_19, eshk_2, eshk_20, eshk_21, eshk_22, eshk_23, eshk_3, eshk_4, eshk_5, eshk_6, eshk_7, eshk_8, eshk_9, lshk_0, lshk_1, lshk_2, lshk_3, lshk_4, lshk_5, lshk_6, lshk_7, lshk_8, lshk_9, lshk_10, lshk_11, lshk_12, lshk_13, lshk_14, lshk_15, lshk_16, lshk_17, lshk_18, lshk_19, lshk_20, lshk_21, lshk_22, lshk_23, gshk_11_1, gshk_1_2, gshk_1_6, gshk_20_8, agd_none, gdAt, gdV_bool, gdV_undef, Tryd.f6, List.append_eq, List.cons_append, List.nil_append, apure_call1, apure_call2, apure_call3, bft, btf, acodeN, List.getElem?_toArray, List.getElem?_cons_zero, List.getElem?_cons_succ, aopsN, adrawT, cls, astep, aop, afloat, ev, nth_lst, get_lst, aput, setAt_lst, upd_at, init_zero, init_succ, init_nil, Nat.reduceLT, Nat.reduceEqDiff, reduceIte, len_N, abuiltin_app, Option.map_some, Option.map_none, orElse_some, apure_add, apure_eqlV, eqlVal_str, eqlVal_bool, eqlVal_ptr, eqlVal_slice, eqlVal_wide, eqlVal_int, allT, ↓aop_eqlV, apure_neq, List.map_cons, List.map_nil, List.all_cons, List.all_nil, lit2, lit1, lit0, List.isEmpty_nil, Bool.and_self, Bool.and_true, Bool.true_and, Bool.false_and, Bool.and_false, Bool.not_true, Bool.not_false, Bool.or_true, Bool.true_or, Bool.false_or, Bool.or_false, Bool.false_eq_true, if_true, if_false, List.length_map, beq_self_eq_true, und3, und4, und5, und9, h2, h3, h4, lss64, q1, add64', e1]
    exact ⟨_, rfl, by simp only [upd_at, Nat.reduceEqDiff, reduceIte], by simp only [upd_at, Nat.reduceEqDiff, reduceIte, h2], by simp only [upd_at, Nat.reduceEqDiff, reduceIte, Bool.false_and], by simp only [upd_at, Nat.reduceEqDiff, reduceIte]⟩
  | true =>
    simp only [lpshk_1_eq, eshk_0, eshk_1, eshk_10, eshk_11, eshk_12, eshk_13, eshk_14, eshk_15, eshk_16, eshk_17, eshk_18, eshk_19, eshk_2, eshk_20, eshk_21, eshk_22, eshk_23, eshk_3, eshk_4, eshk_5, eshk_6, eshk_7, eshk_8, eshk_9, lshk_0, lshk_1, lshk_2, lshk_3, lshk_4, lshk_5, lshk_6, lshk_7, lshk_8, lshk_9, lshk_10, lshk_11, lshk_12, lshk_13, lshk_14, lshk_15, lshk_16, lshk_17, lshk_18, lshk_19, lshk_20, lshk_21, lshk_22, lshk_23, gshk_11_1, gshk_1_2, gshk_1_6, gshk_20_8, agd_none, gdAt, gdV_bool, gdV_undef, Tryd.f6, List.append_eq, List.cons_append, List.nil_append, apure_call1, apure_call2, apure_call3, bft, btf, acodeN, List.getElem?_toArray, List.getElem?_cons_zero, List.getElem?_cons_succ, aopsN, adrawT, cls, astep, aop, afloat, ev, nth_lst, get_lst, aput, setAt_lst, upd_at, init_zero, init_succ, init_nil, Nat.reduceLT, Nat.reduceEqDiff, reduceIte, len_N, abuiltin_app, Option.map_some, Option.map_none, orElse_some, apure_add, apure_eqlV, eqlVal_str, eqlVal_bool, eqlVal_ptr, eqlVal_slice, eqlVal_wide, eqlVal_int, allT, ↓aop_eqlV, apure_neq, List.map_cons, List.map_nil, List.all_cons, List.all_nil, lit2, lit1, lit0, List.isEmpty_nil, Bool.and_self, Bool.and_true, Bool.true_and, Bool.false_and, Bool.and_false, Bool.not_true, Bool.not_false, Bool.or_true, Bool.true_or, Bool.false_or, Bool.or_false, Bool.false_eq_true, if_true, if_false, List.length_map, beq_self_eq_true, und3, und4, und5, und9, h2, h3, h4, lss64, q1, add64', e1, e2, neq64, q2]
    exact ⟨_, rfl, by simp only [upd_at, Nat.reduceEqDiff, reduceIte], by simp only [upd_at, Nat.reduceEqDiff, reduceIte, h2], by simp only [upd_at, Nat.reduceEqDiff, reduceIte, Bool.true_and], by simp only [upd_at, Nat.reduceEqDiff, reduceIte]⟩
theorem shk_l1b {p d : Nat} (hd : p ≤ d) (h2 : F 2 = .int .i64 (p : Nat)) (h4 : F 4 = .int .i64 ((d : Nat) : Int)) :
    ∃ F', acodeN E self nf lpshk_1 (lst F 94) m = some (.exit 2, lst F' 94, m) ∧ F' 1 = F 1 ∧ F' 2 = F 2 ∧ F' 3 = F 3 := by
  have q1 : decide (((d : Nat) : Int) < ((p : Nat) : Int)) = false := decide_eq_false (by omega)
  simp only [lpshk_1_eq, eshk_0, eshk_1, eshk_10, eshk_11, eshk_12, eshk_13, eshk_14, eshk_15, eshk_16, eshk_17, eshk_18, eshk_19, eshk_2, eshk_20, eshk_21, eshk_22, eshk_23, eshk_3, eshk_4, eshk_5, eshk_6, eshk_7, eshk_8, eshk_9, lshk_0, lshk_1, lshk_2, lshk_3, lshk_4, lshk_5, lshk_6, lshk_7, lshk_8, lshk_9, lshk_10, lshk_11, lshk_12, lshk_13, lshk_14, lshk_15, lshk_16, lshk_17, lshk_18, lshk_19, lshk_20, lshk_21, lshk_22, lshk_23, gshk_11_1, gshk_1_2, gshk_1_6, gshk_20_8, agd_none, gdAt, gdV_bool, gdV_undef, Tryd.f6, List.append_eq, List.cons_append, List.nil_append, apure_call1, apure_call2, apure_call3, bft, btf, acodeN, List.getElem?_toArray, List.getElem?_cons_zero, List.getElem?_cons_succ, aopsN, adrawT, cls, astep, aop, afloat, ev, nth_lst, get_lst, aput, setAt_lst, upd_at, init_zero, init_succ, init_nil, Nat.reduceLT, Nat.reduceEqDiff, reduceIte, len_N, abuiltin_app, Option.map_some, Option.map_none, orElse_some, apure_add, apure_eqlV, eqlVal_str, eqlVal_bool, eqlVal_ptr, eqlVal_slice, eqlVal_wide, eqlVal_int, allT, ↓aop_eqlV, apure_neq, List.map_cons, List.map_nil, List.all_cons, List.all_nil, lit2, lit1, lit0, List.isEmpty_nil, Bool.and_self, Bool.and_true, Bool.true_and, Bool.false_and, Bool.and_false, Bool.not_true, Bool.not_false, Bool.or_true, Bool.true_or, Bool.false_or, Bool.or_false, Bool.false_eq_true, if_true, if_false, List.length_map, beq_self_eq_true, und3, und4, und5, und9, h2, h4, lss64, q1]
  exact ⟨_, rfl, by simp only [upd_at, Nat.reduceEqDiff, reduceIte], by simp only [upd_at, Nat.reduceEqDiff, reduceIte, h2], by simp only [upd_at, Nat.reduceEqDiff, reduceIte]⟩
theorem shk_l2a {p w : Nat} (hp : p < 1000) (hw : w < 1000) (h2 : F 2 = .int .i64 (p : Nat)) (h5 : F 5 = .int .i64 (w : Nat)) (hle : (w + 1) * (w + 1) * (w + 1) ≤ p) :
    ∃ F', acodeN E self nf lpshk_2 (lst F 94) m = some (.normal, lst F' 94, m) ∧ F' 1 = F 1 ∧ F' 2 = F 2 ∧ F' 5 = .int .i64 ((w + 1 : Nat) : Int) := by
  have e1 : wrapF .i64 (((w : Nat) : Int) + 1) = ((w + 1 : Nat) : Int) := by rw [wrap_i64 (by omega) (by omega)]; omega
  have b1 : (w + 1) * (w + 1) ≤ 1000 * 1000 := Nat.mul_le_mul (by omega) (by omega)
  have e2 : wrapF .i64 (((w + 1 : Nat) : Int) * ((w + 1 : Nat) : Int)) = (((w + 1) * (w + 1) : Nat) : Int) := by rw [← Int.natCast_mul, wrap_i64 (by omega) (by omega)]
  have e3 : wrapF .i64 ((((w + 1) * (w + 1) : Nat) : Int) * ((w + 1 : Nat) : Int)) = (((w + 1) * (w + 1) * (w + 1) : Nat) : Int) := by rw [← Int.natCast_mul, wrap_i64 (by omega) (by omega)]
  have q1 : decide ((((w + 1) * (w + 1) * (w + 1) : Nat) : Int) ≤ ((p : Nat) : Int)) = true := decide_eq_true (by omega)
  simp only [lpshk_2_eq, eshk_0, eshk_1, eshk_10, eshk_11, eshk_12, eshk_13, eshk_14, eshk_15, eshk_16, eshk_17, eshk_18, eshk_19, eshk_2, eshk_20, eshk_21, eshk_22, eshk_23, eshk_3, eshk_4, eshk_5, eshk_6, eshk_7, eshk_8, eshk_9, lshk_0, lshk_1, lshk_2, lshk_3, lshk_4, lshk_5, lshk_6, lshk_7, lshk_8, lshk_9, lshk_10, lshk_11, lshk_12, lshk_13, lshk_14, lshk_15, lshk_16, lshk_17, lshk_18, lshk_19, lshk_20, lshk_21, lshk_22, lshk_23, gshk_11_1, gshk_1_2, gshk_1_6, gshk_20_8, agd_none, gdAt, gdV_bool, gdV_undef, Tryd.f6, List.append_eq, List.cons_append, List.nil_append, apure_call1, apure_call2, apure_call3, bft, btf, acodeN, List.getElem?_toArray, List.getElem?_cons_zero, List.getElem?_cons_succ, aopsN, adrawT, cls, astep, aop, afloat, ev, nth_lst, get_lst, aput, setAt_lst, upd_at, init_zero, init_succ, init_nil, Nat.reduceLT, Nat.reduceEqDiff, reduceIte, len_N, abuiltin_app, Option.map_some, Option.map_none, orElse_some, apure_add, apure_eqlV, eqlVal_str, eqlVal_bool, eqlVal_ptr, eqlVal_slice, eqlVal_wide, eqlVal_int, allT, ↓aop_eqlV, apure_neq, List.map_cons, List.map_nil, List.all_cons, List.all_nil, lit2, lit1, lit0, List.isEmpty_nil, Bool.and_self, Bool.and_true, Bool.true_and, Bool.false_and, Bool.and_false, Bool.not_true, Bool.not_false, Bool.or_true, Bool.true_or, Bool.false_or, Bool.or_false, Bool.false_eq_true, if_true, if_false, List.length_map, beq_self_eq_true, und3, und4, und5, und9, h2, h5, add64', e1, mul64s, e2, e3, leq64, q1]
  exact ⟨_, rfl, by simp only [upd_at, Nat.reduceEqDiff, reduceIte], by simp only [upd_at, Nat.reduceEqDiff, reduceIte, h2], by simp only [upd_at, Nat.reduceEqDiff, reduceIte]⟩
theorem shk_l2b {p w : Nat} (hp : p < 1000) (hw : w < 1000) (h2 : F 2 = .int .i64 (p : Nat)) (h5 : F 5 = .int .i64 (w : Nat)) (hle : p < (w + 1) * (w + 1) * (w + 1)) :
    ∃ F', acodeN E self nf lpshk_2 (lst F 94) m = some (.exit 4, lst F' 94, m) ∧ F' 1 = F 1 ∧ F' 2 = F 2 ∧ F' 5 = F 5 := by
  have e1 : wrapF .i64 (((w : Nat) : Int) + 1) = ((w + 1 : Nat) : Int) := by rw [wrap_i64 (by omega) (by omega)]; omega
  have b1 : (w + 1) * (w + 1) ≤ 1000 * 1000 := Nat.mul_le_mul (by omega) (by omega)
  have b2 : (w + 1) * (w + 1) * (w + 1) ≤ 1000 * 1000 * 1000 := Nat.mul_le_mul b1 (by omega)
  have e2 : wrapF .i64 (((w + 1 : Nat) : Int) * ((w + 1 : Nat) : Int)) = (((w + 1) * (w + 1) : Nat) : Int) := by rw [← Int.natCast_mul, wrap_i64 (by omega) (by omega)]
  have e3 : wrapF .i64 ((((w + 1) * (w + 1) : Nat) : Int) * ((w + 1 : Nat) : Int)) = (((w + 1) * (w + 1) * (w + 1) : Nat) : Int) := by rw [← Int.natCast_mul, wrap_i64 (by omega) (by omega)]
  have q1 : decide ((((w + 1) * (w + 1) * (w + 1) : Nat) : Int) ≤ ((p : Nat) : Int)) = false := decide_eq_false (by omega)
  simp only [lpshk_2_eq, eshk_0, eshk_1, eshk_10, eshk_11, eshk_12, eshk_13, eshk_14, eshk_15, eshk_16, eshk_17, eshk_18, eshk_19, eshk_2, eshk_20, eshk_21, eshk_22, eshk_23, eshk_3, eshk_4, eshk_5, eshk_6, eshk_7, eshk_8, eshk_9, lshk_0, lshk_1, lshk_2, lshk_3, lshk_4, lshk_5, lshk_6, lshk_7, lshk_8, lshk_9, lshk_10, lshk_11, lshk_12, lshk_13, lshk_14, lshk_15, lshk_16, lshk_17, lshk_18, lshk_19, lshk_20, lshk_21, lshk_22, lshk_23, gshk_11_1, gshk_1_2, gshk_1_6, gshk_20_8, agd_none, gdAt, gdV_bool, gdV_undef, Tryd.f6, List.append_eq, List.cons_append, List.nil_append, apure_call1, apure_call2, apure_call3, bft, btf, acodeN, List.getElem?_toArray, List.getElem?_cons_zero, List.getElem?_cons_succ, aopsN, adrawT, cls, astep, aop, afloat, ev, nth_lst, get_lst, aput, setAt_lst, upd_at, init_zero, init_succ, init_nil, Nat.reduceLT, Nat.reduceEqDiff, reduceIte, len_N, abuiltin_app, Option.map_some, Option.map_none, orElse_some, apure_add, apure_eqlV, eqlVal_str, eqlVal_bool, eqlVal_ptr, eqlVal_slice, eqlVal_wide, eqlVal_int, allT, ↓aop_eqlV, apure_neq, List.map_cons, List.map_nil, List.all_cons, List.all_nil, lit2, lit1, lit0, List.isEmpty_nil, Bool.and_self, Bool.and_true, Bool.true_and, Bool.false_and, Bool.and_false, Bool.not_true, Bool.not_false, Bool.or_true, Bool.true_or, Bool.false_or, Bool.or_false, Bool.false_eq_true, if_true, if_false, List.length_map, beq_self_eq_true, und3, und4, und5, und9, h2, h5, add64', e1, mul64s, e2, e3, leq64, q1]
  exact ⟨_, rfl, by simp only [upd_at, Nat.reduceEqDiff, reduceIte], by simp only [upd_at, Nat.reduceEqDiff, reduceIte, h2], by simp only [upd_at, Nat.reduceEqDiff, reduceIte, h5]⟩
end
end Go.Am.Seat

/-
  ShaKeys: a prime, or none; the whole (own work).
-/
set_option linter.unusedSimpArgs false
set_option linter.unusedVariables false
namespace Go.Am.Seat
open Go.Proofs Go.Am
set_option maxRecDepth 100000

/-- How many primes there are below. -/
def cntP : Nat → Nat
  | 0 => 0
  | p + 1 => cntP p + (if decide (2 ≤ p) && isP p then 1 else 0)
/-- The key of a number. -/
noncomputable def keyN (n : Nat) : Nat := ((Go.Am.Seat.keys[n]?).map Int.toNat).getD 0
/-- What is asked of a prime's key. -/
noncomputable def okP (p : Nat) : Bool := (!(decide (2 ≤ p) && isP p)) || (decide (cntP p < 80) && (decide (keyN (cntP p) < 18446744073709551616) && (List.range 9).all fun w => (!(decide (1 ≤ w) && decide (w * w * w ≤ p) && decide (p < (w + 1) * (w + 1) * (w + 1)))) ||
  (decide ((w * 18446744073709551616 + keyN (cntP p)) * ((w * 18446744073709551616 + keyN (cntP p)) * (w * 18446744073709551616 + keyN (cntP p))) ≤ p * 6277101735386680763835789423207666416102355444464034512896) &&
   decide (p * 6277101735386680763835789423207666416102355444464034512896 < (w * 18446744073709551616 + keyN (cntP p) + 1) * ((w * 18446744073709551616 + keyN (cntP p) + 1) * (w * 18446744073709551616 + keyN (cntP p) + 1))))))
theorem okP_all : ((List.range 410).all okP) = true := by kernel_rfl
theorem cnt_last : cntP 410 = 80 := by kernel_rfl
theorem cnt_two : cntP 2 = 0 := by kernel_rfl
theorem cnt_less : ((List.range 410).all fun p => decide (cntP p < 80)) = true := by kernel_rfl
theorem cnt_lt {p : Nat} (h : p < 410) : cntP p < 80 := of_decide_eq_true (List.all_eq_true.1 cnt_less p (List.mem_range.2 h))

section
variable {self : Self} {nf : Nat} {m : Mem} {F : Nat → Value}
theorem shk_l1 {p : Nat} (hp2 : 2 ≤ p) (hp : p < 1000) (hnf : 1000 < nf) (h2 : F 2 = .int .i64 (p : Nat)) (h3 : F 3 = .bool true) (h4 : F 4 = .int .i64 2) :
    ∃ F', aloop (acodeN E self nf lpshk_1) nf (lst F 94) m = some (.exit 2, lst F' 94, m) ∧ F' 1 = F 1 ∧ F' 2 = F 2 ∧ F' 3 = .bool (isP p) := by
  have hl := aloop_inv (body := acodeN E self nf lpshk_1) (N := p - 2)
    (I := fun k T m' => ∃ G, T = lst G 94 ∧ m' = m ∧ G 1 = F 1 ∧ G 2 = F 2 ∧ G 3 = .bool (preP p (k + 2)) ∧ G 4 = .int .i64 ((k + 2 : Nat) : Int))
    (Q := fun e T m' => e = .exit 2 ∧ ∃ G, T = lst G 94 ∧ m' = m ∧ G 1 = F 1 ∧ G 2 = F 2 ∧ G 3 = .bool (isP p)) (fun k T m' hk hI => by
      obtain ⟨G, rfl, rfl, g1, g2, g3, g4⟩ := hI
      by_cases hlt : k < p - 2
      · left
        obtain ⟨F', hr, f1, f2, f3, f4⟩ := shk_l1a (self := self) (nf := nf) (m := m') (d := k) hp (by omega) (g2.trans h2) g3 g4
        exact ⟨_, _, hr, hlt, F', rfl, rfl, f1.trans g1, f2.trans g2, by rw [f3, preP_succ p (k + 2) (by omega)], f4⟩
      · right
        obtain ⟨F', hr, f1, f2, f3⟩ := shk_l1b (self := self) (nf := nf) (m := m') (d := k + 2) (p := p) (by omega) (g2.trans h2) g4
        refine ⟨_, _, _, hr, by simp, rfl, F', rfl, rfl, f1.trans g1, f2.trans g2, ?_⟩
        rw [f3, g3]
        have : k + 2 = p := by omega
        rw [this]
        rfl)
  obtain ⟨e, T', m', hr, rfl, G, rfl, rfl, g⟩ := hl (p - 2) 0 nf (lst F 94) m (by omega) (by omega) ⟨F, rfl, rfl, rfl, rfl, h3, h4⟩
  exact ⟨G, hr, g⟩
theorem shk_l2 {p : Nat} (hp2 : 1 ≤ p) (hp : p < 512) (hnf : 1000 < nf) (h2 : F 2 = .int .i64 (p : Nat)) (h5 : F 5 = .int .i64 1) :
    ∃ F' w, aloop (acodeN E self nf lpshk_2) nf (lst F 94) m = some (.exit 4, lst F' 94, m) ∧ F' 1 = F 1 ∧ F' 2 = F 2 ∧ F' 5 = .int .i64 (w : Nat) ∧ 1 ≤ w ∧ w < 9 ∧ w * w * w ≤ p ∧ p < (w + 1) * (w + 1) * (w + 1) := by
  have hl := aloop_inv (body := acodeN E self nf lpshk_2) (N := 9)
    (I := fun k T m' => ∃ G, T = lst G 94 ∧ m' = m ∧ G 1 = F 1 ∧ G 2 = F 2 ∧ G 5 = .int .i64 ((k + 1 : Nat) : Int) ∧ (k + 1) * (k + 1) * (k + 1) ≤ p)
    (Q := fun e T m' => e = .exit 4 ∧ ∃ G w, T = lst G 94 ∧ m' = m ∧ G 1 = F 1 ∧ G 2 = F 2 ∧ G 5 = .int .i64 ((w : Nat) : Int) ∧ 1 ≤ w ∧ w < 9 ∧ w * w * w ≤ p ∧ p < (w + 1) * (w + 1) * (w + 1)) (fun k T m' hk hI => by
      obtain ⟨G, rfl, rfl, g1, g2, g5, gw⟩ := hI
      have hk8 : k + 1 < 9 := by
        by_cases h : k + 1 < 9
        · exact h
        · have h1 : 9 ≤ k + 1 := by omega
          have h3 : 9 * 9 * 9 ≤ (k + 1) * (k + 1) * (k + 1) := Nat.mul_le_mul (Nat.mul_le_mul h1 h1) h1
          omega
      by_cases hlt : (k + 1 + 1) * (k + 1 + 1) * (k + 1 + 1) ≤ p
      · left
        obtain ⟨F', hr, f1, f2, f5⟩ := shk_l2a (self := self) (nf := nf) (m := m') (w := k + 1) (by omega) (by omega) (g2.trans h2) g5 hlt
        exact ⟨_, _, hr, by omega, F', rfl, rfl, f1.trans g1, f2.trans g2, f5, hlt⟩
      · right
        obtain ⟨F', hr, f1, f2, f5⟩ := shk_l2b (self := self) (nf := nf) (m := m') (w := k + 1) (p := p) (by omega) (by omega) (g2.trans h2) g5 (by omega)
        exact ⟨_, _, _, hr, by simp, rfl, F', k + 1, rfl, rfl, f1.trans g1, f2.trans g2, f5.trans g5, by omega, hk8, gw, by omega⟩)
  obtain ⟨e, T', m', hr, rfl, G, w, rfl, rfl, g⟩ := hl 9 0 nf (lst F 94) m (by omega) (by omega) ⟨F, rfl, rfl, rfl, rfl, h5, by omega⟩
  exact ⟨G, w, hr, g⟩

/-- What is asked of the calls. -/
structure KeyCalls (slf : Self) : Prop where
  cs : CSmall slf
  co : COf slf
  cm : CMul slf
  ca : CAdd slf
  cc : CCmp slf
  ck : ∀ (m : Mem) (n : Nat), n < 80 → KT m → ainv E slf 33 [.int .i64 (n : Nat)] m = some (.int .u64 ((keyN n : Nat) : Int), m)

/-- What is no prime. -/
theorem shk_none {p n : Nat} (hp2 : 2 ≤ p) (hp : p < 1000) (hn : n < 80) (hnf : 1000 < nf) (h1 : F 1 = .int .i64 (n : Nat)) (h2 : F 2 = .int .i64 (p : Nat)) (hpr : isP p = false) :
    ∃ F', acodeN E self nf lpshk_0 (lst F 94) m = some (.normal, lst F' 94, m) ∧ F' 1 = .int .i64 (n : Nat) ∧ F' 2 = .int .i64 ((p + 1 : Nat) : Int) := by
  have q0 : decide (((n : Nat) : Int) < 80) = true := decide_eq_true (by omega)
  have e1 := w1 (i := p) (by omega)
  obtain ⟨G, hl, g1, g2, g3⟩ := shk_l1 (self := self) (nf := nf) (m := m) (F := upd (upd (upd (upd F 20 (.int .i64 (n : Nat))) 21 (.bool true)) 3 (.bool true)) 4 (.int .i64 2)) hp2 hp hnf (by simp only [upd_at, Nat.reduceEqDiff, reduceIte, h2]) (by simp only [upd_at, Nat.reduceEqDiff, reduceIte]) (by simp only [upd_at, Nat.reduceEqDiff, reduceIte])
  simp only [upd_at, Nat.reduceEqDiff, reduceIte] at g1 g2
  rw [h1] at g1
  rw [h2] at g2
  rw [hpr] at g3
  simp only [lpshk_0_eq, eshk_0, eshk_1, eshk_10, eshk_11, eshk_12, eshk_13, eshk_14, eshk_15, eshk_16, eshk_17, eshk_18, eshk_19, eshk_2, eshk_20, eshk_21, eshk_22, eshk_23, eshk_3, eshk_4, eshk_5, eshk_6, eshk_7, eshk_8, eshk_9, lshk_0, lshk_1, lshk_2, lshk_3, lshk_4, lshk_5, lshk_6, lshk_7, lshk_8, lshk_9, lshk_10, lshk_11, lshk_12, lshk_13, lshk_14, lshk_15, lshk_16, lshk_17, lshk_18, lshk_19, lshk_20, lshk_21, lshk_22, lshk_23, gshk_11_1, gshk_1_2, gshk_1_6, gshk_20_8, agd_none, gdAt, gdV_bool, gdV_undef, Tryd.f6, List.append_eq, List.cons_append, List.nil_append, apure_call1, apure_call2, apure_call3, bft, btf, acodeN, List.getElem?_toArray, List.getElem?_cons_zero, List.getElem?_cons_succ, aopsN, adrawT, cls, astep, aop, afloat, ev, nth_lst, get_lst, aput, setAt_lst, upd_at, init_zero, init_succ, init_nil, Nat.reduceLT, Nat.reduceEqDiff, reduceIte, len_N, abuiltin_app, Option.map_some, Option.map_none, orElse_some, apure_add, apure_eqlV, eqlVal_str, eqlVal_bool, eqlVal_ptr, eqlVal_slice, eqlVal_wide, eqlVal_int, allT, ↓aop_eqlV, apure_neq, List.map_cons, List.map_nil, List.all_cons, List.all_nil, lit2, lit1, lit0, List.isEmpty_nil, Bool.and_self, Bool.and_true, Bool.true_and, Bool.false_and, Bool.and_false, Bool.not_true, Bool.not_false, Bool.or_true, Bool.true_or, Bool.false_or, Bool.or_false, Bool.false_eq_true, if_true, if_false, List.length_map, beq_self_eq_true, und3, und4, und5, und9, h1, lss64, q0, hl, g3, apure_un, notB, g2, add64', e1]
  exact ⟨_, rfl, by simp only [upd_at, Nat.reduceEqDiff, reduceIte, g1], by simp only [upd_at, Nat.reduceEqDiff, reduceIte]⟩
end
end Go.Am.Seat

/-
  Hex on the abstract machine (own work).
-/
set_option linter.unusedSimpArgs false
set_option linter.unusedVariables false
namespace Go.Am.Seat
open Go.Proofs Go.Am
set_option maxRecDepth 100000

noncomputable def rbStr_0 : Array Oper := match Tryd.f99.body with
  | some (.seq (.region _ o _) _) => o
  | _ => #[]
noncomputable def rbStr_1 : Array Oper := match Tryd.f99.body with
  | some (.seq _ (.seq (.region _ o _) _)) => o
  | _ => #[]
theorem dbStr_1 {self : Self} {B : Nat} {T : List Value} {m : Mem} {lb : List (Nat × Nat)} {ls : Bool} : adrawN E self rbStr_1 B rbStr_1.toList 0 T m lb ls = adrawT E self rbStr_1 B rbStr_1.toList [(false, false), (false, false), (false, false), (false, false), (false, false), (false, false), (false, false), (false, false), (false, false), (false, false), (false, false), (false, false)] 0 T m lb ls := adraw_tab (by kernel_rfl)
theorem sbStr_1 : E.sr 1 rbStr_1 = false := by kernel_rfl
theorem bodybStr : Tryd.f99.body = some (.seq (.region 0 rbStr_0 false) (.seq (.region 1 rbStr_1 true) .ret)) := rfl
-- ntmps 14

section
variable {self : Self} {nf q n c : Nat} {m m1 m2 : Mem} {l : List Int}

theorem Grow_body (hcc : ainv E self 116 [.pointer (some ⟨q, 0, none⟩)] m = some (.tuple ⟨[]⟩, m1)) (hq : m1[q]? = some (.row false 116 [.pointer (some ⟨q, 0, none⟩), .slice none 0 0]))
    (hn : 0 < n) (hg : ainv E self 117 [.pointer (some ⟨q, 0, none⟩), .int .i64 (n : Nat)] m1 = some (.tuple ⟨[]⟩, m2)) :
    abody E self nf 96 [.pointer (some ⟨q, 0, none⟩), .int .i64 (n : Nat)] m = some (.tuple ⟨[]⟩, m2) := by
  rw [abody_eqF (by kernel_rfl) Tryd.func96 bodybGrow (by kernel_rfl) (Nat.le_of_ble_eq_true rfl)]
  rw [show Tryd.f96.ntmps = 25 from rfl]
  have hqs : (m1.map sealed)[q]? = some (.row true 116 [.pointer (some ⟨q, 0, none⟩), .slice none 0 0]) := by
    rw [List.getElem?_map, hq]
    rfl
  have hc : cellAt (m1.map sealed) q 1 = some (.slice none 0 0) := cellAt_row hqs 1
  have h1 : decide (((n : Nat) : Int) < 0) = false := decide_eq_false (by omega)
  have h2 : decide ((0 : Int) < ((n : Nat) : Int)) = true := decide_eq_true (by omega)
  have hdbGrow_3 := @dbGrow_3
  simp only [rbGrow_3, Tryd.f96] at hdbGrow_3
  simp only [hdbGrow_3, ↓sbGrow_3, rbGrow_0, rbGrow_1, rbGrow_2, rbGrow_3, rbGrow_4, Tryd.f96, List.append_eq, List.cons_append, List.nil_append, apure_call1, apure_call2, apure_call3, bft, btf, acodeN, List.getElem?_toArray, List.getElem?_cons_zero, List.getElem?_cons_succ, aopsN, adrawT, agd, cls, astep, aop, afloat, ev, nth_lst, get_lst, aput, setAt_lst, upd_at, init_zero, init_succ, init_nil, Nat.reduceLT, Nat.reduceEqDiff, reduceIte, abuiltin, alen, Option.map_some, Option.map_none, orElse_some, apure_add, apure_eql, apure_neq, List.map_cons, List.map_nil, List.all_cons, List.all_nil, lit2, lit1, lit0, List.isEmpty_nil, Bool.and_self, Bool.and_true, Bool.true_and, Bool.false_and, Bool.and_false, Bool.not_true, Bool.not_false, Bool.or_true, Bool.true_or, Bool.false_or, Bool.or_false, Bool.false_eq_true, if_true, if_false, List.length_map, beq_self_eq_true, und3, und4, und5, und9, callcc, callgrow, hcc, hg, lss64, h1, h2, fa86_1, load35, hc, cap_nil, len_nil, und35, sub64', sub00, Nat.zero_add, finish, ares, aresL, ares1]

theorem usStringC {b : Nat} {cs : List Value} (hb : m[b]? = some (.row false 5 cs)) (htk : cs.take l.length = l.map (.int .u8)) (hlc : l.length ≤ cs.length) (h0 : l ≠ []) (hl : l.length ≤ 10000000) :
    ausString E.P 144 (.pointer (some ⟨b, 0, none⟩)) (.int .i64 (l.length : Nat)) m = some (.string (bytesOfL (l.map fun n => UInt8.ofNat n.toNat)), m.set b (.row true 5 cs)) := by
  have hlen : 0 < l.length := List.length_pos_iff.2 h0
  unfold ausString
  simp only [hb, show E.P.underlying 144 = some (.pointer 5) from Tryd.underlying144]
  rw [if_neg (by omega), if_pos (by omega)]
  have hc : E.P.cellsOf 5 = 1 := by kernel_rfl
  have hlies : liesAt E.P E.P.depth 5 (cs.length / E.P.cellsOf 5) 0 5 ((l.length : Nat) : Int).toNat = true := Lib.liesAt_bytes hc _ _ (by rw [hc, Nat.div_one, Int.toNat_natCast]; omega)
  rw [if_pos ⟨hlies, by omega⟩]
  have ht : (cs.drop 0).take ((l.length : Nat) : Int).toNat = l.map (.int .u8) := by
    rw [List.drop_zero, Int.toNat_natCast, htk]
  rw [ht, bytesOf_map]
  rfl

theorem String_body (hb : BufC m q l c) (hne : l ≠ []) (hl : l.length ≤ 10000000) :
    ∃ m', abody E self nf 99 [.pointer (some ⟨q, 0, none⟩)] m = some (.string (bytesOfL (l.map fun n => UInt8.ofNat n.toNat)), m') := by
  rw [abody_eqF (by kernel_rfl) Tryd.func99 bodybStr (by kernel_rfl) (Nat.le_of_ble_eq_true rfl)]
  rw [show Tryd.f99.ntmps = 14 from rfl]
  obtain ⟨b, cs, hqb, hq, hbb, hc, htk, hlc⟩ := hb
  have hqs : (m.map sealed)[q]? = some (.row true 116 [.pointer (some ⟨q, 0, none⟩), .slice (some ⟨b, 0, none⟩) l.length c]) := by
    rw [List.getElem?_map, hq]
    rfl
  have hcell : cellAt (m.map sealed) q 1 = some (.slice (some ⟨b, 0, none⟩) l.length c) := cellAt_row hqs 1
  have hc0 : ¬ c = 0 := fun h => hne (List.eq_nil_of_length_eq_zero (by omega))
  have hus := usStringC hbb htk (by omega) hne hl
  have hdbStr_1 := @dbStr_1
  simp only [rbStr_1, Tryd.f99] at hdbStr_1
  simp only [hdbStr_1, ↓sbStr_1, rbStr_0, rbStr_1, Tryd.f99, List.append_eq, List.cons_append, List.nil_append, apure_call1, apure_call2, apure_call3, bft, btf, acodeN, List.getElem?_toArray, List.getElem?_cons_zero, List.getElem?_cons_succ, aopsN, adrawT, agd, cls, astep, aop, afloat, ev, nth_lst, get_lst, aput, setAt_lst, upd_at, init_zero, init_succ, init_nil, Nat.reduceLT, Nat.reduceEqDiff, reduceIte, abuiltin, alen, Option.map_some, Option.map_none, orElse_some, apure_add, apure_eql, apure_neq, List.map_cons, List.map_nil, List.all_cons, List.all_nil, lit2, lit1, lit0, List.isEmpty_nil, Bool.and_self, Bool.and_true, Bool.true_and, Bool.false_and, Bool.and_false, Bool.not_true, Bool.not_false, Bool.or_true, Bool.true_or, Bool.false_or, Bool.or_false, Bool.false_eq_true, if_true, if_false, List.length_map, beq_self_eq_true, und3, und4, und5, und9, fa86_1, load35, hcell, und35, hc0, hus, Nat.zero_add, finish, ares, aresL, ares1]
  exact ⟨_, rfl⟩
end

section
variable {K : List Fact} {n nf : Nat} {m : Mem} {s : ByteArray}

theorem bytesI_hex (b : UInt8) : UInt8.ofNat ((((b).toNat : Nat) : Int)).toNat = b := by simp

theorem hex_body (h1 : hasF K 116 = false) (h2 : hasF K 100 = false) (h3 : hasF K 96 = false) (h4 : hasF K 117 = false) (h5 : hasF K 99 = false)
    (hs : s.data.toList.length ≤ 1000) (h0 : 0 < s.data.toList.length) (hf : 1000 < nf) :
    ∃ m', abody E (runK E mem2 K (n + 3)) nf 74 [.string s] m = some (.string (bytesOfL (hexOf s.data.toList)), m') := by
  rw [abody_eqF (by kernel_rfl) Tryd.func74 bodyhex (by kernel_rfl) (Nat.le_of_ble_eq_true rfl)]
  rw [show Tryd.f74.ntmps = 28 from rfl]
  -- the Builder
  have hq0 : (m ++ [Blk.row false 116 [.pointer none, .slice none 0 0]])[m.length]? = some (.row false 116 [.pointer none, .slice none 0 0]) := by simp
  have hcc := copy_fresh (n := n + 1) h1 hq0
  have hccA : ainv E (runK E mem2 K (n + 2)) 116 [.pointer (some ⟨m.length, 0, none⟩)] (m ++ [Blk.row false 116 [.pointer none, .slice none 0 0]]) = _ := (ainv_wr (by kernel_rfl) rfl).trans hcc
  generalize hm1 : (m ++ [Blk.row false 116 [.pointer none, .slice none 0 0]]).set m.length (.row false 116 [.pointer (some ⟨m.length, 0, none⟩), .slice none 0 0]) = m1 at hccA
  have hq1 : m1[m.length]? = some (.row false 116 [.pointer (some ⟨m.length, 0, none⟩), .slice none 0 0]) := by
    rw [← hm1, List.getElem?_set_self (by simp)]
  obtain ⟨m2, hg, hB⟩ := grow_body (self := runK E mem2 K (n + 1)) (nf := n + 2) (n := 2 * s.data.toList.length) hq1 (by omega) (by omega)
  have hg' : runK E mem2 K (n + 2) 117 [.pointer (some ⟨m.length, 0, none⟩), .int .i64 ((2 * s.data.toList.length : Nat) : Int)] m1 = some (.tuple ⟨[]⟩, m2) := by
    rw [runK_other h4]; exact hg
  have hgA := (ainv_wr (self := runK E mem2 K (n + 2)) (g := 117) (args := [.pointer (some ⟨m.length, 0, none⟩), .int .i64 ((2 * s.data.toList.length : Nat) : Int)]) (m := m1) (by kernel_rfl) rfl).trans hg'
  have hG := Grow_body (nf := n + 3) hccA hq1 (by omega) hgA
  have hG' : runK E mem2 K (n + 3) 96 [.pointer (some ⟨m.length, 0, none⟩), .int .i64 ((2 * s.data.toList.length : Nat) : Int)] (m ++ [Blk.row false 116 [.pointer none, .slice none 0 0]]) = some (.tuple ⟨[]⟩, m2) := by
    rw [runK_other h3]; exact hG
  have hGA := (ainv_wr (self := runK E mem2 K (n + 3)) (g := 96) (args := [.pointer (some ⟨m.length, 0, none⟩), .int .i64 ((2 * s.data.toList.length : Nat) : Int)]) (m := m ++ [Blk.row false 116 [.pointer none, .slice none 0 0]]) (by kernel_rfl) rfl).trans hG'
  have hw2 : wrapF .i64 ((2 : Int) * ((s.data.toList.length : Nat) : Int)) = ((2 * s.data.toList.length : Nat) : Int) := by rw [wrap_i64 (by omega) (by omega)]; omega
  -- the rounds
  have hloop := aloop_inv (body := acodeN E (runK E mem2 K (n + 3)) nf lphex_0) (N := s.data.toList.length)
    (I := fun i T m' => BufC m' m.length ((hexOf (s.data.toList.take i)).map fun b => ((b.toNat : Nat) : Int)) (2 * s.data.toList.length) ∧ ∃ F, T = lst F 28 ∧ F 0 = .string s ∧ F 3 = .pointer (some ⟨m.length, 0, none⟩) ∧ F 10 = .int .i64 ((s.data.toList.length : Nat) : Int) ∧ F 11 = .int .i64 (i : Nat))
    (Q := fun e T m' => e = .exit 0 ∧ BufC m' m.length ((hexOf s.data.toList).map fun b => ((b.toNat : Nat) : Int)) (2 * s.data.toList.length) ∧ ∃ F, T = lst F 28 ∧ F 3 = .pointer (some ⟨m.length, 0, none⟩)) (fun i T m' hi hI => by
      obtain ⟨hBuf, F, rfl, g0, g3, g10, g11⟩ := hI
      by_cases hlt : i < s.data.toList.length
      · left
        have hb : s.data.toList[i]? = some s.data.toList[i] := by simp [hlt]
        have hlen : ((hexOf (s.data.toList.take i)).map fun b => ((b.toNat : Nat) : Int)).length = 2 * i := by
          rw [List.length_map, hexOf_length, List.length_take, Nat.min_eq_left (by omega)]
        obtain ⟨ma, wa, Ba⟩ := writeByteC (n := n + 1) h1 h2 (((hexd (s.data.toList[i].toNat / 16)).toNat : Nat) : Int) hBuf (by omega)
        obtain ⟨mb, wb, Bb⟩ := writeByteC (n := n + 1) h1 h2 (((hexd (s.data.toList[i].toNat % 16)).toNat : Nat) : Int) Ba (by rw [List.length_append, hlen, List.length_singleton]; omega)
        obtain ⟨F', hr, f0, f3, f10, f11⟩ := iterHex (nf := nf) g0 g3 g10 g11 hb (by omega) ((ainv_wr (by kernel_rfl) rfl).trans wa) ((ainv_wr (by kernel_rfl) rfl).trans wb)
        refine ⟨_, _, hr, hlt, ?_, F', rfl, f0, f3, f10, f11⟩
        rw [hexOf_step hb]
        simpa using Bb
      · right
        have hii : i = s.data.toList.length := by omega
        subst hii
        obtain ⟨F', hr, f3⟩ := lastHex (self := runK E mem2 K (n + 3)) (nf := nf) (m := m') (s := s) g10 g11 (by omega)
        refine ⟨_, _, _, hr, by simp, rfl, ?_, F', rfl, by rw [f3, g3]⟩
        rw [List.take_of_length_le (by omega)] at hBuf
        exact hBuf)
  obtain ⟨e, T', m3, hl, rfl, hB3, F', rfl, hF3⟩ := hloop s.data.toList.length 0 nf (lst (upd (upd (upd (upd (upd (upd (upd (upd (upd (init [.string s]) 2 (.string ⟨#[]⟩)) 3 (.pointer (some ⟨m.length, 0, none⟩))) 5 (.string s)) 6 (.int .i64 ((s.data.toList.length : Nat) : Int))) 7 (.int .i64 ((2 * s.data.toList.length : Nat) : Int))) 8 (.tuple ⟨[]⟩)) 9 (.string s)) 10 (.int .i64 ((s.data.toList.length : Nat) : Int))) 11 (.int .i64 0)) 28) m2 (by omega) (by omega)
    ⟨by rw [List.take_zero]; exact hB, _, rfl, rfl, rfl, rfl, rfl⟩
  have hne : ((hexOf s.data.toList).map fun b => ((b.toNat : Nat) : Int)) ≠ [] := by
    intro h
    have := congrArg List.length h
    rw [List.length_map, hexOf_length, List.length_nil] at this
    omega
  obtain ⟨m4, hS⟩ := String_body (self := runK E mem2 K (n + 2)) (nf := n + 3) hB3 hne (by rw [List.length_map, hexOf_length]; omega)
  have hSA := (ainv_wr (self := runK E mem2 K (n + 3)) (g := 99) (args := [.pointer (some ⟨m.length, 0, none⟩)]) (m := m3) (by kernel_rfl) rfl).trans ((runK_other h5).trans hS)
  have hre : (((hexOf s.data.toList).map fun b => ((b.toNat : Nat) : Int)).map fun n => UInt8.ofNat n.toNat) = hexOf s.data.toList := by
    rw [List.map_map]
    have : ((fun n : Int => UInt8.ofNat n.toNat) ∘ fun b : UInt8 => ((b.toNat : Nat) : Int)) = id := by
      funext b
      simp
    rw [this, List.map_id]
  rw [hre] at hSA
  simp only [rhex_0, rhex_1, rhex_2, rhex_3, rhex_4, rhex_5, rhex_6, rhex_7, rhex_8, rhex_9, Tryd.f74, List.append_eq, List.cons_append, List.nil_append, apure_call1, apure_call2, apure_call3, bft, btf, acodeN, List.getElem?_toArray, List.getElem?_cons_zero, List.getElem?_cons_succ, aopsN, adrawT, agd, cls, astep, aop, afloat, ev, nth_lst, get_lst, aput, setAt_lst, upd_at, init_zero, init_succ, init_nil, Nat.reduceLT, Nat.reduceEqDiff, reduceIte, abuiltin, alen, Option.map_some, Option.map_none, orElse_some, apure_add, apure_eql, apure_neq, List.map_cons, List.map_nil, List.all_cons, List.all_nil, lit2, lit1, lit0, List.isEmpty_nil, Bool.and_self, Bool.and_true, Bool.true_and, Bool.false_and, Bool.and_false, Bool.not_true, Bool.not_false, Bool.or_true, Bool.true_or, Bool.false_or, Bool.or_false, Bool.false_eq_true, if_true, if_false, List.length_map, beq_self_eq_true, und3, und4, und5, und9, alloc86, mul64', hw2, callGrow, hGA, hl, hF3, callString, hSA, finish, ares, aresL, ares1]
  exact ⟨_, rfl⟩
end
end Go.Am.Seat

/-
  The law ShaTexts on the abstract machine (own work).
-/
set_option linter.unusedSimpArgs false
set_option linter.unusedVariables false
namespace Go.Am.Seat
open Go.Proofs Go.Am
set_option maxRecDepth 100000
set_option maxHeartbeats 4000000

-- ntmps 97

theorem build2 (a b : ByteArray) (m : Mem) : abuildSlice E.P 123 2 [(0, .string a), (1, .string b)] m = some (.slice (some ⟨m.length, 0, none⟩) 2 2, m ++ [.row false 9 [.string a, .string b]]) := by kernel_rfl
theorem callA : callableB E.P 32 = true := by kernel_rfl
theorem callHex : callableB E.P 74 = true := by kernel_rfl
theorem gtr64 (a b : Int) : abin .gtr .i64 a .i64 b = some (.bool (decide (a > b))) := by kernel_rfl
theorem eqB (p q : Bool) : apB E.P .eql 4 4 (.bool p) (.bool q) = some (.bool (p == q)) := by
  cases p <;> cases q <;> kernel_rfl
abbrev lenI (s : ByteArray) : Int := ((s.data.toList.length : Nat) : Int)

section
variable {self : Self} {nf : Nat} {s t : ByteArray} {M : Mem}

end
end Go.Am.Seat
