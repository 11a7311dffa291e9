/-
  ChainTexts (promise P19.1): for every entry and every text the law returns true and leaves them as they were, in every world in which the two listed tables read as their initialisers lay them. Conditions: those of the card alone.
-/
import Derived.Test.YtalilffocbkfnaaDoorCards
import Derived.Test.YtalilffocbkfnaaDoorTie
import Derived.Test.YtalilffocbkfnaaDoorGrChainTexts18
import Derived.Test.YtalilffocbkfnaaDoorGrChainTexts9
import Derived.WalkKit
import Derived.ProofKit
import Derived.OpenShut
import Derived.Deep.DeepHandedRow
import Derived.Lib.LaidTab
import Derived.ChangeMaps5
import Derived.ShutString


set_option linter.unusedSimpArgs false
set_option linter.unusedVariables false
namespace Go.Proofs.YtalilffocbkfnaaDoor.fnChainTexts
open Go.ChangeShapes Go.WideShapes Go.ChangeAt Go.RowKit Go.Am Go.Am.Seat
set_option maxRecDepth 100000






theorem laidOut : laidOutB Tryd.prog = true := by kernel_rfl
theorem params_ok : ∀ t ∈ Tryd.f3.params.toList, Tryd.prog.readableRec t = true ∧ t < Tryd.prog.types.size := by
  intro t ht
  have h := (List.all_eq_true.1 (show Tryd.f3.params.toList.all (fun t => Tryd.prog.readableRec t && decide (t < Tryd.prog.types.size)) = true by kernel_rfl)) t ht
  simpa using h
theorem own : ownKnob Tryd.prog.godebug = none := by kernel_rfl

theorem start_mem {W : World} (hL : laidMetH Tryd.prog Rows.chainTextsRow.laid W) (hs : W.ShapedOpen Tryd.prog) : MR Tryd.prog (ren0 Tryd.prog mem2) mem2 W := by
  have hL' : laidMet Tryd.prog Rows.chainTextsRow.laid W := hL
  have gs : 3 ≤ Tryd.prog.globals.size := Nat.le_of_ble_eq_true (by kernel_rfl)
  have t0 : Lib.TabIs Tryd.prog W _ .u64 Go.Am.Seat.start := Lib.tabIs_of_head (g := 0) (t := 91) (by kernel_rfl) (by kernel_rfl) Tryd.underlying91 (by kernel_rfl) (by kernel_rfl) (by kernel_rfl) hL'
  obtain ⟨c0, h0⟩ := shaped_at (g := 0) (t := 91) hs (by omega) (by kernel_rfl)
  have e0 := tab_at (by kernel_rfl) h0 t0
  have t1 : Lib.TabIs Tryd.prog W _ .u64 Go.Am.Seat.keys := Lib.tabIs_of_head (g := 1) (t := 101) (by kernel_rfl) (by kernel_rfl) Tryd.underlying101 (by kernel_rfl) (by kernel_rfl) (by kernel_rfl) (laid_tail hL')
  obtain ⟨c1, h1⟩ := shaped_at (g := 1) (t := 101) hs (by omega) (by kernel_rfl)
  have e1 := tab_at (by kernel_rfl) h1 t1
  obtain ⟨cL, hLast⟩ := shaped_at (g := 2) (t := 3) hs (by omega) (by kernel_rfl)
  refine mr_tabs (Nat.le_of_ble_eq_true (by kernel_rfl)) ?_ ?_
  · have : 2 < W.heap.size := (Array.getElem?_eq_some_iff.1 hLast).1
    show 3 ≤ W.heap.size
    omega
  · intro k b hb
    match k, hb with
    | 0, hb => cases hb; exact ⟨e0, by kernel_rfl, by kernel_rfl⟩
    | 1, hb => cases hb; exact ⟨e1, by kernel_rfl, by kernel_rfl⟩
    | 2, hb => cases hb; trivial
    | k + 3, hb => simp [mem2] at hb

theorem noRow2 : NoRow mem2 := by
  intro k e cs hk
  match k, hk with
  | 0, hk => cases hk
  | 1, hk => cases hk
  | 2, hk => cases hk
  | k + 3, hk => simp [mem2] at hk

/-- A table laid over what lies there. -/
def layTab (l : List Value) : Obj → Obj
  | .cells _ t frozen => .cells ⟨l⟩ t frozen
  | o => o

def cellsD : DataW Unit → List Value
  | .agg ds => ds.map fun | .lit (.int k n) => .int k n | _ => .nilIface
  | _ => []
/-- A world for the witness: the settled one, the tables laid. -/
noncomputable def laidWorld (os : Os) : World :=
  { World.holding Tryd.prog os ⟨#[], #[], []⟩ with heap := (((World.holding Tryd.prog os ⟨#[], #[], []⟩).heap.modify 0 (layTab (cellsD Rows.laid_opaline_sha_start))).modify 1 (layTab (cellsD Rows.laid_opaline_sha_keys))) }
def noTexts : Array Value := #[.agg #[.int .u64 0, .int .u64 0, .int .i64 0, .string ⟨#[]⟩, .string ⟨#[]⟩], .string ⟨#[]⟩]
theorem laid_met (os : Os) : laidMet Tryd.prog Rows.chainTextsRow.laid ((laidWorld os).forCall (fun _ _ => 0) ⟨#[], noTexts, []⟩).memory :=
  laidMet_of_run' 8 (by kernel_rfl) (by kernel_rfl)
theorem reads (os : Os) {H : Type} (enc : TypeId × Value → H) : ∃ places, DataW.whole enc Tryd.prog ((laidWorld os).forCall (fun _ _ => 0) ⟨#[], noTexts, []⟩).memory Tryd.f3.params.toList Rows.chainTextsSpec.vars false noTexts.toList 8 = some ([.agg [.lit (.int .u64 0), .lit (.int .u64 0), .lit (.int .i64 0), .lit (.string []), .lit (.string [])], .lit (.string [])], [], places) :=
  ⟨[], by kernel_rfl⟩

theorem plain (f : FuncId) (fn : Func) (hf : Tryd.pinned.checked.prog.funcNamed Rows.chainTextsRow.func = some f) (hfn : Tryd.pinned.checked.prog.funcs[f]? = some fn) :
    true = Tryd.pinned.checked.prog.looks [] ∧ ∀ (j : Nat) t, fn.params[j]? = some t → Tryd.pinned.checked.prog.wantsStandIn t = false := by
  obtain rfl : f = 3 := Option.some.inj ((show Tryd.prog.funcNamed Rows.chainTextsRow.func = some 3 by kernel_rfl).symm.trans hf) |>.symm
  obtain rfl : fn = Tryd.f3 := (Option.some.inj (Tryd.func3.symm.trans hfn)).symm
  refine ⟨by kernel_rfl, fun j t ht => ?_⟩
  rw [show Tryd.f3.params = #[24, 9] from rfl] at ht
  have hm := Array.mem_of_getElem? ht
  simp only [List.mem_toArray, List.mem_cons, List.not_mem_nil, or_false] at hm
  rcases hm with rfl | rfl
  · exact (show Tryd.prog.wantsStandIn 24 = false by kernel_rfl)
  · exact (show Tryd.prog.wantsStandIn 9 = false by kernel_rfl)

end Go.Proofs.YtalilffocbkfnaaDoor.fnChainTexts
