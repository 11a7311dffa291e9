/-
  ChainTexts (promise P19.1): for every entry and every text the law returns true and leaves them as they were, in every world in which the two listed tables read as their initialisers lay them. Conditions: those of the card alone.
-/
import Derived.Test.YtalilffocbkfnaaDoorCards
import Derived.Test.YtalilffocbkfnaaDoorTie
import Derived.Test.YtalilffocbkfnaaDoorGrChainTexts19
import Derived.Test.YtalilffocbkfnaaDoorGrChainTexts18
import Derived.Test.YtalilffocbkfnaaDoorGrChainTexts9
import Derived.WalkKit
import Derived.ProofKit
import Derived.OpenShut
import Derived.Deep.DeepHandedRow
import Derived.Lib.LaidTab
import Derived.ChangeMaps5
import Derived.ShutString


set_option linter.unusedSimpArgs false
set_option linter.unusedVariables false
namespace Go.Proofs.YtalilffocbkfnaaDoor.fnChainTexts
open Go.ChangeShapes Go.WideShapes Go.ChangeAt Go.RowKit Go.Am Go.Am.Seat
set_option maxRecDepth 100000






theorem laidOut : laidOutB Tryd.prog = true := by kernel_rfl
theorem params_ok : ∀ t ∈ Tryd.f3.params.toList, Tryd.prog.readableRec t = true ∧ t < Tryd.prog.types.size := by
  intro t ht
  have h := (List.all_eq_true.1 (show Tryd.f3.params.toList.all (fun t => Tryd.prog.readableRec t && decide (t < Tryd.prog.types.size)) = true by kernel_rfl)) t ht
  simpa using h
theorem own : ownKnob Tryd.prog.godebug = none := by kernel_rfl

theorem start_mem {W : World} (hL : laidMetH Tryd.prog Rows.chainTextsRow.laid W) (hs : W.ShapedOpen Tryd.prog) : MR Tryd.prog (ren0 Tryd.prog mem2) mem2 W := by
  have hL' : laidMet Tryd.prog Rows.chainTextsRow.laid W := hL
  have gs : 3 ≤ Tryd.prog.globals.size := Nat.le_of_ble_eq_true (by kernel_rfl)
  have t0 : Lib.TabIs Tryd.prog W _ .u64 Go.Am.Seat.start := Lib.tabIs_of_head (g := 0) (t := 91) (by kernel_rfl) (by kernel_rfl) Tryd.underlying91 (by kernel_rfl) (by kernel_rfl) (by kernel_rfl) hL'
  obtain ⟨c0, h0⟩ := shaped_at (g := 0) (t := 91) hs (by omega) (by kernel_rfl)
  have e0 := tab_at (by kernel_rfl) h0 t0
  have t1 : Lib.TabIs Tryd.prog W _ .u64 Go.Am.Seat.keys := Lib.tabIs_of_head (g := 1) (t := 101) (by kernel_rfl) (by kernel_rfl) Tryd.underlying101 (by kernel_rfl) (by kernel_rfl) (by kernel_rfl) (laid_tail hL')
  obtain ⟨c1, h1⟩ := shaped_at (g := 1) (t := 101) hs (by omega) (by kernel_rfl)
  have e1 := tab_at (by kernel_rfl) h1 t1
  obtain ⟨cL, hLast⟩ := shaped_at (g := 2) (t := 3) hs (by omega) (by kernel_rfl)
  refine mr_tabs (Nat.le_of_ble_eq_true (by kernel_rfl)) ?_ ?_
  · have : 2 < W.heap.size := (Array.getElem?_eq_some_iff.1 hLast).1
    show 3 ≤ W.heap.size
    omega
  · intro k b hb
    match k, hb with
    | 0, hb => cases hb; exact ⟨e0, by kernel_rfl, by kernel_rfl⟩
    | 1, hb => cases hb; exact ⟨e1, by kernel_rfl, by kernel_rfl⟩
    | 2, hb => cases hb; trivial
    | k + 3, hb => simp [mem2] at hb

theorem noRow2 : NoRow mem2 := by
  intro k e cs hk
  match k, hk with
  | 0, hk => cases hk
  | 1, hk => cases hk
  | 2, hk => cases hk
  | k + 3, hk => simp [mem2] at hk

theorem contract (H : Type) (enc : TypeId × Value → H) (W : World) (base : Nat) (args : Array Value) (ds gs : List (DataW H)) (before : List MemPlace)
    (hval : ∀ (j : Nat) t v, Tryd.f3.params[j]? = some t → args[j]? = some v → Value.okWide Tryd.prog W .any base t v)
    (hW : DataW.Whole enc Tryd.prog Tryd.f3.params.toList Rows.chainTextsSpec.vars false W args.toList ds gs before) (hL : laidMetH Tryd.prog Rows.chainTextsRow.laid W) (hsh : W.ShapedOpen Tryd.prog) :
    Calls Tryd.prog 3 args W fun e W' => ∃ v, e = .returned v ∧ Rows.chainTextsSpec.post enc Tryd.prog Tryd.f3 false true false false W args v W' := by
  have hW' := hW
  obtain ⟨p, q, hA0, hV, hbef, hfz, hnd⟩ := hW
  have hA : DataW.TrodAll enc Tryd.prog W 0 (fun _ => true) true Tryd.f3.params.toList args.toList ds p := hA0
  rw [show Tryd.f3.params = #[24, 9] from rfl] at hA hval
  obtain ⟨v0, vs0, d0, ds0, p0, q0, hargs0, rfl, hp0, h0, r0⟩ := trodAll_cons hA
  obtain ⟨v1, vs1, d1, ds1, p1, q1, hargs1, rfl, hp1, h1, r1⟩ := trodAll_cons r0
  obtain ⟨hn1, rfl, hn3⟩ := trodAll_nil r1
  obtain rfl : args = #[v0, v1] := by cases args; simp_all
  obtain ⟨rfl, rfl⟩ := trodVars_none hV
  clear hA0
  have M0 := start_mem hL hsh
  have hbk : BulkOK (H := H) Go.Am.bulk0 := bulk0_ok
  have sm : ∀ d : DataW H, Small bulk0 maxLen d := fun d => .inl (Nat.le_refl _)
  obtain ⟨cs0, rfl, k0, _⟩ := open_agg (ks := [.int .u64, .int .u64, .int .i64, .str, .str]) hbk (sm d0) (by kernel_rfl) (by kernel_rfl) (hval 0 24 v0 rfl rfl) h0
  obtain ⟨k1, _⟩ := open_cell (k := .str) hbk (sm d1) (by kernel_rfl) (hval 1 9 v1 rfl rfl) h1
  obtain ⟨mZ, hrun⟩ := lawCT k0 k1
  have hr := (runO_sound envOK o9_ok 2001).1 3 [.agg ⟨cs0⟩, v1] mem2 (.bool true) mZ hrun (ren0 Tryd.prog mem2) W #[.agg ⟨cs0⟩, v1] M0 ⟨rfl, fun i x y hx hy => by
    match i, hx, hy with
    | 0, hx, hy => cases hx; cases hy; exact .lit k0.lit
    | 1, hx, hy => cases hx; cases hy; exact .lit (lit2_of_lit1 (lit1_of_lit0 (CK.is_lit (N := maxLen) (k := .str) k1)))
    | i + 2, hx, hy => simp at hx⟩
  refine hr.mono fun e W' he => ?_
  obtain ⟨he, hb⟩ := below_of_ends noRow2 rfl he
  subst he
  exact ⟨_, rfl, post_true laidOut hW' rfl params_ok (tb := 4) rfl Tryd.underlying4 ⟨rfl, rfl, rfl⟩ hb⟩

/-- A table laid over what lies there. -/
def layTab (l : List Value) : Obj → Obj
  | .cells _ t frozen => .cells ⟨l⟩ t frozen
  | o => o

def cellsD : DataW Unit → List Value
  | .agg ds => ds.map fun | .lit (.int k n) => .int k n | _ => .nilIface
  | _ => []
/-- A world for the witness: the settled one, the tables laid. -/
noncomputable def laidWorld (os : Os) : World :=
  { World.holding Tryd.prog os ⟨#[], #[], []⟩ with heap := (((World.holding Tryd.prog os ⟨#[], #[], []⟩).heap.modify 0 (layTab (cellsD Rows.laid_opaline_sha_start))).modify 1 (layTab (cellsD Rows.laid_opaline_sha_keys))) }
def noTexts : Array Value := #[.agg #[.int .u64 0, .int .u64 0, .int .i64 0, .string ⟨#[]⟩, .string ⟨#[]⟩], .string ⟨#[]⟩]
theorem laid_met (os : Os) : laidMet Tryd.prog Rows.chainTextsRow.laid ((laidWorld os).forCall (fun _ _ => 0) ⟨#[], noTexts, []⟩).memory :=
  laidMet_of_run' 8 (by kernel_rfl) (by kernel_rfl)
theorem reads (os : Os) {H : Type} (enc : TypeId × Value → H) : ∃ places, DataW.whole enc Tryd.prog ((laidWorld os).forCall (fun _ _ => 0) ⟨#[], noTexts, []⟩).memory Tryd.f3.params.toList Rows.chainTextsSpec.vars false noTexts.toList 8 = some ([.agg [.lit (.int .u64 0), .lit (.int .u64 0), .lit (.int .i64 0), .lit (.string []), .lit (.string [])], .lit (.string [])], [], places) :=
  ⟨[], by kernel_rfl⟩

theorem lifted (os : Os) (started : os.Started) (H : Type) (enc : TypeId × Value → H) (F : Stop.Interp) :
    ReturnsInHanded {} Tryd.checked os 3 .any ((OpenSpec.ofChange Rows.chainTextsSpec).preRow enc Tryd.prog Tryd.f3 Rows.chainTextsRow.domain false Rows.chainTextsRow.laid) (((OpenSpec.ofChange Rows.chainTextsSpec).at F).post enc Tryd.prog Tryd.f3 false true false false) := by
  obtain ⟨places, hx⟩ := reads os enc
  refine returnsInHanded_of_row (C := Tryd.checked) (s := OpenSpec.ofChange Rows.chainTextsSpec) own started (by kernel_rfl) Tryd.func3
    (witness_row_at (enc := enc) (C := Tryd.checked) false (laidWorld os) noTexts rfl (by kernel_rfl) (by kernel_rfl) (by kernel_rfl)
      (OpenSpec.preRow_of_cond 8 hx (by kernel_rfl) (fun k hk => by cases hk) (by kernel_rfl) (laid_met os))) ?_
  intro W base args ds gs before hval hW _ _ _ hL hsh _
  exact contract H enc W base args ds gs before hval hW hL hsh

theorem said : Rows.ChainTextsSaid :=
  OpenClaim.holds_of_cond 3 Tryd.f3 rfl rfl rfl rfl rfl rfl rfl ⟨rfl, rfl, rfl, rfl, rfl⟩ rfl rfl rfl rfl rfl (by kernel_rfl) Tryd.func3 (by kernel_rfl)
    (of_decide_eq_true (by kernel_rfl)) (by unfold Func.isWrapper; first | (rw [if_pos (by decide +kernel)]; kernel_rfl) | (rw [if_neg (by decide +kernel)]; exact ⟨rfl, rfl⟩))
    (fun os started H enc _ F => by rw [OpenClaim.pre_eq_preRow]; exact lifted os started H enc F)

theorem plain (f : FuncId) (fn : Func) (hf : Tryd.pinned.checked.prog.funcNamed Rows.chainTextsRow.func = some f) (hfn : Tryd.pinned.checked.prog.funcs[f]? = some fn) :
    true = Tryd.pinned.checked.prog.looks [] ∧ ∀ (j : Nat) t, fn.params[j]? = some t → Tryd.pinned.checked.prog.wantsStandIn t = false := by
  obtain rfl : f = 3 := Option.some.inj ((show Tryd.prog.funcNamed Rows.chainTextsRow.func = some 3 by kernel_rfl).symm.trans hf) |>.symm
  obtain rfl : fn = Tryd.f3 := (Option.some.inj (Tryd.func3.symm.trans hfn)).symm
  refine ⟨by kernel_rfl, fun j t ht => ?_⟩
  rw [show Tryd.f3.params = #[24, 9] from rfl] at ht
  have hm := Array.mem_of_getElem? ht
  simp only [List.mem_toArray, List.mem_cons, List.not_mem_nil, or_false] at hm
  rcases hm with rfl | rfl
  · exact (show Tryd.prog.wantsStandIn 24 = false by kernel_rfl)
  · exact (show Tryd.prog.wantsStandIn 9 = false by kernel_rfl)

/-- The card. -/
theorem card : Rows.ChainTextsCardSaid :=
  Claim7.holds_tied_plain_at .later [] _ _ _ _ said (fun _ h => by cases h) (by kernel_rfl) (fun _ h => by cases h) chainTexts_row_tie rfl ⟨rfl, rfl⟩ (by kernel_rfl) rfl plain (by kernel_rfl)
end Go.Proofs.YtalilffocbkfnaaDoor.fnChainTexts
