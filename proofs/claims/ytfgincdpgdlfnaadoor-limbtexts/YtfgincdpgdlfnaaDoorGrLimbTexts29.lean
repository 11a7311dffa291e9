/-
  LimbTexts (promise P1.1): for every text, every number of eight words and every word the law returns true and leaves them as they were, in every world in which the listed tables read as their initialisers lay them. Conditions: those of the card alone.
-/
import Derived.Test.YtfgincdpgdlfnaaDoorCards
import Derived.Test.YtfgincdpgdlfnaaDoorTie
import Derived.Test.YtfgincdpgdlfnaaDoorGrLimbTexts28
import Derived.WalkKit
import Derived.ProofKit
import Derived.OpenShut
import Derived.Deep.DeepHandedRow
import Derived.Lib.LaidTab
import Derived.ChangeMaps5
import Derived.ShutString
set_option linter.unusedSimpArgs false
set_option linter.unusedVariables false
set_option maxRecDepth 100000
namespace Go.Proofs.YtfgincdpgdlfnaaDoor.fnLimbTexts
open Go.ChangeShapes Go.WideShapes Go.ChangeAt Go.RowKit Go.Am Go.Am.Seat
theorem words_lit (l : List Int) : lit2 (Value.agg ⟨l.map (Value.int .u64)⟩) = true := by
  show (l.map (Value.int .u64)).all lit0 = true
  rw [List.all_map, List.all_eq_true]
  intro x _
  rfl
theorem own : ownKnob Tryd.prog.godebug = none := by kernel_rfl
theorem start_mem {W : World} (hL : laidMetH Tryd.prog Rows.limbTextsRow.laid W) (hs : W.ShapedOpen Tryd.prog) : MR Tryd.prog (ren0 Tryd.prog mem1) mem1 W := by
  have hL' : laidMet Tryd.prog Rows.limbTextsRow.laid W := hL
  have gs : 6 ≤ Tryd.prog.globals.size := Nat.le_of_ble_eq_true (by kernel_rfl)
  have t2 : Lib.TabIs Tryd.prog W _ .u64 Go.Am.Seat.pows := Lib.tabIs_of_head (g := 2) (t := 80) (by kernel_rfl) (by kernel_rfl) Tryd.underlying80 (by kernel_rfl) (by kernel_rfl) (by kernel_rfl) (laid_tail (laid_tail hL'))
  obtain ⟨c2, h2⟩ := shaped_at (g := 2) (t := 80) hs (by omega) (by kernel_rfl)
  have e2 := tab_at (by kernel_rfl) h2 t2
  obtain ⟨cL, hLast⟩ := shaped_at (g := 5) (t := 49) hs (by omega) (by kernel_rfl)
  refine mr_tabs (Nat.le_of_ble_eq_true (by kernel_rfl)) ?_ ?_
  · have : 5 < W.heap.size := (Array.getElem?_eq_some_iff.1 hLast).1
    show 6 ≤ W.heap.size
    omega
  · intro k b hb
    match k, hb with
    | 0, hb => cases hb; trivial
    | 1, hb => cases hb; trivial
    | 2, hb => cases hb; exact ⟨e2, by kernel_rfl, by kernel_rfl⟩
    | 3, hb => cases hb; trivial
    | 4, hb => cases hb; trivial
    | 5, hb => cases hb; trivial
    | k + 6, hb => simp [mem1] at hb
theorem walk {W : World} (hm : MR Tryd.prog (ren0 Tryd.prog mem1) mem1 W) (a : ByteArray) (b : List Int) (lb : b.length = 8) (wb : ∀ n, n ∈ b → (Lit.int .u64 n).wf = true) (c : Int) (wc : (Lit.int .u64 c).wf = true) : Calls Tryd.prog 3 #[.string a, .agg ⟨b.map (.int .u64)⟩, .int .u64 c] W fun e w' => e = .returned (.bool true) ∧ Below W.heap.size W w' := by
  obtain ⟨m1, h⟩ := lawLTw a b lb wb c wc
  have hr := runK_sound envOK K1_hold 2001 3 [.string a, .agg ⟨b.map (.int .u64)⟩, .int .u64 c] mem1 (.bool true) m1 h (ren0 Tryd.prog mem1) W #[.string a, .agg ⟨b.map (.int .u64)⟩, .int .u64 c] hm ⟨rfl, fun i x y hx hy => by
    match i, hx, hy with
    | 0, hx, hy => cases hx; cases hy; exact .lit rfl
    | 1, hx, hy => cases hx; cases hy; exact .lit (words_lit _)
    | 2, hx, hy => cases hx; cases hy; exact .lit rfl
    | i + 3, hx, hy => simp at hx⟩
  refine hr.mono fun e w' he => below_of_ends (fun k e cs hk => ?_) rfl he
  match k, hk with
  | 0, hk => cases hk
  | 1, hk => cases hk
  | 2, hk => cases hk
  | 3, hk => cases hk
  | 4, hk => cases hk
  | 5, hk => cases hk
  | k + 6, hk => simp [mem1] at hk
theorem post_plain {H : Type} {enc : TypeId × Value → H} {P : Program} {f : Func} {s : ChangeSpec} {fresh handsOn again : Bool} {W W' : World} {args : Array Value} {v : Value} {ds gs : List (DataW H)}
    (hW : DataW.Whole enc P f.params.toList s.vars false W args.toList ds gs [])
    (hres : ∀ (b : Nat) (sp : Nat → Bool) (hd : Bool), DataW.TrodAll enc P W' b sp hd f.resultTypes.toList (v.resultList f.resultTypes.size) (s.fn H (ds ++ gs)).results [])
    (hargs : ∀ sp : Nat → Bool, DataW.TrodAll enc P W' 0 sp true f.params.toList args.toList (s.fn H (ds ++ gs)).args [])
    (hvars : ∀ sp : Nat → Bool, DataW.TrodVars enc P W' sp s.vars (s.fn H (ds ++ gs)).vars []) (hk : W.keptBut W' (· ∈ ([] : List MemPlace)))
    (hok : ∀ (j : Nat) (t : TypeId) (r : Value), f.resultTypes[j]? = some t → (v.resultList f.resultTypes.size)[j]? = some r → Value.okWide P W' .any 0 t r) :
    s.post enc P f false fresh handsOn again W args v W' := by
  refine ⟨ds, gs, [], [], [], [], hW, hres _ _ _, hargs _, hvars _, World.keptBut_mono (fun p hp => absurd hp List.not_mem_nil) hk, fun _ => ?_⟩
  exact ⟨hok, _, _, [], ⟨[], [], trodAll_append (hargs _) (hres _ _ _), hvars _, rfl, fun _ _ hp => absurd hp List.not_mem_nil, fun h => by cases h⟩, fun _ hp _ => hp⟩
theorem contract (H : Type) (enc : TypeId × Value → H) (W : World) (base : Nat) (args : Array Value) (ds gs : List (DataW H)) (before : List MemPlace)
    (hval : ∀ (j : Nat) t v, Tryd.f3.params[j]? = some t → args[j]? = some v → Value.okWide Tryd.prog W .any base t v)
    (hW : DataW.Whole enc Tryd.prog Tryd.f3.params.toList Rows.limbTextsSpec.vars false W args.toList ds gs before) (hL : laidMetH Tryd.prog Rows.limbTextsRow.laid W) (hsh : W.ShapedOpen Tryd.prog) :
    Calls Tryd.prog 3 args W fun e W' => ∃ v, e = .returned v ∧ Rows.limbTextsSpec.post enc Tryd.prog Tryd.f3 false true false false W args v W' := by
  have hW' := hW
  obtain ⟨p, q, hA0, hV, rfl, hfz, hnd⟩ := hW
  have hA : DataW.TrodAll enc Tryd.prog W 0 (fun _ => true) true Tryd.f3.params.toList args.toList ds p := hA0
  rw [show Tryd.f3.params = #[9, 24, 22] from rfl] at hA hval
  obtain ⟨v0, vs0, d0, ds0, p0, q0, hargs0, rfl, rfl, h0, r0⟩ := trodAll_cons hA
  obtain ⟨v1, vs1, d1, ds1, p1, q1, hargs1, rfl, rfl, h1, r1⟩ := trodAll_cons r0
  obtain ⟨v2, vs2, d2, ds2, p2, q2, hargs2, rfl, rfl, h2, r2⟩ := trodAll_cons r1
  obtain ⟨rfl, rfl, rfl⟩ := trodAll_nil r2
  obtain rfl : args = #[v0, v1, v2] := by cases args; simp_all
  obtain ⟨rfl, rfl⟩ := trodVars_none hV
  obtain ⟨a, rfl, rfl, rfl, ha⟩ := Go.ChangeMaps.open_string Tryd.underlying9 (hval 0 9 v0 rfl rfl) h0
  obtain ⟨b, lb, rfl, rfl, rfl, hb⟩ := open_words Tryd.underlying24 Tryd.underlying22 (by kernel_rfl) (by kernel_rfl) (hval 1 24 v1 rfl rfl) h1
  obtain ⟨c, rfl, rfl, rfl, hc⟩ := open_int Tryd.underlying22 (hval 2 22 v2 rfl rfl) h2
  clear hA0
  simp only [List.append_nil] at hW'
  refine (walk (start_mem hL hsh) a b lb hb c hc).mono fun e W' ⟨he, hg⟩ => ?_
  subst he
  refine ⟨_, rfl, post_plain hW' (fun _ _ _ => trodAll_cons_mk (shut_bool Tryd.underlying4 _) trodAll_mk0) (fun _ => ?_) (fun _ => rfl) (hg.frame _) (ok_one (by kernel_rfl) rfl (okWide_bool_mk Tryd.underlying4 _))⟩
  exact trodAll_cons_mk (Go.ChangeMaps.shut_string Tryd.underlying9 ha) (trodAll_cons_mk (shut_words Tryd.underlying24 Tryd.underlying22 (by kernel_rfl) (by kernel_rfl) lb hb) (trodAll_cons_mk (shut_int Tryd.underlying22 hc) (trodAll_mk0)))
def layTab (l : List Value) : Obj → Obj
  | .cells _ t frozen => .cells ⟨l⟩ t frozen
  | o => o
def cellsD : DataW Unit → List Value
  | .agg ds => ds.map fun | .lit (.int k n) => .int k n | _ => .nilIface
  | _ => []
noncomputable def laidWorld (os : Os) : World :=
  { World.holding Tryd.prog os ⟨#[], #[], []⟩ with heap := ((((World.holding Tryd.prog os ⟨#[], #[], []⟩).heap.modify 4 (layTab (cellsD Rows.laid_math_bits_deBruijn32tab))).modify 5 (layTab (cellsD Rows.laid_math_bits_deBruijn64tab))).modify 2 (layTab (cellsD Rows.laid_internal_strconv_uint64pow10))) }
def noTexts : Array Value := #[.string ⟨#[]⟩, .agg #[.int .u64 0, .int .u64 0, .int .u64 0, .int .u64 0, .int .u64 0, .int .u64 0, .int .u64 0, .int .u64 0], .int .u64 0]
theorem laid_met (os : Os) : laidMet Tryd.prog Rows.limbTextsRow.laid ((laidWorld os).forCall (fun _ _ => 0) ⟨#[], noTexts, []⟩).memory :=
  laidMet_of_run' 8 (by kernel_rfl) (by kernel_rfl)
theorem reads (os : Os) {H : Type} (enc : TypeId × Value → H) : ∃ places, DataW.whole enc Tryd.prog ((laidWorld os).forCall (fun _ _ => 0) ⟨#[], noTexts, []⟩).memory Tryd.f3.params.toList Rows.limbTextsSpec.vars false noTexts.toList 8 = some ([.lit (.string []), .agg [.lit (.int .u64 0), .lit (.int .u64 0), .lit (.int .u64 0), .lit (.int .u64 0), .lit (.int .u64 0), .lit (.int .u64 0), .lit (.int .u64 0), .lit (.int .u64 0)], .lit (.int .u64 0)], [], places) :=
  ⟨[], by kernel_rfl⟩
theorem lifted (os : Os) (started : os.Started) (H : Type) (enc : TypeId × Value → H) (F : Stop.Interp) :
    ReturnsInHanded {} Tryd.checked os 3 .any ((OpenSpec.ofChange Rows.limbTextsSpec).preRow enc Tryd.prog Tryd.f3 Rows.limbTextsRow.domain false Rows.limbTextsRow.laid) (((OpenSpec.ofChange Rows.limbTextsSpec).at F).post enc Tryd.prog Tryd.f3 false true false false) := by
  obtain ⟨places, hx⟩ := reads os enc
  refine returnsInHanded_of_row (C := Tryd.checked) (s := OpenSpec.ofChange Rows.limbTextsSpec) own started (by kernel_rfl) Tryd.func3
    (witness_row_at (enc := enc) (C := Tryd.checked) false (laidWorld os) noTexts rfl (by kernel_rfl) (by kernel_rfl) (by kernel_rfl)
      (OpenSpec.preRow_of_cond 8 hx (by kernel_rfl) (fun k hk => by cases hk) (by kernel_rfl) (laid_met os))) ?_
  intro W base args ds gs before hval hW _ _ _ hL hsh _
  exact contract H enc W base args ds gs before hval hW hL hsh
theorem said : Rows.LimbTextsSaid :=
  OpenClaim.holds_of_cond 3 Tryd.f3 rfl rfl rfl rfl rfl rfl rfl ⟨rfl, rfl, rfl, rfl, rfl⟩ rfl rfl rfl rfl rfl (by kernel_rfl) Tryd.func3 (by kernel_rfl)
    (of_decide_eq_true (by kernel_rfl)) (by unfold Func.isWrapper; first | (rw [if_pos (by decide +kernel)]; kernel_rfl) | (rw [if_neg (by decide +kernel)]; exact ⟨rfl, rfl⟩))
    (fun os started H enc _ F => by rw [OpenClaim.pre_eq_preRow]; exact lifted os started H enc F)
theorem plain (f : FuncId) (fn : Func) (hf : Tryd.pinned.checked.prog.funcNamed Rows.limbTextsRow.func = some f) (hfn : Tryd.pinned.checked.prog.funcs[f]? = some fn) :
    false = Tryd.pinned.checked.prog.looks [] ∧ ∀ (j : Nat) t, fn.params[j]? = some t → Tryd.pinned.checked.prog.wantsStandIn t = false := by
  obtain rfl : f = 3 := Option.some.inj ((show Tryd.prog.funcNamed Rows.limbTextsRow.func = some 3 by kernel_rfl).symm.trans hf) |>.symm
  obtain rfl : fn = Tryd.f3 := (Option.some.inj (Tryd.func3.symm.trans hfn)).symm
  refine ⟨by kernel_rfl, fun j t ht => ?_⟩
  rw [show Tryd.f3.params = #[9, 24, 22] from rfl] at ht
  have hm := Array.mem_of_getElem? ht
  simp only [List.mem_toArray, List.mem_cons, List.not_mem_nil, or_false] at hm
  rcases hm with rfl | rfl | rfl
  · exact (show Tryd.prog.wantsStandIn 9 = false by kernel_rfl)
  · exact (show Tryd.prog.wantsStandIn 24 = false by kernel_rfl)
  · exact (show Tryd.prog.wantsStandIn 22 = false by kernel_rfl)
theorem card : Rows.LimbTextsCardSaid :=
  Claim7.holds_tied_plain_at .later [] _ _ _ _ said (fun _ h => by cases h) (by kernel_rfl) (fun _ h => by cases h) limbTexts_row_tie rfl ⟨rfl, rfl⟩ (by kernel_rfl) rfl plain (by kernel_rfl)
end Go.Proofs.YtfgincdpgdlfnaaDoor.fnLimbTexts
