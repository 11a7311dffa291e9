/-
  FieldParses (promise P5.1): for every 32 bytes and every text the law returns true and leaves them as they were, in every world in which the listed tables read as their initialisers lay them. Conditions: those of the card alone.
-/
import Derived.Test.YtcnhakfmnkegcaaDoorCards
import Derived.Test.YtcnhakfmnkegcaaDoorTie
import Derived.Test.YtcnhakfmnkegcaaDoorGrFieldParses39
import Derived.WalkKit
import Derived.ProofKit
import Derived.OpenShut
import Derived.Deep.DeepHandedRow
import Derived.Lib.LaidTab
import Derived.ChangeMaps5
import Derived.ShutString
set_option linter.unusedSimpArgs false
set_option linter.unusedVariables false
set_option maxRecDepth 100000
namespace Go.Proofs.YtcnhakfmnkegcaaDoor.fnFieldParses
open Go.ChangeShapes Go.WideShapes Go.ChangeAt Go.RowKit Go.Am Go.Am.Seat
theorem bytes_lit (l : List Int) : lit2 (Value.agg ⟨l.map (Value.int .u8)⟩) = true := by
  show (l.map (Value.int .u8)).all lit0 = true
  rw [List.all_map, List.all_eq_true]
  intro x _
  rfl
theorem own : ownKnob Tryd.prog.godebug = none := by kernel_rfl
theorem start_mem {W : World} (hL : laidMetH Tryd.prog Rows.fieldParsesRow.laid W) (hs : W.ShapedOpen Tryd.prog) : MR Tryd.prog (ren0 Tryd.prog mem5) mem5 W := by
  have hL' : laidMet Tryd.prog Rows.fieldParsesRow.laid W := hL
  have gs : 7 ≤ Tryd.prog.globals.size := Nat.le_of_ble_eq_true (by kernel_rfl)
  have t3 : Lib.TabIs Tryd.prog W _ .u64 Go.Am.Seat.pows := Lib.tabIs_of_head (g := 3) (t := 129) (by kernel_rfl) (by kernel_rfl) Tryd.underlying129 (by kernel_rfl) (by kernel_rfl) (by kernel_rfl) (laid_tail (laid_tail hL'))
  obtain ⟨c3, h3⟩ := shaped_at (g := 3) (t := 129) hs (by omega) (by kernel_rfl)
  have e3 := tab_at (by kernel_rfl) h3 t3
  have t0 : Lib.TabIs Tryd.prog W _ .u64 Go.Am.Seat.primeW := Lib.tabIs_of_head (g := 0) (t := 24) (by kernel_rfl) (by kernel_rfl) Tryd.underlying24 (by kernel_rfl) (by kernel_rfl) (by kernel_rfl) (laid_tail (laid_tail (laid_tail hL')))
  obtain ⟨c0, h0⟩ := shaped_at (g := 0) (t := 24) hs (by omega) (by kernel_rfl)
  have e0 := tab_at (by kernel_rfl) h0 t0
  obtain ⟨cL, hLast⟩ := shaped_at (g := 6) (t := 76) hs (by omega) (by kernel_rfl)
  refine mr_tabs (Nat.le_of_ble_eq_true (by kernel_rfl)) ?_ ?_
  . have : 6 < W.heap.size := (Array.getElem?_eq_some_iff.1 hLast).1
    show 7 ≤ W.heap.size
    omega
  . intro k b hb
    match k, hb with
    | 0, hb => cases hb; exact ⟨e0, by kernel_rfl, by kernel_rfl⟩
    | 1, hb => cases hb; trivial
    | 2, hb => cases hb; trivial
    | 3, hb => cases hb; exact ⟨e3, by kernel_rfl, by kernel_rfl⟩
    | 4, hb => cases hb; trivial
    | 5, hb => cases hb; trivial
    | 6, hb => cases hb; trivial
    | k + 7, hb => simp [mem5] at hb
theorem walk {W : World} (hm : MR Tryd.prog (ren0 Tryd.prog mem5) mem5 W) (a : List Int) (la : a.length = 32) (wa : ∀ n, n ∈ a -> (Lit.int .u8 n).wf = true) (b : ByteArray) : Calls Tryd.prog 6 #[.agg ⟨a.map (.int .u8)⟩, .string b] W fun e w' => e = .returned (.bool true) /\ Below W.heap.size W w' := by
  obtain ⟨m1, h⟩ := lawFPw a la wa b
  have hr := runK_sound envOK KB_hold 2001 6 [.agg ⟨a.map (.int .u8)⟩, .string b] mem5 (.bool true) m1 h (ren0 Tryd.prog mem5) W #[.agg ⟨a.map (.int .u8)⟩, .string b] hm ⟨rfl, fun i x y hx hy => by
    match i, hx, hy with
    | 0, hx, hy => cases hx; cases hy; exact .lit (bytes_lit _)
    | 1, hx, hy => cases hx; cases hy; exact .lit rfl
    | i + 2, hx, hy => simp at hx⟩
  refine hr.mono fun e w' he => below_of_ends (fun k e cs hk => ?_) rfl he
  match k, hk with
  | 0, hk => cases hk
  | 1, hk => cases hk
  | 2, hk => cases hk
  | 3, hk => cases hk
  | 4, hk => cases hk
  | 5, hk => cases hk
  | 6, hk => cases hk
  | k + 7, hk => simp [mem5] at hk
theorem post_plain {H : Type} {enc : TypeId × Value -> H} {P : Program} {f : Func} {s : ChangeSpec} {fresh handsOn again : Bool} {W W' : World} {args : Array Value} {v : Value} {ds gs : List (DataW H)}
    (hW : DataW.Whole enc P f.params.toList s.vars false W args.toList ds gs [])
    (hres : ∀ (b : Nat) (sp : Nat -> Bool) (hd : Bool), DataW.TrodAll enc P W' b sp hd f.resultTypes.toList (v.resultList f.resultTypes.size) (s.fn H (ds ++ gs)).results [])
    (hargs : ∀ sp : Nat -> Bool, DataW.TrodAll enc P W' 0 sp true f.params.toList args.toList (s.fn H (ds ++ gs)).args [])
    (hvars : ∀ sp : Nat -> Bool, DataW.TrodVars enc P W' sp s.vars (s.fn H (ds ++ gs)).vars []) (hk : W.keptBut W' (· ∈ ([] : List MemPlace)))
    (hok : ∀ (j : Nat) (t : TypeId) (r : Value), f.resultTypes[j]? = some t -> (v.resultList f.resultTypes.size)[j]? = some r -> Value.okWide P W' .any 0 t r) :
    s.post enc P f false fresh handsOn again W args v W' := by
  refine ⟨ds, gs, [], [], [], [], hW, hres _ _ _, hargs _, hvars _, World.keptBut_mono (fun p hp => absurd hp List.not_mem_nil) hk, fun _ => ?_⟩
  exact ⟨hok, _, _, [], ⟨[], [], trodAll_append (hargs _) (hres _ _ _), hvars _, rfl, fun _ _ hp => absurd hp List.not_mem_nil, fun h => by cases h⟩, fun _ hp _ => hp⟩
theorem contract (H : Type) (enc : TypeId × Value -> H) (W : World) (base : Nat) (args : Array Value) (ds gs : List (DataW H)) (before : List MemPlace)
    (hval : ∀ (j : Nat) t v, Tryd.f6.params[j]? = some t -> args[j]? = some v -> Value.okWide Tryd.prog W .any base t v)
    (hW : DataW.Whole enc Tryd.prog Tryd.f6.params.toList Rows.fieldParsesSpec.vars false W args.toList ds gs before) (hL : laidMetH Tryd.prog Rows.fieldParsesRow.laid W) (hsh : W.ShapedOpen Tryd.prog) :
    Calls Tryd.prog 6 args W fun e W' => ∃ v, e = .returned v /\ Rows.fieldParsesSpec.post enc Tryd.prog Tryd.f6 false true false false W args v W' := by
  have hW' := hW
  obtain ⟨p, q, hA0, hV, rfl, hfz, hnd⟩ := hW
  have hA : DataW.TrodAll enc Tryd.prog W 0 (fun _ => true) true Tryd.f6.params.toList args.toList ds p := hA0
  rw [show Tryd.f6.params = #[54, 9] from rfl] at hA hval
  obtain ⟨v0, vs0, d0, ds0, p0, q0, hargs0, rfl, rfl, h0, r0⟩ := trodAll_cons hA
  obtain ⟨v1, vs1, d1, ds1, p1, q1, hargs1, rfl, rfl, h1, r1⟩ := trodAll_cons r0
  obtain ⟨rfl, rfl, rfl⟩ := trodAll_nil r1
  obtain rfl : args = #[v0, v1] := by cases args; simp_all
  obtain ⟨rfl, rfl⟩ := trodVars_none hV
  obtain ⟨a, la, rfl, rfl, rfl, ha⟩ := open_arr Tryd.underlying54 Tryd.underlying5 (by kernel_rfl) (by kernel_rfl) (hval 0 54 v0 rfl rfl) h0
  obtain ⟨b, rfl, rfl, rfl, hb⟩ := Go.ChangeMaps.open_string Tryd.underlying9 (hval 1 9 v1 rfl rfl) h1
  clear hA0
  simp only [List.append_nil] at hW'
  refine (walk (start_mem hL hsh) a la ha b).mono fun e W' ⟨he, hg⟩ => ?_
  subst he
  refine ⟨_, rfl, post_plain hW' (fun _ _ _ => trodAll_cons_mk (shut_bool Tryd.underlying4 _) trodAll_mk0) (fun _ => ?_) (fun _ => rfl) (hg.frame _) (ok_one (by kernel_rfl) rfl (okWide_bool_mk Tryd.underlying4 _))⟩
  exact trodAll_cons_mk (shut_arr Tryd.underlying54 Tryd.underlying5 (by kernel_rfl) (by kernel_rfl) la ha) (trodAll_cons_mk (Go.ChangeMaps.shut_string Tryd.underlying9 hb) (trodAll_mk0))
def layTab (l : List Value) : Obj -> Obj
  | .cells _ t frozen => .cells ⟨l⟩ t frozen
  | o => o
def cellsD : DataW Unit -> List Value
  | .agg ds => ds.map fun | .lit (.int k n) => .int k n | _ => .nilIface
  | _ => []
noncomputable def laidWorld (os : Os) : World :=
  { World.holding Tryd.prog os ⟨#[], #[], []⟩ with heap := (((((World.holding Tryd.prog os ⟨#[], #[], []⟩).heap.modify 5 (layTab (cellsD Rows.laid_math_bits_deBruijn32tab))).modify 6 (layTab (cellsD Rows.laid_math_bits_deBruijn64tab))).modify 3 (layTab (cellsD Rows.laid_internal_strconv_uint64pow10))).modify 0 (layTab (cellsD Rows.laid_opaline_field_prime))) }
def noTexts : Array Value := #[.agg #[.int .u8 0, .int .u8 0, .int .u8 0, .int .u8 0, .int .u8 0, .int .u8 0, .int .u8 0, .int .u8 0, .int .u8 0, .int .u8 0, .int .u8 0, .int .u8 0, .int .u8 0, .int .u8 0, .int .u8 0, .int .u8 0, .int .u8 0, .int .u8 0, .int .u8 0, .int .u8 0, .int .u8 0, .int .u8 0, .int .u8 0, .int .u8 0, .int .u8 0, .int .u8 0, .int .u8 0, .int .u8 0, .int .u8 0, .int .u8 0, .int .u8 0, .int .u8 0], .string ⟨#[]⟩]
theorem laid_met (os : Os) : laidMet Tryd.prog Rows.fieldParsesRow.laid ((laidWorld os).forCall (fun _ _ => 0) ⟨#[], noTexts, []⟩).memory :=
  laidMet_of_run' 40 (by kernel_rfl) (by kernel_rfl)
theorem reads (os : Os) {H : Type} (enc : TypeId × Value -> H) : ∃ places, DataW.whole enc Tryd.prog ((laidWorld os).forCall (fun _ _ => 0) ⟨#[], noTexts, []⟩).memory Tryd.f6.params.toList Rows.fieldParsesSpec.vars false noTexts.toList 8 = some ([.agg [.lit (.int .u8 0), .lit (.int .u8 0), .lit (.int .u8 0), .lit (.int .u8 0), .lit (.int .u8 0), .lit (.int .u8 0), .lit (.int .u8 0), .lit (.int .u8 0), .lit (.int .u8 0), .lit (.int .u8 0), .lit (.int .u8 0), .lit (.int .u8 0), .lit (.int .u8 0), .lit (.int .u8 0), .lit (.int .u8 0), .lit (.int .u8 0), .lit (.int .u8 0), .lit (.int .u8 0), .lit (.int .u8 0), .lit (.int .u8 0), .lit (.int .u8 0), .lit (.int .u8 0), .lit (.int .u8 0), .lit (.int .u8 0), .lit (.int .u8 0), .lit (.int .u8 0), .lit (.int .u8 0), .lit (.int .u8 0), .lit (.int .u8 0), .lit (.int .u8 0), .lit (.int .u8 0), .lit (.int .u8 0)], .lit (.string [])], [], places) :=
  ⟨[], by kernel_rfl⟩
theorem lifted (os : Os) (started : os.Started) (H : Type) (enc : TypeId × Value -> H) (F : Stop.Interp) :
    ReturnsInHanded {} Tryd.checked os 6 .any ((OpenSpec.ofChange Rows.fieldParsesSpec).preRow enc Tryd.prog Tryd.f6 Rows.fieldParsesRow.domain false Rows.fieldParsesRow.laid) (((OpenSpec.ofChange Rows.fieldParsesSpec).at F).post enc Tryd.prog Tryd.f6 false true false false) := by
  obtain ⟨places, hx⟩ := reads os enc
  refine returnsInHanded_of_row (C := Tryd.checked) (s := OpenSpec.ofChange Rows.fieldParsesSpec) own started (by kernel_rfl) Tryd.func6
    (witness_row_at (enc := enc) (C := Tryd.checked) false (laidWorld os) noTexts rfl (by kernel_rfl) (by kernel_rfl) (by kernel_rfl)
      (OpenSpec.preRow_of_cond 8 hx (by kernel_rfl) (fun k hk => by cases hk) (by kernel_rfl) (laid_met os))) ?_
  intro W base args ds gs before hval hW _ _ _ hL hsh _
  exact contract H enc W base args ds gs before hval hW hL hsh
theorem said : Rows.FieldParsesSaid :=
  OpenClaim.holds_of_cond 6 Tryd.f6 rfl rfl rfl rfl rfl rfl rfl ⟨rfl, rfl, rfl, rfl, rfl⟩ rfl rfl rfl rfl rfl (by kernel_rfl) Tryd.func6 (by kernel_rfl)
    (of_decide_eq_true (by kernel_rfl)) (by unfold Func.isWrapper; first | (rw [if_pos (by decide +kernel)]; kernel_rfl) | (rw [if_neg (by decide +kernel)]; exact ⟨rfl, rfl⟩))
    (fun os started H enc _ F => by rw [OpenClaim.pre_eq_preRow]; exact lifted os started H enc F)
theorem plain (f : FuncId) (fn : Func) (hf : Tryd.pinned.checked.prog.funcNamed Rows.fieldParsesRow.func = some f) (hfn : Tryd.pinned.checked.prog.funcs[f]? = some fn) :
    false = Tryd.pinned.checked.prog.looks [] /\ ∀ (j : Nat) t, fn.params[j]? = some t -> Tryd.pinned.checked.prog.wantsStandIn t = false := by
  obtain rfl : f = 6 := Option.some.inj ((show Tryd.prog.funcNamed Rows.fieldParsesRow.func = some 6 by kernel_rfl).symm.trans hf) |>.symm
  obtain rfl : fn = Tryd.f6 := (Option.some.inj (Tryd.func6.symm.trans hfn)).symm
  refine ⟨by kernel_rfl, fun j t ht => ?_⟩
  rw [show Tryd.f6.params = #[54, 9] from rfl] at ht
  have hm := Array.mem_of_getElem? ht
  simp only [List.mem_toArray, List.mem_cons, List.not_mem_nil, or_false] at hm
  rcases hm with rfl | rfl
  . exact (show Tryd.prog.wantsStandIn 54 = false by kernel_rfl)
  . exact (show Tryd.prog.wantsStandIn 9 = false by kernel_rfl)
theorem card : Rows.FieldParsesCardSaid :=
  Claim7.holds_tied_plain_at .later [] _ _ _ _ said (fun _ h => by cases h) (by kernel_rfl) (fun _ h => by cases h) fieldParses_row_tie rfl ⟨rfl, rfl⟩ (by kernel_rfl) rfl plain (by kernel_rfl)
end Go.Proofs.YtcnhakfmnkegcaaDoor.fnFieldParses
