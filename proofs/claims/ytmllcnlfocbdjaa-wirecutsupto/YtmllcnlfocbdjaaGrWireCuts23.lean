/-
  WireCutsUptoSaid: any text cut into parts of any lengths, and any parts put together, come to what the document says, for all arguments that hold together at most 1048576 values and letters. No further condition.
-/
import Derived.Test.YtmllcnlfocbdjaaRows
import Derived.Test.YtmllcnlfocbdjaaGrWireCuts22
import Derived.Test.YtmllcnlfocbdjaaGrWireCuts15
import Derived.WalkKit
import Derived.ProofKit
import Derived.OpenShut
import Derived.Deep.DeepHandedRow
import Derived.Lib.LaidTab
set_option linter.unusedSimpArgs false
set_option linter.unusedVariables false
namespace Go.Proofs.Ytmllcnlfocbdjaa.fnWireCuts
open Go.ChangeShapes Go.WideShapes Go.ChangeAt Go.RowKit Go.Am Go.Am.Seat
set_option maxRecDepth 100000

theorem own : ownKnob Try.prog.godebug = none := by kernel_rfl
theorem laidOut : laidOutB Try.prog = true := by kernel_rfl

theorem start_mem {W : World} (hs : W.ShapedOpen Try.prog) : MR Try.prog (ren0 Try.prog mem0) mem0 W ∧ NoRow mem0 := by
  refine ⟨mr_tabs (Nat.le_of_ble_eq_true (by kernel_rfl)) (by obtain ⟨t, ht⟩ := Option.isSome_iff_exists.1 (show ((Try.prog.globals[0]?).map (·.type)).isSome = true by kernel_rfl); obtain ⟨c, h⟩ := shaped_at (g := 0) hs (Nat.lt_of_lt_of_le (Nat.lt_succ_self _) (Nat.le_of_ble_eq_true (by kernel_rfl))) ht; exact (Array.getElem?_eq_some_iff.1 h).1) ?_, ?_⟩
  · intro k b hb
    have h := (List.all_eq_true.1 (show mem0.all (fun | .dead => true | _ => false) = true by kernel_rfl)) b (List.mem_of_getElem? hb)
    cases b with
    | dead => trivial
    | row _ _ _ => cases h
    | tab _ _ => cases h
  · intro k e cs hb
    have h := (List.all_eq_true.1 (show mem0.all (fun | .dead => true | _ => false) = true by kernel_rfl)) _ (List.mem_of_getElem? hb)
    cases h

theorem params_ok : ∀ t ∈ Try.f3.params.toList, Try.prog.readableRec t = true ∧ t < Try.prog.types.size := by
  intro t ht
  have h := (List.all_eq_true.1 (show Try.f3.params.toList.all (fun t => Try.prog.readableRec t && decide (t < Try.prog.types.size)) = true by kernel_rfl)) t ht
  simpa using h

theorem one_le {H : Type} (d : DataW H) : 1 ≤ Rows.uptoBulk d := by
  cases d with
  | lit l => cases l <;> simp [Rows.uptoBulk]
  | nil => simp [Rows.uptoBulk]
  | ptr d => simp [Rows.uptoBulk]
  | slice elems spare => simp [Rows.uptoBulk]
  | agg parts => simp [Rows.uptoBulk]
  | iface t d => simp [Rows.uptoBulk]
  | map entries => simp [Rows.uptoBulk]
  | held h => simp [Rows.uptoBulk]
theorem part_le {H : Type} {d : DataW H} {l : List (DataW H)} (h : d ∈ l) : Rows.uptoBulk d ≤ Rows.uptoBulkAll l := by
  induction l with
  | nil => cases h
  | cons x r ih =>
    simp only [Rows.uptoBulkAll]
    cases List.mem_cons.1 h with
    | inl e => subst e; omega
    | inr e => have := ih e; omega
theorem bulkOK {H : Type} : BulkOK (H := H) Rows.uptoBulk where
  str := fun b => by simp only [Rows.uptoBulk]; omega
  agg := fun l d h => by have := part_le h; simp only [Rows.uptoBulk]; omega
  slice := fun l r d h => by have := part_le h; simp only [Rows.uptoBulk]; omega

theorem contract (H : Type) (enc : TypeId × Value → H) (W : World) (base : Nat) (args : Array Value) (ds gs : List (DataW H)) (before : List MemPlace)
    (hval : ∀ (j : Nat) t v, Try.f3.params[j]? = some t → args[j]? = some v → Value.okWide Try.prog W .any base t v)
    (hW : DataW.Whole enc Try.prog Try.f3.params.toList Rows.wireCutsSpec.vars false W args.toList ds gs before) (hsh : W.ShapedOpen Try.prog) (hk : Rows.uptoSmall H (ds ++ gs) = true) :
    Calls Try.prog 3 args W fun e W' => ∃ v, e = .returned v ∧ Rows.wireCutsSpec.post enc Try.prog Try.f3 false true false false W args v W' := by
  have hW' := hW
  obtain ⟨p, q, hA0, hV, hbef, hfz, hnd⟩ := hW
  have hA : DataW.TrodAll enc Try.prog W 0 (fun _ => true) true Try.f3.params.toList args.toList ds p := hA0
  rw [show Try.f3.params = #[9, 22, 23] from rfl] at hA hval
  obtain ⟨v0, vs0, d0, ds0, p0, q0, hargs0, rfl, hp0, h0, r0⟩ := trodAll_cons hA
  obtain ⟨v1, vs1, d1, ds1, p1, q1, hargs1, rfl, hp1, h1, r1⟩ := trodAll_cons r0
  obtain ⟨v2, vs2, d2, ds2, p2, q2, hargs2, rfl, hp2, h2, r2⟩ := trodAll_cons r1
  obtain ⟨hn1, rfl, hn3⟩ := trodAll_nil r2
  obtain rfl : args = #[v0, v1, v2] := by cases args; simp_all
  obtain ⟨rfl, rfl⟩ := trodVars_none hV
  clear hA0
  obtain ⟨M0, n0⟩ := start_mem hsh
  have hk9 : Rows.uptoBulkAll [d0, d1, d2] ≤ 1048576 := by
    have h9 := of_decide_eq_true hk
    rw [List.append_nil] at h9
    exact h9
  have sm : ∀ d, d ∈ [d0, d1, d2] → Small Rows.uptoBulk 1048576 d := fun d hd => .inr (Nat.le_trans (part_le hd) hk9)
  obtain ⟨k0, _⟩ := open_cell (k := .str) bulkOK (sm d0 (by simp)) (by kernel_rfl) (hval 0 9 v0 rfl rfl) h0
  obtain ⟨a1, m1, ρ1, k1, le1, vr1, M1', n1'⟩ := mr_arg (ks := [.int .i64]) bulkOK (sm d1 (by simp)) Try.underlying22 (by kernel_rfl) (by kernel_rfl) (by decide) (hval 1 22 v1 rfl rfl) h1 M0 n0
  obtain ⟨a2, m2, ρ2, k2, le2, vr2, M2', n2'⟩ := mr_arg (ks := [.str]) bulkOK (sm d2 (by simp)) Try.underlying23 (by kernel_rfl) (by kernel_rfl) (by decide) (hval 2 23 v2 rfl rfl) h2 M1' n1'
  obtain ⟨m1, hrun⟩ := (lawWC wire11) k0 k1 k2
  have hr := (runQ_sound envOK (fun _ h => by cases h) 2001).1 3 [v0, a1, a2] m2 (.bool true) m1 hrun ρ2 W #[v0, v1, v2] M2' ⟨rfl, fun i x y hx hy => by
    match i, hx, hy with
    | 0, hx, hy => cases hx; cases hy; exact .lit (lit2_of_lit1 (lit1_of_lit0 (CK.is_lit (N := 1048576) (k := .str) k0)))
    | 1, hx, hy => cases hx; cases hy; exact (vr1).mono le2
    | 2, hx, hy => cases hx; cases hy; exact vr2
    | i + 3, hx, hy => simp at hx⟩
  refine hr.mono fun e W' he => ?_
  obtain ⟨he, hb⟩ := below_of_ends n2' rfl he
  subst he
  exact ⟨_, rfl, post_true laidOut hW' rfl params_ok (tb := 4) rfl Try.underlying4 ⟨rfl, rfl, rfl⟩ hb⟩

/-- A world for the witness. -/
noncomputable def laidWorld (os : Os) : World := World.holding Try.prog os ⟨#[], #[], []⟩
def noArgs : Array Value := #[.string ⟨#[]⟩, .slice none 0 0, .slice none 0 0]
theorem laid_met (os : Os) : laidMet Try.prog Rows.wireCutsUptoRow.laid ((laidWorld os).forCall (fun _ _ => 0) ⟨#[], noArgs, []⟩).memory :=
  laidMet_of_run' 8 (by kernel_rfl) (by kernel_rfl)
theorem reads (os : Os) {H : Type} (enc : TypeId × Value → H) : ∃ places, DataW.whole enc Try.prog ((laidWorld os).forCall (fun _ _ => 0) ⟨#[], noArgs, []⟩).memory Try.f3.params.toList Rows.wireCutsSpec.vars false noArgs.toList 8 = some ([.lit (.string []), .nil, .nil], [], places) :=
  ⟨[], by kernel_rfl⟩

theorem lifted (os : Os) (started : os.Started) (H : Type) (enc : TypeId × Value → H) (F : Stop.Interp) :
    ReturnsInHanded {} Try.checked os 3 .any ((Rows.OpenSpec.upto Rows.wireCutsSpec).preRow enc Try.prog Try.f3 Rows.wireCutsUptoRow.domain false Rows.wireCutsUptoRow.laid) (((Rows.OpenSpec.upto Rows.wireCutsSpec).at F).post enc Try.prog Try.f3 false true false false) := by
  obtain ⟨places, hx⟩ := reads os enc
  refine returnsInHanded_of_row (C := Try.checked) (s := (Rows.OpenSpec.upto Rows.wireCutsSpec)) own started (by kernel_rfl) Try.func3
    (witness_row_at (enc := enc) (C := Try.checked) false (laidWorld os) noArgs rfl (by kernel_rfl) (by kernel_rfl) (by kernel_rfl)
      (OpenSpec.preRow_of_cond 8 hx (by kernel_rfl) (fun k hk => by cases hk; kernel_rfl) (by kernel_rfl) (laid_met os))) ?_
  intro W base args ds gs before hval hW _ hcond _ hL hsh _
  exact contract H enc W base args ds gs before hval hW hsh (hcond _ rfl)

theorem said : Rows.WireCutsUptoSaid :=
  OpenClaim.holds_of_cond 3 Try.f3 rfl rfl rfl rfl rfl rfl rfl ⟨rfl, rfl, rfl, rfl, rfl⟩ rfl rfl rfl rfl rfl (by kernel_rfl) Try.func3 (by kernel_rfl)
    (of_decide_eq_true (by kernel_rfl)) (by unfold Func.isWrapper; first | (rw [if_pos (by decide +kernel)]; kernel_rfl) | (rw [if_neg (by decide +kernel)]; exact ⟨rfl, rfl⟩))
    (fun os started H enc _ F => by rw [OpenClaim.pre_eq_preRow]; exact lifted os started H enc F)
end Go.Proofs.Ytmllcnlfocbdjaa.fnWireCuts
namespace Go.Proofs.Ytmllcnlfocbdjaa
/-- The given statement. -/
theorem wireCutsHolds : Rows.WireCutsUptoSaid := fnWireCuts.said
end Go.Proofs.Ytmllcnlfocbdjaa
